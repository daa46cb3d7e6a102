/- Plain facts on tables: what is made of rows tells what they tell, and as many numbers; made again it is the same. -/
import Derived.Test.YthlkpcfpapiigaaDoorMath01
namespace Go.Proofs.YthlkpcfpapiigaaDoor
set_option linter.unusedVariables false
set_option linter.unusedSimpArgs false

theorem joinF_snoc (l : List R3) (x : R3) : joinF (l ++ [x]) = joinStep (joinF l) x := by simp [joinF]
def lastHi (last : Int) (l : List R3) : Int := (l.getLast?.map R3.hi).getD last
theorem lastHi_cons (last : Int) (y : R3) (l : List R3) : lastHi last (y :: l) = lastHi y.hi l := by
  unfold lastHi
  cases l with
  | nil => rfl
  | cons z l =>
    rw [List.getLast?_cons_cons, List.getLast?_eq_some_getLast (l := z :: l) (by simp)]
    rfl
theorem rise_snoc (last : Int) (l : List R3) (x : R3) : riseF last (l ++ [x]) = (riseF last l && R3.okb (lastHi last l) x) := by
  induction l generalizing last with
  | nil => simp [riseF, lastHi]
  | cons y l ih =>
    simp only [List.cons_append, riseF, ih, Bool.and_assoc, lastHi_cons]
theorem lastHi_snoc (last : Int) (l : List R3) (x : R3) : lastHi last (l ++ [x]) = x.hi := by simp [lastHi]
theorem apart_snoc (l : List R3) (x : R3) : apartF (l ++ [x]) = (apartF l && (match l.getLast? with | some y => !glue y x | none => true)) := by
  induction l with
  | nil => simp [apartF]
  | cons y l ih =>
    simp only [List.cons_append, apartF, ih]
    cases l with
    | nil => simp [apartF]
    | cons z l => simp [apartF, Bool.and_assoc]
theorem find_or (a b : List R3) (r : Int) : (a ++ b).find? (inB r) = (a.find? (inB r)).or (b.find? (inB r)) := by rw [List.find?_append]
theorem find_glue {r : Int} {y x : R3} (hy : y.lo ≤ y.hi) (hx : x.lo ≤ x.hi) (h : x.lo = y.hi + 1) (hv : x.v = y.v) : ([y, x].find? (inB r)).map R3.v = ([(⟨y.lo, x.hi, y.v⟩ : R3)].find? (inB r)).map R3.v := by
  have e : inB r (⟨y.lo, x.hi, y.v⟩ : R3) = (inB r y || inB r x) := by
    rw [Bool.eq_iff_iff, Bool.or_eq_true, inB_iff, inB_iff, inB_iff]
    show y.lo ≤ r ∧ r ≤ x.hi ↔ _
    omega
  simp only [List.find?_cons, List.find?_nil, e]
  cases h1 : inB r y <;> cases h2 : inB r x <;> simp [hv]
theorem or_map {a b c : Option R3} (h : b.map R3.v = c.map R3.v) : (a.or b).map R3.v = (a.or c).map R3.v := by
  cases a with
  | none => simpa using h
  | some x => rfl

theorem or_left {a b c : Option R3} (h : a.map R3.v = b.map R3.v) : (a.or c).map R3.v = (b.or c).map R3.v := by
  cases a <;> cases b <;> simp at h ⊢
  exact h

structure Joined (l out : List R3) : Prop where
  rise : riseF (-1) out = true
  last : lastHi (-1) out = lastHi (-1) l
  apart : apartF out = true
  get : ∀ r, (out.find? (inB r)).map R3.v = (l.find? (inB r)).map R3.v
  tot : totF out = totF l
  len : out.length ≤ l.length
theorem joined {l : List R3} (h : riseF (-1) l = true) : Joined l (joinF l) := by
  induction l using snoc_ind with
  | h0 => exact ⟨rfl, rfl, rfl, fun _ => rfl, rfl, Nat.le_refl _⟩
  | h1 l x ih =>
    rw [rise_snoc, Bool.and_eq_true] at h
    obtain ⟨h1, h2⟩ := h
    have I := ih h1
    rw [joinF_snoc]
    generalize joinF l = out at I
    rw [← I.last] at h2
    unfold joinStep
    cases hl : out.getLast? with
    | none =>
      have ho : out = [] := by simpa using hl
      subst ho
      refine ⟨?_, by rw [lastHi_snoc]; rfl, rfl, fun r => ?_, ?_, by simp⟩
      · simpa [riseF, lastHi] using h2
      · rw [find_or]
        have := I.get r
        simp only [List.find?_nil, Option.map_none] at this
        rw [Option.map_eq_none_iff.1 this.symm]
        simp
      · rw [totF_append, ← I.tot]; simp [totF]
    | some y =>
      have hne : out ≠ [] := by rintro rfl; simp at hl
      have hly : out.getLast hne = y := by rw [List.getLast?_eq_some_getLast hne] at hl; injection hl
      obtain ⟨pre, rfl⟩ : ∃ pre, out = pre ++ [y] := ⟨out.dropLast, by rw [← hly]; exact (List.dropLast_concat_getLast hne).symm⟩
      dsimp only
      rw [lastHi_snoc, okb_iff] at h2
      have hr := I.rise
      rw [rise_snoc, Bool.and_eq_true, okb_iff] at hr
      cases hg : glue y x
      · rw [if_neg (by simp)]
        refine ⟨?_, by rw [lastHi_snoc, lastHi_snoc], ?_, fun r => ?_, ?_, by have := I.len; simp at this ⊢; omega⟩
        · rw [rise_snoc, lastHi_snoc, I.rise, okb_iff.2 h2]; rfl
        · rw [apart_snoc, I.apart]
          simp [hg]
        · rw [find_or, find_or l]
          have := I.get r
          exact or_left this
        · rw [totF_append, totF_append l, I.tot]
      · rw [if_pos rfl]
        have hg' : x.lo = y.hi + 1 ∧ x.v = y.v := by simpa [glue] using hg
        have hd : (pre ++ [y]).dropLast = pre := by simp
        rw [hd]
        refine ⟨?_, by rw [lastHi_snoc, lastHi_snoc], ?_, fun r => ?_, ?_, by have := I.len; simp at this ⊢; omega⟩
        · rw [rise_snoc, hr.1, okb_iff.2 (by show lastHi (-1) pre < y.lo ∧ y.lo ≤ x.hi ∧ x.hi ≤ 1114111 ∧ 1 ≤ y.v ∧ y.v ≤ 255; omega)]; rfl
        · have := I.apart
          rw [apart_snoc] at this ⊢
          exact this
        · rw [find_or, find_or l]
          have h1 := I.get r
          rw [find_or] at h1
          rw [← or_map (a := pre.find? (inB r)) (find_glue (r := r) hr.2.2.1 h2.2.1 hg'.1 hg'.2)]
          rw [show [y, x] = [y] ++ [x] from rfl, find_or [y], ← Option.or_assoc]
          exact or_left h1
        · have h1 := I.tot
          rw [totF_append] at h1 ⊢
          rw [totF_append l, ← h1]
          simp [totF]
          omega
theorem join_apart {l : List R3} (h : apartF l = true) : joinF l = l := by
  induction l using snoc_ind with
  | h0 => rfl
  | h1 l x ih =>
    rw [apart_snoc, Bool.and_eq_true] at h
    rw [joinF_snoc, ih h.1]
    unfold joinStep
    cases hl : l.getLast? with
    | none => have : l = [] := by simpa using hl
              subst this; rfl
    | some y =>
      have h2 := h.2
      rw [hl] at h2
      dsimp only at h2 ⊢
      rw [if_neg (by simpa using h2)]
theorem join_sane {l : List R3} (h : riseF (-1) l = true) (hn : l.length ≤ 4096) : saneF (joinF l) = true := by
  have J := joined h
  have := J.len
  simp [saneF, J.rise, J.apart]
  omega
theorem join_get {l : List R3} (h : riseF (-1) l = true) (r : Int) : getF (joinF l) r = getF l r := by
  unfold getF
  rw [(joined h).get r]
theorem join_again {l : List R3} (h : riseF (-1) l = true) : joinF (joinF l) = joinF l := join_apart (joined h).apart

theorem getF_snoc_hit {l : List R3} {k : Nat} {x : R3} {r : Int} (h : riseF (-1) l = true) (hx : l[k]? = some x) (hr : inB r x = true) : getF (l.take (k + 1)) r = x.v := by
  refine getF_hit (k := k) (x := x) (fun j y hj hy => ?_) ?_ hr
  · rw [List.getElem?_take] at hy
    rw [if_pos (by omega)] at hy
    cases hq : inB r y with
    | false => rfl
    | true => have := rise_uniq h hy hx hq hr; omega
  · rw [List.getElem?_take, if_pos (by omega)]; exact hx
theorem getF_snoc_miss {l : List R3} {k : Nat} {x : R3} {r : Int} (hx : l[k]? = some x) (hr : inB r x = false) : getF (l.take (k + 1)) r = getF (l.take k) r := by
  unfold getF
  rw [take_snoc hx, find_or]
  simp [hr]
end Go.Proofs.YthlkpcfpapiigaaDoor
