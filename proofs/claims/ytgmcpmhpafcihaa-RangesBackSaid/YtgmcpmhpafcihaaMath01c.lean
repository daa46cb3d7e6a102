/- Plain facts on tables: one laid over another one; a table is what it tells; how many numbers it has. -/
import Derived.Test.YtgmcpmhpafcihaaMath01b
namespace Go.Proofs.Ytgmcpmhpafcihaa
set_option linter.unusedVariables false
set_option linter.unusedSimpArgs false

/-- The piece of a row within lo to hi. -/
def clip (lo hi : Int) (x : R3) : R3 := ⟨max x.lo lo, min x.hi hi, x.v⟩
/-- The pieces of rows, while they begin at hi or below. -/
def pieces (lo hi : Int) : List R3 → List R3
  | [] => []
  | x :: l => if hi < x.lo then [] else clip lo hi x :: pieces lo hi l
def betweenF (l : List R3) (lo hi : Int) : List R3 := if hi < lo then [] else pieces lo hi (l.dropWhile fun x => decide (x.hi < lo))
def layStep (a : List R3) (st : List R3 × Int) (x : R3) : List R3 × Int := ((st.1 ++ betweenF a st.2 (x.lo - 1)) ++ [x], x.hi + 1)
def layTo (a b : List R3) : List R3 × Int := b.foldl (layStep a) ([], 0)
def layF (a b : List R3) : List R3 := (layTo a b).1 ++ betweenF a (layTo a b).2 1114111
theorem layTo_snoc (a b : List R3) (x : R3) : layTo a (b ++ [x]) = layStep a (layTo a b) x := by simp [layTo]

theorem rise_le {last last' : Int} {l : List R3} (h : riseF last l = true) (hl : last' ≤ last) : riseF last' l = true := by
  cases l with
  | nil => rfl
  | cons x l =>
    simp only [riseF, Bool.and_eq_true, okb_iff] at h ⊢
    exact ⟨by omega, h.2⟩
theorem rise_append (last : Int) (u v : List R3) : riseF last (u ++ v) = (riseF last u && riseF (lastHi last u) v) := by
  induction u generalizing last with
  | nil => simp [riseF, lastHi]
  | cons x u ih => simp only [List.cons_append, riseF, ih, Bool.and_assoc, lastHi_cons]
theorem getF_cons (x : R3) (l : List R3) (r : Int) : getF (x :: l) r = if inB r x = true then x.v else getF l r := by
  unfold getF
  rw [List.find?_cons]
  cases inB r x <;> simp
theorem getF_nil (r : Int) : getF [] r = 0 := rfl
theorem getF_pos {last : Int} {l : List R3} (h : riseF last l = true) (r : Int) : getF l r = 0 ∨ 1 ≤ getF l r := by
  rcases getF_cases l r with ⟨k, x, hx, _, he⟩ | ⟨_, he⟩
  · right; rw [he]; exact (rise_ok h hx).2.2.2.1
  · left; exact he
theorem getF_app {last : Int} {u v : List R3} (hu : riseF last u = true) (r : Int) : getF (u ++ v) r = if getF u r = 0 then getF v r else getF u r := by
  induction u generalizing last with
  | nil => simp [getF_nil]
  | cons x u ih =>
    simp only [riseF, Bool.and_eq_true, okb_iff] at hu
    rw [List.cons_append, getF_cons, getF_cons]
    split
    · rw [if_neg (by omega)]
    · exact ih hu.2
theorem getF_low {last : Int} {l : List R3} (h : riseF last l = true) {r : Int} (hr : r ≤ last) : getF l r = 0 := by
  rcases getF_cases l r with ⟨k, x, hx, hin, he⟩ | ⟨_, he⟩
  · have := rise_ok h hx; rw [inB_iff] at hin; omega
  · exact he
theorem getF_top {last : Int} {l : List R3} (h : riseF last l = true) {r : Int} (hr : 1114111 < r) : getF l r = 0 := by
  rcases getF_cases l r with ⟨k, x, hx, hin, he⟩ | ⟨_, he⟩
  · have := rise_ok h hx; rw [inB_iff] at hin; omega
  · exact he
theorem lastHi_ge {last : Int} {l : List R3} (h : riseF last l = true) : last ≤ lastHi last l := by
  induction l generalizing last with
  | nil => simp [lastHi]
  | cons x l ih =>
    simp only [riseF, Bool.and_eq_true, okb_iff] at h
    rw [lastHi_cons]
    have := ih h.2
    omega
theorem getF_high {last : Int} {l : List R3} (h : riseF last l = true) {r : Int} (hr : lastHi last l < r) : getF l r = 0 := by
  induction l generalizing last with
  | nil => rfl
  | cons x l ih =>
    simp only [riseF, Bool.and_eq_true, okb_iff] at h
    rw [lastHi_cons] at hr
    have := lastHi_ge h.2
    rw [getF_cons, if_neg (by rw [inB_iff]; omega)]
    exact ih h.2 hr

theorem pieces_ok {last lo hi : Int} {m : List R3} (h : riseF last m = true) (hlo : ∀ y ∈ m, lo ≤ y.hi) (hlh : lo ≤ hi) (h0 : 0 ≤ lo) (hm : hi ≤ 1114111) :
    riseF (max last (lo - 1)) (pieces lo hi m) = true ∧ (∀ r, getF (pieces lo hi m) r = if lo ≤ r ∧ r ≤ hi then getF m r else 0) := by
  induction m generalizing last with
  | nil => exact ⟨rfl, fun r => by simp [pieces, getF_nil]⟩
  | cons y m ih =>
    have hr := h
    simp only [riseF, Bool.and_eq_true, okb_iff] at h
    obtain ⟨hy, hm'⟩ := h
    have hly := hlo y (by simp)
    unfold pieces
    split
    · rename_i hlt
      refine ⟨rfl, fun r => ?_⟩
      rw [getF_nil]
      split
      · rename_i hh
        exact (getF_low (last := y.lo - 1) (by simp only [riseF, Bool.and_eq_true, okb_iff]; exact ⟨by omega, hm'⟩) (by omega)).symm
      · rfl
    · rename_i hge
      obtain ⟨i1, i2⟩ := ih hm' (fun z hz => hlo z (by simp [hz]))
      refine ⟨?_, fun r => ?_⟩
      · simp only [riseF, Bool.and_eq_true, okb_iff, clip]
        refine ⟨by omega, rise_le i1 (by omega)⟩
      · rw [getF_cons, getF_cons, i2 r]
        have e : (inB r (clip lo hi y) = true) ↔ (inB r y = true ∧ lo ≤ r ∧ r ≤ hi) := by
          rw [inB_iff, inB_iff]; simp only [clip]; omega
        by_cases hin : inB r y = true
        · by_cases hb : lo ≤ r ∧ r ≤ hi
          · rw [if_pos (e.2 ⟨hin, hb⟩), if_pos hb, if_pos hin]; rfl
          · rw [if_neg (fun q => hb (e.1 q).2), if_neg hb, if_neg hb]
        · rw [if_neg (fun q => hin (e.1 q).1), if_neg hin]
theorem pieces_last {last lo hi : Int} {m : List R3} (hl : last ≤ hi) : lastHi last (pieces lo hi m) ≤ hi := by
  induction m generalizing last with
  | nil => simpa [pieces, lastHi] using hl
  | cons y m ih =>
    unfold pieces
    split
    · simpa [lastHi] using hl
    · rw [lastHi_cons]; exact ih (by simp only [clip]; omega)
theorem drop_rise {last lo : Int} {a : List R3} (h : riseF last a = true) : ∃ last', riseF last' (a.dropWhile fun x => decide (x.hi < lo)) = true ∧ (∀ y ∈ (a.dropWhile fun x => decide (x.hi < lo)), lo ≤ y.hi) ∧ last ≤ last' ∧
    (∀ r, lo ≤ r → getF (a.dropWhile fun x => decide (x.hi < lo)) r = getF a r) := by
  induction a generalizing last with
  | nil => exact ⟨last, rfl, by simp, Int.le_refl _, fun r _ => rfl⟩
  | cons y a ih =>
    have hr := h
    simp only [riseF, Bool.and_eq_true, okb_iff] at h
    rw [List.dropWhile_cons]
    split
    · rename_i hlt
      simp at hlt
      obtain ⟨l', i1, i2, i3, i4⟩ := ih h.2
      refine ⟨l', i1, i2, by omega, fun r hr' => ?_⟩
      rw [i4 r hr', getF_cons, if_neg (by rw [inB_iff]; omega)]
    · rename_i hge
      simp at hge
      refine ⟨last, hr, fun z hz => ?_, Int.le_refl _, fun r _ => rfl⟩
      obtain ⟨k, hk⟩ := List.mem_iff_getElem?.1 hz
      cases k with
      | zero => simp at hk; subst hk; exact hge
      | succ k =>
        have h1 := rise_ok h.2 (show a[k]? = some z by simpa using hk)
        omega
theorem between_ok {lo hi : Int} {a : List R3} (h : riseF (-1) a = true) (h0 : 0 ≤ lo) (hm : hi ≤ 1114111) :
    riseF (lo - 1) (betweenF a lo hi) = true ∧ (∀ r, getF (betweenF a lo hi) r = if lo ≤ r ∧ r ≤ hi then getF a r else 0) ∧ (lo ≤ hi + 1 → lastHi (lo - 1) (betweenF a lo hi) ≤ hi) := by
  unfold betweenF
  split
  · refine ⟨rfl, fun r => ?_, fun hh => by simp [lastHi]; omega⟩
    rw [if_neg (by omega)]; rfl
  · rename_i hlh
    obtain ⟨l', i1, i2, i3, i4⟩ := drop_rise (lo := lo) h
    obtain ⟨p1, p2⟩ := pieces_ok i1 i2 (by omega) h0 hm
    refine ⟨rise_le p1 (by omega), fun r => ?_, fun _ => pieces_last (by omega)⟩
    rw [p2 r]
    split
    · rename_i hh; rw [i4 r hh.1]
    · rfl

theorem layTo_ok {a b : List R3} (ha : riseF (-1) a = true) (hb : riseF (-1) b = true) :
    riseF (-1) (layTo a b).1 = true ∧ lastHi (-1) (layTo a b).1 = (layTo a b).2 - 1 ∧ (layTo a b).2 = lastHi (-1) b + 1 ∧ (∀ r, getF (layTo a b).1 r = if getF b r = 0 then (if r < (layTo a b).2 then getF a r else 0) else getF b r) := by
  induction b using snoc_ind with
  | h0 =>
    refine ⟨rfl, rfl, rfl, fun r => ?_⟩
    show getF [] r = if getF [] r = 0 then (if r < 0 then getF a r else 0) else getF [] r
    rw [getF_nil, if_pos rfl]
    split
    · exact (getF_low ha (by omega)).symm
    · rfl
  | h1 b x ih =>
    rw [rise_snoc, Bool.and_eq_true, okb_iff] at hb
    obtain ⟨hb1, hx⟩ := hb
    obtain ⟨i1, i2, i3, i4⟩ := ih hb1
    have hlb := lastHi_ge hb1
    rw [layTo_snoc]
    unfold layStep
    generalize (layTo a b).1 = out at i1 i2 i4
    generalize (layTo a b).2 = fr at i2 i3 i4
    simp only []
    obtain ⟨b1, b2, b3⟩ := between_ok (lo := fr) (hi := x.lo - 1) ha (by omega) (by omega)
    have b3' := b3 (by omega)
    have r1 : riseF (-1) (out ++ betweenF a fr (x.lo - 1)) = true := by rw [rise_append, i1, i2, b1]; rfl
    have hl1 : lastHi (-1) (out ++ betweenF a fr (x.lo - 1)) ≤ x.lo - 1 := by
      unfold lastHi at b3' i2 ⊢
      rw [List.getLast?_append]
      cases hq : (betweenF a fr (x.lo - 1)).getLast? with
      | none => rw [hq] at b3'; simp at b3' ⊢; omega
      | some z => rw [hq] at b3'; simp at b3' ⊢; omega
    refine ⟨?_, by rw [lastHi_snoc]; omega, by rw [lastHi_snoc], fun r => ?_⟩
    · rw [rise_snoc, r1, okb_iff.2 (by omega)]; rfl
    · rw [getF_app r1, getF_app i1, getF_app hb1, i4 r, b2 r, getF_cons, getF_nil]
      have hbr := getF_high hb1 (r := r)
      have har := getF_low ha (r := r)
      by_cases hin : inB r x = true
      · have hin' := inB_iff.1 hin
        rw [if_pos hin, hbr (by omega)]
        simp only [if_pos, if_neg (show ¬ r < fr by omega), if_neg (show ¬ (fr ≤ r ∧ r ≤ x.lo - 1) by omega)]
        rw [if_neg (by omega)]
      · rw [if_neg hin]
        rw [inB_iff] at hin
        by_cases hg : getF b r = 0
        · by_cases hA : getF a r = 0
          · simp [hg, hA]
          · by_cases h1 : r < fr
            · simp [hg, hA, h1, show r < x.hi + 1 by omega]
            · by_cases h2 : r ≤ x.lo - 1
              · simp [hg, hA, h1, h2, show r < x.hi + 1 by omega, show fr ≤ r by omega]
              · simp [hg, hA, h1, h2, show ¬ r < x.hi + 1 by omega]
        · simp only [if_neg hg]
theorem lay_ok {a b : List R3} (ha : riseF (-1) a = true) (hb : riseF (-1) b = true) : riseF (-1) (layF a b) = true ∧ (∀ r, getF (layF a b) r = if getF b r = 0 then getF a r else getF b r) := by
  obtain ⟨i1, i2, i3, i4⟩ := layTo_ok ha hb
  have hlb := lastHi_ge hb
  unfold layF
  generalize (layTo a b).1 = out at *
  generalize (layTo a b).2 = fr at *
  obtain ⟨b1, b2, _⟩ := between_ok (lo := fr) (hi := 1114111) ha (by omega) (Int.le_refl _)
  refine ⟨by rw [rise_append, i1, i2, b1]; rfl, fun r => ?_⟩
  rw [getF_app i1, i4 r, b2 r]
  have ht := getF_top ha (r := r)
  by_cases hg : getF b r = 0
  · by_cases hA : getF a r = 0
    · simp [hg, hA]
    · by_cases h1 : r < fr
      · simp [hg, hA, h1]
      · have h2 : r ≤ 1114111 := by
          by_cases hq : r ≤ 1114111
          · exact hq
          · exact absurd (ht (by omega)) hA
        simp [hg, hA, h1, h2, show fr ≤ r by omega]
  · simp only [if_neg hg]
end Go.Proofs.Ytgmcpmhpafcihaa
