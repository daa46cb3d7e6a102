/- Plain facts on tables: rows that rise; what a number next to a row's ends is told. -/
import Derived.Test.YthlkpcfpapiigaaDoorPlain01
namespace Go.Proofs.YthlkpcfpapiigaaDoor
set_option linter.unusedVariables false
set_option linter.unusedSimpArgs false

theorem rise_ok {last : Int} {l : List R3} (h : riseF last l = true) {k : Nat} {x : R3} (hx : l[k]? = some x) : last < x.lo ∧ x.lo ≤ x.hi ∧ x.hi ≤ 1114111 ∧ 1 ≤ x.v ∧ x.v ≤ 255 := by
  induction l generalizing last k with
  | nil => simp at hx
  | cons y l ih =>
    simp only [riseF, Bool.and_eq_true, okb_iff] at h
    cases k with
    | zero => simp at hx; subst hx; exact h.1
    | succ k =>
      simp at hx
      have := ih h.2 hx
      omega
theorem sane_parts {l : List R3} (h : saneF l = true) : l.length ≤ 4096 ∧ riseF (-1) l = true ∧ apartF l = true := by
  simpa [saneF] using h
theorem rise_lt {last : Int} {l : List R3} (h : riseF last l = true) {j k : Nat} {x y : R3} (hx : l[j]? = some x) (hy : l[k]? = some y) (hjk : j < k) : x.hi < y.lo := by
  induction l generalizing last j k with
  | nil => simp at hx
  | cons z l ih =>
    simp only [riseF, Bool.and_eq_true, okb_iff] at h
    cases k with
    | zero => omega
    | succ k =>
      simp at hy
      cases j with
      | zero => simp at hx; subst hx; exact (rise_ok h.2 hy).1
      | succ j => simp at hx; exact ih h.2 hx hy (by omega)
theorem inB_iff {r : Int} {x : R3} : inB r x = true ↔ x.lo ≤ r ∧ r ≤ x.hi := by simp [inB]
theorem inB_no {r : Int} {x : R3} : inB r x = false ↔ ¬ (x.lo ≤ r ∧ r ≤ x.hi) := by simp [inB]
theorem rise_uniq {last : Int} {l : List R3} (h : riseF last l = true) {j k : Nat} {x y : R3} {r : Int} (hx : l[j]? = some x) (hy : l[k]? = some y) (h1 : inB r x = true) (h2 : inB r y = true) : j = k := by
  rw [inB_iff] at h1 h2
  rcases Nat.lt_trichotomy j k with hl | he | hg
  · have := rise_lt h hx hy hl; omega
  · exact he
  · have := rise_lt h hy hx hg; omega
theorem getF_at {last : Int} {l : List R3} (h : riseF last l = true) {k : Nat} {x : R3} {r : Int} (hx : l[k]? = some x) (hr : inB r x = true) : getF l r = x.v := by
  refine getF_hit (k := k) (fun j y hj hy => ?_) hx hr
  cases hq : inB r y with
  | false => rfl
  | true => have := rise_uniq h hy hx hq hr; omega
theorem getF_cases (l : List R3) (r : Int) : (∃ (k : Nat) (x : R3), l[k]? = some x ∧ inB r x = true ∧ getF l r = x.v) ∨ ((∀ (k : Nat) (x : R3), l[k]? = some x → inB r x = false) ∧ getF l r = 0) := by
  unfold getF
  cases hf : l.find? (inB r) with
  | none =>
    right
    refine ⟨fun k x hx => ?_, rfl⟩
    rw [List.find?_eq_none] at hf
    have := hf x (List.mem_of_getElem? hx)
    simpa using this
  | some x =>
    left
    obtain ⟨k, hk⟩ := List.mem_iff_getElem?.1 (List.mem_of_find?_eq_some hf)
    exact ⟨k, x, hk, by have := List.find?_some hf; simpa using this, rfl⟩
theorem apart_at {l : List R3} (h : apartF l = true) {k : Nat} {x y : R3} (hx : l[k]? = some x) (hy : l[k + 1]? = some y) : glue x y = false := by
  induction l generalizing k with
  | nil => simp at hx
  | cons z l ih =>
    simp only [apartF, Bool.and_eq_true] at h
    cases k with
    | zero =>
      simp at hx hy
      subst hx
      cases l with
      | nil => simp at hy
      | cons u l => simp at hy; subst hy; simpa using h.1
    | succ k => exact ih h.2 (by simpa using hx) (by simpa using hy)

def befB (l : List R3) (i : Nat) (x : R3) : Bool := decide (0 < i) && match l[i - 1]? with
  | some y => y.hi == x.lo - 1
  | none => false
def aftB (l : List R3) (i : Nat) (x : R3) : Bool := match l[i + 1]? with
  | some y => y.lo == x.hi + 1
  | none => false
theorem bef_no {l : List R3} (h : riseF (-1) l = true) {i : Nat} {x : R3} (hx : l[i]? = some x) (hb : befB l i x = false) : getF l (x.lo - 1) = 0 := by
  rcases getF_cases l (x.lo - 1) with ⟨k, y, hy, hin, _⟩ | ⟨_, h0⟩
  · exfalso
    rw [inB_iff] at hin
    have hxo := rise_ok h hx
    rcases Nat.lt_trichotomy k i with hl | he | hg
    · have hlt := rise_lt h hy hx hl
      by_cases hk : k = i - 1
      · subst hk
        unfold befB at hb
        rw [hy] at hb
        simp at hb
        exact hb (by omega) (by omega)
      · have hi1 : i - 1 < l.length := by have := (List.getElem?_eq_some_iff.1 hx).1; omega
        have hz : l[i - 1]? = some l[i - 1] := List.getElem?_eq_getElem hi1
        have h1 := rise_lt h hy hz (by omega)
        have h2 := rise_lt h hz hx (by omega)
        have h3 := rise_ok h hz
        omega
    · subst he; rw [hx] at hy; injection hy with hy; subst hy; omega
    · have := rise_lt h hx hy hg; omega
  · exact h0
theorem bef_yes {l : List R3} (h : riseF (-1) l = true) (ha : apartF l = true) {i : Nat} {x : R3} (hx : l[i]? = some x) (hb : befB l i x = true) : ∃ y, 0 < i ∧ l[i - 1]? = some y ∧ getF l (x.lo - 1) = y.v ∧ y.v ≠ x.v := by
  unfold befB at hb
  simp only [Bool.and_eq_true, decide_eq_true_eq] at hb
  obtain ⟨hi, hb⟩ := hb
  cases hy : l[i - 1]? with
  | none => rw [hy] at hb; simp at hb
  | some y =>
    rw [hy] at hb
    simp only [beq_iff_eq] at hb
    have hyo := rise_ok h hy
    refine ⟨y, hi, rfl, getF_at h hy (inB_iff.2 (by omega)), fun e => ?_⟩
    have hg := apart_at ha hy (show l[i - 1 + 1]? = some x by rw [Nat.sub_add_cancel hi]; exact hx)
    simp [glue] at hg
    exact hg (by omega) e.symm
theorem aft_no {l : List R3} (h : riseF (-1) l = true) {i : Nat} {x : R3} (hx : l[i]? = some x) (hb : aftB l i x = false) : getF l (x.hi + 1) = 0 := by
  rcases getF_cases l (x.hi + 1) with ⟨k, y, hy, hin, _⟩ | ⟨_, h0⟩
  · exfalso
    rw [inB_iff] at hin
    have hxo := rise_ok h hx
    rcases Nat.lt_trichotomy k i with hl | he | hg
    · have hlt := rise_lt h hy hx hl; omega
    · subst he; rw [hx] at hy; injection hy with hy; subst hy; omega
    · have hlt := rise_lt h hx hy hg
      by_cases hk : k = i + 1
      · subst hk
        unfold aftB at hb
        rw [hy] at hb
        simp at hb
        exact hb (by omega)
      · have hi1 : i + 1 < l.length := by have := (List.getElem?_eq_some_iff.1 hy).1; omega
        have hz : l[i + 1]? = some l[i + 1] := List.getElem?_eq_getElem hi1
        have h1 := rise_lt h hx hz (by omega)
        have h2 := rise_lt h hz hy (by omega)
        have h3 := rise_ok h hz
        omega
  · exact h0
theorem aft_yes {l : List R3} (h : riseF (-1) l = true) (ha : apartF l = true) {i : Nat} {x : R3} (hx : l[i]? = some x) (hb : aftB l i x = true) : ∃ y, l[i + 1]? = some y ∧ getF l (x.hi + 1) = y.v ∧ y.v ≠ x.v := by
  unfold aftB at hb
  cases hy : l[i + 1]? with
  | none => rw [hy] at hb; simp at hb
  | some y =>
    rw [hy] at hb
    simp only [beq_iff_eq] at hb
    have hyo := rise_ok h hy
    refine ⟨y, rfl, getF_at h hy (inB_iff.2 (by omega)), fun e => ?_⟩
    have hg := apart_at ha hx hy
    simp [glue] at hg
    exact hg (by omega) e
end Go.Proofs.YthlkpcfpapiigaaDoor
