/- Rows, plainly: a row that is mended in its place, from the first cell on. No program here. -/
import Derived.Test.YtcadbapccdclaaaMath08b
namespace Go.Proofs.Ytcadbapccdclaaa
set_option linter.unusedVariables false
set_option linter.unusedSimpArgs false

/-- The first i cells are mended. -/
def hybL (l : List Cl) (i : Nat) : List Cl := (mendL l).take i ++ l.drop i
theorem hyb_len (l : List Cl) (i : Nat) : (hybL l i).length = l.length := by
  unfold hybL; rw [List.length_append, List.length_take, List.length_drop, mend_len]; omega
theorem hyb_zero (l : List Cl) : hybL l 0 = l := by simp [hybL]
theorem hyb_all (l : List Cl) : hybL l l.length = mendL l := by
  unfold hybL; rw [List.drop_of_length_le (Nat.le_refl _), List.append_nil, List.take_of_length_le (by rw [mend_len]; exact Nat.le_refl _)]
theorem hyb_at (l : List Cl) (i j : Nat) : (hybL l i)[j]? = if j < i then (mendL l)[j]? else l[j]? := by
  unfold hybL
  by_cases hi : i ≤ l.length
  · have hlen : ((mendL l).take i).length = i := by rw [List.length_take, mend_len]; omega
    by_cases hj : j < i
    · rw [if_pos hj, List.getElem?_append_left (by omega), List.getElem?_take, if_pos hj]
    · rw [if_neg hj, List.getElem?_append_right (by omega), hlen, List.getElem?_drop]
      congr 1; omega
  · rw [List.drop_of_length_le (by omega), List.append_nil, List.take_of_length_le (by rw [mend_len]; omega)]
    by_cases hj : j < i
    · rw [if_pos hj]
    · rw [if_neg hj, List.getElem?_eq_none (by rw [mend_len]; omega), List.getElem?_eq_none (by omega)]
theorem hyb_w (l : List Cl) (i j : Nat) : wAt (hybL l i) j = if j < i then (if BadAt l j then 1 else wAt l j) else wAt l j := by
  by_cases hj : j < i
  · rw [if_pos hj, ← mend_w]
    exact w_iff (by rw [hyb_at, if_pos hj])
  · rw [if_neg hj]
    exact w_iff (by rw [hyb_at, if_neg hj])
/-- Whether a cell is to be mended is told by what has been mended ahead of it as well. -/
theorem hyb_bad (l : List Cl) (i : Nat) : BadAt (hybL l i) i ↔ BadAt l i := by
  have h0 : wAt (hybL l i) i = wAt l i := by rw [hyb_w, if_neg (by omega)]
  have h1 : wAt (hybL l i) (i + 1) = wAt l (i + 1) := by rw [hyb_w, if_neg (by omega)]
  by_cases hi : i = 0
  · subst hi
    unfold BadAt
    rw [h0, h1]
  · have h2 : wAt (hybL l i) (i - 1) = if BadAt l (i - 1) then 1 else wAt l (i - 1) := by rw [hyb_w, if_pos (by omega)]
    unfold BadAt
    rw [h0, h1, h2]
    have key : wAt l i = 0 → ((if BadAt l (i - 1) then (1 : Int) else wAt l (i - 1)) ≠ 2 ↔ wAt l (i - 1) ≠ 2) := by
      intro hw
      by_cases hb : BadAt l (i - 1)
      · rw [if_pos hb]
        refine ⟨fun _ h2 => ?_, fun _ => by omega⟩
        rcases hb with hb | hb
        · rw [show i - 1 + 1 = i from by omega] at hb; exact hb.2 hw
        · omega
      · rw [if_neg hb]
    constructor
    · rintro (h | ⟨h, h3⟩)
      · exact .inl h
      · refine .inr ⟨h, h3.imp id fun h4 => ?_⟩
        exact (key h).1 h4
    · rintro (h | ⟨h, h3⟩)
      · exact .inl h
      · refine .inr ⟨h, h3.imp id fun h4 => ?_⟩
        exact (key h).2 h4
theorem hyb_step {l : List Cl} {i : Nat} {c : Cl} (h : l[i]? = some c) : (hybL l i).set i (if BadAt l i then blankC c.pen else c) = hybL l (i + 1) := by
  have hi : i < l.length := (List.getElem?_eq_some_iff.1 h).1
  apply List.ext_getElem?
  intro j
  rw [List.getElem?_set, hyb_at, hyb_len]
  by_cases hj : i = j
  · subst hj
    rw [if_pos rfl, if_pos hi, hyb_at, if_pos (show i < i + 1 by omega), mend_at, h]
    rfl
  · rw [if_neg hj, hyb_at]
    by_cases h2 : j < i
    · rw [if_pos h2, if_pos (by omega)]
    · rw [if_neg h2, if_neg (by omega)]
/-- Nothing is stored where nothing is bad. -/
theorem hyb_skip {l : List Cl} {i : Nat} (h : ¬ BadAt l i) : hybL l i = hybL l (i + 1) := by
  apply List.ext_getElem?
  intro j
  rw [hyb_at, hyb_at]
  by_cases h1 : j < i
  · rw [if_pos h1, if_pos (by omega)]
  · rw [if_neg h1]
    by_cases h2 : j = i
    · subst h2
      rw [if_pos (by omega), mend_good h]
    · rw [if_neg (by omega)]
end Go.Proofs.Ytcadbapccdclaaa
