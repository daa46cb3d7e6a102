/- Rows, plainly: parts one behind the other; what is put, erased, of them. No program here. -/
import Derived.Test.YtcadbapccdclaaaMath08d
namespace Go.Proofs.Ytcadbapccdclaaa
set_option linter.unusedVariables false
set_option linter.unusedSimpArgs false

/-- A cell with what has to stand behind it. -/
def wholeL (c : Cl) : List Cl := if c.w = 2 then [c, halfC c.pen] else [c]
theorem whole_len (c : Cl) : (wholeL c).length = if c.w = 2 then 2 else 1 := by unfold wholeL; split <;> rfl
theorem put_parts {l : List Cl} {k : Nat} {c : Cl} (hk : k + (wholeL c).length ≤ l.length) : putL l k c = l.take k ++ (wholeL c ++ l.drop (k + (wholeL c).length)) := by
  unfold putL
  rw [whole_len] at hk ⊢
  unfold wholeL
  by_cases h : c.w = 2
  · simp only [if_pos h] at hk ⊢
    have h1 : (l.set k c) = l.take k ++ c :: l.drop (k + 1) := by rw [List.set_eq_take_append_cons_drop, if_pos (by omega)]
    have h2 : (l.take k).length = k := by rw [List.length_take]; omega
    have h3 : l.drop (k + 1) = l[k + 1] :: l.drop (k + 2) := List.drop_eq_getElem_cons (by omega)
    rw [h1, List.set_append_right _ _ (by omega), h2, show k + 1 - k = 1 by omega, h3]
    rfl
  · simp only [if_neg h] at hk ⊢
    rw [List.set_eq_take_append_cons_drop, if_pos (by omega)]
    rfl
theorem whole_sane (c : Cl) : SaneR ⟨wholeL c, false, 0, false⟩ ↔ OneC c ∧ c.w ≠ 0 := by
  constructor
  · intro h
    have hc : (wholeL c)[0]? = some c := by unfold wholeL; split <;> rfl
    have h1 := h.one (i := 0) hc
    refine ⟨h1, fun h0 => h.good 0 (.inr ⟨?_, .inl rfl⟩)⟩
    simp only
    rw [wAt_some hc]; exact h0
  · rintro ⟨h1, h0⟩
    have hw : c.w = 1 ∨ c.w = 2 := by have := h1.1; omega
    refine ⟨by simp only [whole_len]; split <;> omega, ?_, ?_, by simp, by simp⟩
    · intro x hx
      unfold wholeL at hx
      split at hx
      · simp at hx
        rcases hx with rfl | rfl
        · exact h1
        · exact half_one h1.2.2.1
      · simp at hx; subst hx; exact h1
    · simp only
      rw [mend_same]
      intro i hb
      have hi := bad_lt hb
      rw [whole_len] at hi
      unfold BadAt wholeL at hb
      rcases hw with hw | hw
      · rw [if_neg (by omega)] at hi hb
        obtain rfl : i = 0 := by omega
        simp [wAt, hw] at hb
      · rw [if_pos hw] at hi hb
        obtain rfl | rfl : i = 0 ∨ i = 1 := by omega
        · simp [wAt, hw, halfC] at hb
        · simp [wAt, hw, halfC] at hb
theorem whole_w {c : Cl} (h : OneC c) (h0 : c.w ≠ 0) : ((wholeL c).length : Int) = c.w := by
  have := h.1
  rw [whole_len]; split <;> omega
theorem put_laid {r : Rw} {k : Nat} {c : Cl} (hr : SaneR r) (h1 : SaneR ⟨wholeL c, false, 0, false⟩) (hk : (k : Int) ≤ (r.cs.length : Int) - ((wholeL c).length : Int)) :
    putR r (k : Int) c = { r with cs := mendL (r.cs.take k ++ (wholeL c ++ r.cs.drop (k + (wholeL c).length))) } := by
  obtain ⟨h2, h3⟩ := (whole_sane c).1 h1
  have hw := whole_w h2 h3
  unfold putR
  rw [if_pos ⟨hr, h2, h3, by omega, by omega⟩, put_parts (by omega)]
  rfl
theorem put_not {r : Rw} {k : Int} {c : Cl} (h : ¬ (SaneR r ∧ SaneR ⟨wholeL c, false, 0, false⟩ ∧ 0 ≤ k ∧ k ≤ (r.cs.length : Int) - ((wholeL c).length : Int))) : putR r k c = r := by
  unfold putR
  rw [if_neg]
  rintro ⟨hr, h2, h3, h4, h5⟩
  have hw := whole_w h2 h3
  exact h ⟨hr, (whole_sane c).2 ⟨h2, h3⟩, h4, by omega⟩
theorem fit_le (w : Nat) (a : Int) : fitN w a ≤ w := by unfold fitN; omega
theorem erase_laid {r : Rw} {a b : Int} {p : Pn} (hr : SaneR r) (hp : SaneN p) (h : fitN r.cs.length a < fitN r.cs.length b) :
    eraseR r a b p = { r with cs := mendL (r.cs.take (fitN r.cs.length a) ++ (List.replicate (fitN r.cs.length b - fitN r.cs.length a) (blankC p) ++ r.cs.drop (fitN r.cs.length b))) } := by
  unfold eraseR
  rw [if_pos ⟨hr, hp⟩]
  have e : eraseL r.cs a b p = r.cs.take (fitN r.cs.length a) ++ (List.replicate (fitN r.cs.length b - fitN r.cs.length a) (blankC p) ++ r.cs.drop (fitN r.cs.length b)) := by
    have hb := fit_le r.cs.length b
    apply List.ext_getElem?
    intro i
    have hl1 : (r.cs.take (fitN r.cs.length a)).length = fitN r.cs.length a := by rw [List.length_take]; omega
    rw [erase_at, List.getElem?_append, hl1]
    by_cases h1 : i < fitN r.cs.length a
    · rw [if_pos h1, List.getElem?_take, if_pos h1]
      have : ¬ (a ≤ (i : Int) ∧ (i : Int) < b) := by unfold fitN at h1; omega
      cases r.cs[i]? with
      | none => rfl
      | some c => simp [this]
    · rw [if_neg h1, List.getElem?_append, List.length_replicate]
      by_cases h2 : i < fitN r.cs.length b
      · rw [if_pos (by omega), List.getElem?_replicate, if_pos (by omega), List.getElem?_eq_getElem (by omega : i < r.cs.length)]
        have : (a ≤ (i : Int) ∧ (i : Int) < b) := by unfold fitN at h1 h2; omega
        simp [this]
      · rw [if_neg (by omega), List.getElem?_drop, show fitN r.cs.length b + (i - fitN r.cs.length a - (fitN r.cs.length b - fitN r.cs.length a)) = i by omega]
        cases hx : r.cs[i]? with
        | none => rfl
        | some c =>
          have hi := (List.getElem?_eq_some_iff.1 hx).1
          have : ¬ (a ≤ (i : Int) ∧ (i : Int) < b) := by unfold fitN at h2; omega
          simp [this]
  rw [e]
theorem erase_not {r : Rw} {a b : Int} {p : Pn} (h : ¬ (SaneR r ∧ SaneN p ∧ fitN r.cs.length a < fitN r.cs.length b)) : eraseR r a b p = r := by
  unfold eraseR
  split
  · rename_i hs
    refine Rw.same ?_
    have hn : ¬ fitN r.cs.length a < fitN r.cs.length b := fun k => h ⟨hs.1, hs.2, k⟩
    have e : eraseL r.cs a b p = r.cs := by
      apply List.ext_getElem?
      intro i
      rw [erase_at]
      cases hx : r.cs[i]? with
      | none => rfl
      | some c =>
        have hi := (List.getElem?_eq_some_iff.1 hx).1
        have : ¬ (a ≤ (i : Int) ∧ (i : Int) < b) := by unfold fitN at hn; omega
        simp [this]
    rw [e, hs.1.2.2.1]
  · rfl
theorem ins_laid {r : Rw} {k n t : Int} {p : Pn} (h : MoveOk r k t p) : insR r k n t p = { r with cs := mendL (insL r.cs k.toNat (moveN k n t) t.toNat p) } := by unfold insR; rw [if_pos h]
theorem del_laid {r : Rw} {k n t : Int} {p : Pn} (h : MoveOk r k t p) : delR r k n t p = { r with cs := mendL (delL r.cs k.toNat (moveN k n t) t.toNat p) } := by unfold delR; rw [if_pos h]
theorem ins_not {r : Rw} {k n t : Int} {p : Pn} (h : ¬ MoveOk r k t p) : insR r k n t p = r := by unfold insR; rw [if_neg h]
theorem del_not {r : Rw} {k n t : Int} {p : Pn} (h : ¬ MoveOk r k t p) : delR r k n t p = r := by unfold delR; rw [if_neg h]
theorem rep_set (n k : Nat) (x y : Cl) (hk : k < n) : (List.replicate k x ++ List.replicate (n - k) y).set k x = List.replicate (k + 1) x ++ List.replicate (n - (k + 1)) y := by
  rw [List.set_append_right _ _ (by rw [List.length_replicate]; omega), List.length_replicate, Nat.sub_self, show n - k = (n - (k + 1)) + 1 by omega, List.replicate_succ, List.set_cons_zero, List.replicate_succ', List.append_assoc]
  rfl
end Go.Proofs.Ytcadbapccdclaaa
