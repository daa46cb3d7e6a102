/- Flags, one by one (PenFlags), plainly. No program here. -/
import Derived.Test.YtlcnlfjjglcobaaDoorMath07b
namespace Go.Proofs.YtlcnlfjjglcobaaDoor
open Go Go.RowKit
set_option linter.unusedVariables false
set_option linter.unusedSimpArgs false

/-- The law's three rows: the number that sets, the number that unsets, the flag, and what is unset with it. -/
def rowN : List (Int × Int × Int × Int) := [(1, 22, 1, 3), (2, 22, 2, 3), (3, 23, 4, 4), (5, 25, 16, 16), (7, 27, 32, 32), (8, 28, 64, 64), (9, 29, 128, 128)]
theorem on_all : allF (fun f => rowN.all fun x => decide (flagN f x.1 none = bits .or .i64 f x.2.2.1)) = true := by decide +kernel
theorem off_all : allF (fun f => rowN.all fun x => decide (flagN (flagN f x.1 none) x.2.1 none = f - bits .and .i64 f x.2.2.2)) = true := by decide +kernel
theorem on_said {f : Int} (hf : Fl f) {x : Int × Int × Int × Int} (hx : x ∈ rowN) : flagN f x.1 none = bits .or .i64 f x.2.2.1 := by
  have h := allF_spec on_all hf
  rw [List.all_eq_true] at h
  exact of_decide_eq_true (h x hx)
theorem off_said {f : Int} (hf : Fl f) {x : Int × Int × Int × Int} (hx : x ∈ rowN) : flagN (flagN f x.1 none) x.2.1 none = f - bits .and .i64 f x.2.2.2 := by
  have h := allF_spec off_all hf
  rw [List.all_eq_true] at h
  exact of_decide_eq_true (h x hx)
theorem row_nums : ∀ x ∈ rowN, (1 ≤ x.1 ∧ x.1 ≤ 29) ∧ 1 ≤ x.2.1 ∧ x.2.1 ≤ 29 := by decide
theorem apply_flag {p : Pn} (hp : SaneN p) {n : Int} (hn : 1 ≤ n ∧ n ≤ 29) : applyN p [[n]] = ⟨p.fg, p.bg, flagN p.fl n none⟩ := by
  have e1 : firstN [n] = n := rfl
  rw [apply_one hp _ (by simp), goN_plain _ _ _ (by rw [e1]; omega), goN_nil, e1]
  unfold oneN
  rw [if_neg (by omega), if_pos hn]
  rfl
/-- A flag on, and off again. -/
theorem flag_two {p : Pn} (hp : SaneN p) {x : Int × Int × Int × Int} (hx : x ∈ rowN) :
    applyN p [[x.1]] = ⟨p.fg, p.bg, bits .or .i64 p.fl x.2.2.1⟩ ∧ applyN (applyN p [[x.1]]) [[x.2.1]] = ⟨p.fg, p.bg, p.fl - bits .and .i64 p.fl x.2.2.2⟩ := by
  have hf : Fl p.fl := ⟨hp.2.2.1, hp.2.2.2⟩
  obtain ⟨h1, h2⟩ := row_nums x hx
  have e1 := apply_flag hp h1
  refine ⟨by rw [e1, on_said hf hx], ?_⟩
  rw [apply_flag (apply_ok p [[x.1]]) h2, e1]
  simp only [Pn.mk.injEq, true_and]
  exact off_said hf hx
end Go.Proofs.YtlcnlfjjglcobaaDoor
