/- Count: Get, where 0 is usual, too; brought between. -/
import Derived.Test.YtaaojffikpfllaaP5Get
import Derived.Test.YtaaojffikpfllaaCountsL
namespace Go.Proofs.Ytaaojffikpfllaa
open Go Go.RowKit
set_option linter.unusedVariables false
set_option linter.unusedSimpArgs false

set_option maxRecDepth 100000 in
set_option maxHeartbeats 2000000 in
theorem count_c : CountC := by
  intro A c es k usual least most w hin
  have hg := get_c A c es k usual w hin
  unfold countP
  generalize getP (qs es) k usual = n at *
  by_cases h : n = 0
  · rw [if_pos h]
    subst h
    go_enter Try.func6, Try.ntmps6
    go_wp2_with fail
    refine hg.mono ?_
    rintro e w1 ⟨rfl, hb1⟩
    clear hg
    go_wp2_with fail
    all_goals
      go_ret
      exact ⟨ret_int (by omega), hb1⟩
  · rw [if_neg h]
    go_enter Try.func6, Try.ntmps6
    go_wp2_with fail
    refine hg.mono ?_
    rintro e w1 ⟨rfl, hb1⟩
    clear hg
    have h1 : (n == 0) = false := beq_eq_false_iff_ne.2 h
    go_wp2_with fail
    all_goals
      go_ret
      exact ⟨ret_int (by omega), hb1⟩
end Go.Proofs.Ytaaojffikpfllaa
