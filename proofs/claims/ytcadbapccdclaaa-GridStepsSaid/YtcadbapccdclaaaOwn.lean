/- What every row's proof asks of the program, closed; the range of an int that is read. -/
import Derived.Test.YtcadbapccdclaaaLaw
import Derived.Test.YtcadbapccdclaaaStr5
import Derived.LaidMore
import Derived.ChangeMaps5
import Derived.Lay
import Derived.ProofKit
import Derived.OpenShut
import Derived.Stop.Joined
namespace Go.Proofs.Ytcadbapccdclaaa
open Go Go.RowKit Go.ChangeShapes Go.WideShapes Go.ChangeAt Go.Deep
set_option linter.unusedVariables false
set_option linter.unusedSimpArgs false

theorem own : ownKnob Try.prog.godebug = none := by kernel_rfl
theorem laid : laidOutB Try.prog = true := by kernel_rfl
theorem wf_i64 {k : Int} (h : (Lit.int .i64 k).wf = true) : I64 k := by
  have := range_i64 (zs := [k]) (by intro n hn; simp at hn; subst hn; exact h) 0
  unfold I64
  simpa using this
theorem wf_u8 {k : Int} (h : (Lit.int .u8 k).wf = true) : 0 ≤ k ∧ k < 256 := by
  have := range_u8 (zs := [k]) (by intro n hn; simp at hn; subst hn; exact h) 0
  simp at this
  omega
end Go.Proofs.Ytcadbapccdclaaa
