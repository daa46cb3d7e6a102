/- New, as a contract. -/
import Derived.Test.YtcadbapccdclaaaMem08
namespace Go.Proofs.Ytcadbapccdclaaa
open Go Go.RowKit
set_option linter.unusedVariables false
set_option linter.unusedSimpArgs false

def New8C : Prop := ∀ (n : Int) (p : Pn) (w : World), I64 n → PnOk p → Calls Try.prog 31 #[.int .i64 n, pnV p] w (GivesRow (newR n p) w)
end Go.Proofs.Ytcadbapccdclaaa
