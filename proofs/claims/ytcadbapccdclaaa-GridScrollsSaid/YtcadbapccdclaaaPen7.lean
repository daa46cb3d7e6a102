/- Pens as values. -/
import Derived.Test.YtcadbapccdclaaaMath07
import Derived.Test.YtcadbapccdclaaaStr5
namespace Go.Proofs.Ytcadbapccdclaaa
open Go Go.RowKit
set_option linter.unusedVariables false
set_option linter.unusedSimpArgs false

def pnV (p : Pn) : Value := .agg #[.int .i64 p.fg, .int .i64 p.bg, .int .i64 p.fl]
def PnOk (p : Pn) : Prop := I64 p.fg ∧ I64 p.bg ∧ I64 p.fl
theorem col_i64 {c : Int} (h : ColOk c) : I64 c := by unfold ColOk at h; unfold I64; omega
theorem SaneN.ok {p : Pn} (h : SaneN p) : PnOk p := ⟨col_i64 h.1, col_i64 h.2.1, by have := h.2.2; unfold I64; omega⟩
theorem zero_ok : PnOk zeroN := zeroN_sane.ok
end Go.Proofs.Ytcadbapccdclaaa
