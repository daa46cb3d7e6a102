/- The library's table of powers of ten stays. -/
import Derived.Test.YtiaippdaogmcmaaDoorStr5
import Derived.Lib.LaidTab
namespace Go.Proofs.YtiaippdaogmcmaaDoor
open Go Go.RowKit
set_option linter.unusedVariables false
set_option linter.unusedSimpArgs false

/-- The library's powers of ten. -/
def Pw (w : World) : Prop := Lib.TabIs Tryd.prog w "internal/strconv.uint64pow10" .u64 Lib.pow10Tab
theorem pow_named : Tryd.prog.globalNamed "internal/strconv.uint64pow10" = some 0 := by kernel_rfl
theorem Pw.size {w : World} (h : Pw w) : 0 < w.heap.size := by
  have := World.block_lt_of_cell? w _ (Lib.TabIs.cell h pow_named 0 (by decide))
  exact this
theorem Pw.below {w w' : World} {B : Nat} (h : Pw w) (hb : Below B w w') (h2 : 0 < B) : Pw w' := by
  unfold Pw Lib.TabIs World.var? at *
  rw [pow_named] at *
  simp only [Option.bind_some] at *
  rw [hb.block 0 h2]
  exact h
end Go.Proofs.YtiaippdaogmcmaaDoor
