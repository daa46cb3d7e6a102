/- What the row's condition gives the walks: the library's powers of ten. -/
import Derived.Test.YtiaippdaogmcmaaDoorClose5b
import Derived.Test.YtiaippdaogmcmaaDoorPow5
import Derived.Lib.LaidU8
import Derived.Lib.LaidTab
namespace Go.Proofs.YtiaippdaogmcmaaDoor
open Go Go.RowKit Go.ChangeShapes Go.WideShapes Go.ChangeAt Go.Deep
set_option linter.unusedVariables false
set_option linter.unusedSimpArgs false

theorem pow_data : (Rows.laid_internal_strconv_uint64pow10 : DataW Unit) = Lib.tabData .u64 Lib.pow10Tab := by rfl
set_option maxRecDepth 100000 in
theorem pw_of_laid {W : World} {L : List (String × DataW Unit)} (h : laidMet Tryd.prog L W) (h1 : ("internal/strconv.uint64pow10", Rows.laid_internal_strconv_uint64pow10) ∈ L) : Pw W := by
  have r := Lib.laidMet.reads h h1
  rw [pow_data] at r
  have y1 : (Tryd.prog.globals[0]?).map (·.type) = some 100 := by kernel_rfl
  have c1 : Tryd.prog.cellsOf 91 = 1 := by kernel_rfl
  have c2 : Tryd.prog.cellsOf 100 = 20 := by kernel_rfl
  obtain ⟨g, t, cs, fuel, p, hg, hty, hvar, hd⟩ := r
  obtain rfl := Option.some.inj (pow_named.symm.trans hg)
  obtain rfl := Option.some.inj (y1.symm.trans hty)
  have hcs := Lib.cells_of_tab Tryd.underlying100 Tryd.underlying91 c1 c2 hd
  unfold Pw Lib.TabIs
  rw [hvar]
  congr 1
  rw [← hcs]
end Go.Proofs.YtiaippdaogmcmaaDoor
