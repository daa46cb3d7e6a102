/- What the rows' condition gives the walks: the table of the white bytes. -/
import Derived.Test.YthlkpcfpapiigaaDoorRows
import Derived.Test.YthlkpcfpapiigaaDoorLoadLaw
import Derived.Test.YthlkpcfpapiigaaDoorLaw
import Derived.Lib.LaidU8
import Derived.LaidMore
import Derived.Lay
import Derived.ProofKit
import Derived.OpenShut
import Derived.Stop.Joined
namespace Go.Proofs.YthlkpcfpapiigaaDoor
open Go Go.RowKit Go.ChangeShapes Go.WideShapes Go.ChangeAt
set_option linter.unusedVariables false
set_option linter.unusedSimpArgs false

theorem own : ownKnob Tryd.prog.godebug = none := by kernel_rfl
theorem laid : laidOutB Tryd.prog = true := by kernel_rfl
theorem space_data : (Rows.laid_strings_asciiSpace : DataW Unit) = Lib.tabData .u8 Lib.asciiSpaceTab := by kernel_rfl
theorem space_var : ∃ g t n, Tryd.prog.globalNamed "strings.asciiSpace" = some g ∧ (Tryd.prog.globals[g]?).map (·.type) = some t ∧ Tryd.prog.underlying t = some (.array n 5) ∧ Tryd.prog.cellsOf 5 = 1 ∧ Tryd.prog.cellsOf t = n :=
  ⟨0, 64, 256, by kernel_rfl, by kernel_rfl, by kernel_rfl, by kernel_rfl, by kernel_rfl⟩
theorem spc_of_laid {W : World} {L : List (String × DataW Unit)} (h : laidMet Tryd.prog L W) (hm : ("strings.asciiSpace", Rows.laid_strings_asciiSpace) ∈ L) : Spc W := by
  obtain ⟨g', t', cs, fuel, p, hg', ht', hvar, hd⟩ := Lib.laidMet.reads h hm
  obtain ⟨g, t, n, hg, ht, hu, hce, hct⟩ := space_var
  obtain rfl := Option.some.inj (hg.symm.trans hg')
  obtain rfl := Option.some.inj (ht.symm.trans ht')
  rw [space_data] at hd
  unfold Spc Lib.TabIs
  rw [hvar, ← Lib.cells_of_tab hu Tryd.underlying5 hce hct hd]
end Go.Proofs.YthlkpcfpapiigaaDoor
