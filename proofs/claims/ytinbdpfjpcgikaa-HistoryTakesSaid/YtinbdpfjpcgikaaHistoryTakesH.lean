/- HistoryTakes: for every input the law returns true, no condition. -/
import Derived.Test.YtinbdpfjpcgikaaBase6
import Derived.Test.YtinbdpfjpcgikaaHis10t
import Derived.Test.YtinbdpfjpcgikaaHistTakesL
namespace Go.Proofs.Ytinbdpfjpcgikaa
open Go Go.RowKit Go.ChangeShapes Go.WideShapes Go.ChangeAt Go.ChangeMaps
set_option linter.unusedVariables false

set_option maxRecDepth 100000 in
theorem historyTakes_lifted (os : Os) (started : os.Started) (H : Type) (enc : TypeId × Value → H) :
    ReturnsInHanded {} Try.checked os 4 .any (Rows.historyTakesSpec.pre6 enc Try.prog Try.f4 Rows.historyTakesRow.domain false) (Rows.historyTakesSpec.post enc Try.prog Try.f4 false true false false) := by
  refine returnsInHanded_of_change_sized (C := Try.checked) own started (by kernel_rfl) Try.func4
    (ChangeSpec.witness6 (enc := enc) (C := Try.checked) false ⟨#[], #[.agg #[.slice none 0 0, .int .i64 0], .slice none 0 0], []⟩ 8 (by kernel_rfl) (by kernel_rfl) (by kernel_rfl) (by kernel_rfl)) ?_
  intro W base args ds gs before hval0 hW _ _ _
  have hval : ∀ (j : Nat) t v, Try.f4.params[j]? = some t → args[j]? = some v → Value.okWide Try.prog W .any base t v := hval0
  have hW' := hW
  obtain ⟨p, q, hA0, hV, rfl, _, _⟩ := hW
  have hA : DataW.TrodAll enc Try.prog W 0 (fun _ => true) true Try.f4.params.toList args.toList ds p := hA0
  rw [Try.params4] at hA hval
  obtain ⟨v0, v1, d0, d1, p0, p1, rfl, rfl, rfl, h0, h1⟩ := trodAll_two hA
  obtain ⟨A0, c0, es0, m0, rfl, hin0, hok0, hm0⟩ := keptArg (hval 0 24 v0 rfl rfl) h0
  obtain ⟨A1, c1, es1, rfl, hin1, hok1⟩ := rowsArg (hval 1 22 v1 rfl rfl) h1
  obtain ⟨rfl, rfl⟩ := trodVars_none hV
  refine (takes_law10 new10_c push10_c at10_c sane10_c cells10_c take10_c A0 c0 es0 m0 A1 c1 es1 W hin0 hok0 hm0 hin1 hok1).mono fun e W' ⟨he, hb⟩ => ?_
  exact ⟨_, he, law_post (bt := 4) hW' rfl rfl Try.underlying4 rfl laid (by decide +kernel) hb⟩

theorem historyTakes_holds : Rows.HistoryTakesSaid :=
  OpenClaim.holds_of_wide 4 Try.f4 rfl rfl rfl rfl rfl rfl rfl ⟨rfl, rfl, rfl, rfl, rfl⟩ rfl rfl rfl rfl rfl (by kernel_rfl) Try.func4 (by kernel_rfl)
    (of_decide_eq_true (by kernel_rfl)) (by unfold Func.isWrapper; first | (rw [if_pos (by decide +kernel)]; kernel_rfl) | (rw [if_neg (by decide +kernel)]; exact ⟨rfl, rfl⟩))
    (fun os started H enc _ => historyTakes_lifted os started H enc)
end Go.Proofs.Ytinbdpfjpcgikaa
