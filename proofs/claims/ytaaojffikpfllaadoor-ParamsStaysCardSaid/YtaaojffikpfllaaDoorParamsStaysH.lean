/- ParamsStays: for every input the law returns true, where the listed variables hold what the program's text lays; the card ties them. -/
import Derived.Test.YtaaojffikpfllaaDoorClose5p
import Derived.Test.YtaaojffikpfllaaDoorParStaysL
import Derived.Test.YtaaojffikpfllaaDoorP5Get
import Derived.Test.YtaaojffikpfllaaDoorP5Sane
import Derived.Test.YtaaojffikpfllaaDoorP5Parse
import Derived.Test.YtaaojffikpfllaaDoorP5Calls
import Derived.Test.YtaaojffikpfllaaDoorP5Print
import Derived.Test.YtaaojffikpfllaaDoorTie
import Derived.Test.YtaaojffikpfllaaDoorCards
import Derived.SevenTiedAt
namespace Go.Proofs.YtaaojffikpfllaaDoor
open Go Go.RowKit Go.ChangeShapes Go.WideShapes Go.ChangeAt Go.ChangeMaps
set_option linter.unusedVariables false

set_option maxRecDepth 100000 in
theorem paramsStays_lifted (os : Os) (started : os.Started) (H : Type) (enc : TypeId × Value → H) :
    ReturnsInHanded {} Tryd.checked os 4 .any (fun w args => (Rows.paramsStaysSpec.pre enc Tryd.prog Tryd.f4 Rows.paramsStaysRow.domain false w args ∧ laidMetH Tryd.prog Rows.paramsStaysRow.laid w) ∧ sizedMet enc Tryd.prog Tryd.f4 (OpenSpec.ofChange Rows.paramsStaysSpec) false w args)
      (Rows.paramsStaysSpec.post enc Tryd.prog Tryd.f4 false true false false) := by
  refine returnsInHanded_of_change_and (C := Tryd.checked) (X := fun w _ => laidMetH Tryd.prog Rows.paramsStaysRow.laid w) (fun _ _ _ hh h => h.of_heap hh) own started (by kernel_rfl) Tryd.func4
    (ChangeSpec.witness_shaped (enc := enc) (C := Tryd.checked) (os := os) (X := fun w _ => laidMetH Tryd.prog Rows.paramsStaysRow.laid w) false (World.laidAll Tryd.prog os Rows.paramsStaysRow.laid) #[.agg #[.slice none 0 0, .bool false], .int .u8 0] 8 (World.laidAll_os _ _ _)
      (World.shaped_of_ZipB (by kernel_rfl) (by kernel_rfl)) (by kernel_rfl) (by kernel_rfl) (by kernel_rfl)
      (by rw [MakeChecks.laidMetH_plain _ _ _ (by kernel_rfl)]; exact laidMet_laidAll _ (by kernel_rfl) (by kernel_rfl))) ?_
  intro W base args ds gs before hval0 hW _ _ hL _
  have hval : ∀ (j : Nat) t v, Tryd.f4.params[j]? = some t → args[j]? = some v → Value.okWide Tryd.prog W .any base t v := hval0
  have hW' := hW
  obtain ⟨p, q, hA0, hV, rfl, _, _⟩ := hW
  have hA : DataW.TrodAll enc Tryd.prog W 0 (fun _ => true) true Tryd.f4.params.toList args.toList ds p := hA0
  rw [Tryd.params4] at hA hval
  obtain ⟨v0, v1, d0, d1, p0, p1, rfl, rfl, rfl, h0, h1⟩ := trodAll_two hA
  obtain ⟨A0, c0, es0, o0, rfl, hin0, hI0⟩ := listArg (hval 0 34 v0 rfl rfl) h0
  obtain ⟨k1, rfl, rfl, rfl, r1⟩ := open_int Tryd.underlying5 (hval 1 5 v1 rfl rfl) h1
  have w1 := wf_u8 r1
  obtain ⟨n1, rfl⟩ : ∃ n : Nat, k1 = (n : Int) := ⟨k1.toNat, by omega⟩
  obtain ⟨rfl, rfl⟩ := trodVars_none hV
  rw [MakeChecks.laidMetH_plain _ _ _ (by kernel_rfl)] at hL
  have hs := pw_of_laid hL (by simp [Rows.paramsStaysRow])
  refine (stays_law parse_c get_c sane_c print_c digit_c next_c sub_c A0 c0 es0 o0 n1 (by omega) W hin0 hI0 hs).mono fun e W' ⟨he, hb⟩ => ?_
  exact ⟨_, he, law_post (bt := 4) hW' rfl rfl Tryd.underlying4 rfl laid (by decide +kernel) hb⟩

theorem paramsStays_row : Rows.ParamsStaysSaid :=
  OpenClaim.holds_of_wide 4 Tryd.f4 rfl rfl rfl rfl rfl rfl rfl ⟨rfl, rfl, rfl, rfl, rfl⟩ rfl rfl rfl rfl rfl (by kernel_rfl) Tryd.func4 (by kernel_rfl)
    (of_decide_eq_true (by kernel_rfl)) (by unfold Func.isWrapper; first | (rw [if_pos (by decide +kernel)]; kernel_rfl) | (rw [if_neg (by decide +kernel)]; exact ⟨rfl, rfl⟩))
    (fun os started H enc _ => paramsStays_lifted os started H enc)

theorem paramsStays_holds : Rows.ParamsStaysCardSaid :=
  Claim7.holds_tied_plain_at .later [] [.data, .data, .data] true (true, "665187ce595c62c98f79690c668c0b1d627c26541839b812fa92e66e429eadfa") false
    paramsStays_row (fun _ h => by cases h) (by kernel_rfl) (fun _ h => by cases h) paramsStays_row_tie rfl ⟨rfl, rfl⟩ (by kernel_rfl) rfl
    (fun f fn hf hfn => by
      obtain rfl : f = 4 := Option.some.inj ((show Tryd.prog.funcNamed "lapwing/lapwinglaw05.ParamsStays" = some 4 by kernel_rfl).symm.trans hf) |>.symm
      obtain rfl : fn = Tryd.f4 := (Option.some.inj (Tryd.func4.symm.trans hfn)).symm
      exact ⟨by kernel_rfl, fun j t ht => by
        rw [Tryd.params4] at ht
        have hm : t ∈ [34, 5] := by simpa using Array.mem_of_getElem? ht
        have hall : ([34, 5].all fun u => !Tryd.prog.wantsStandIn u) = true := by kernel_rfl
        exact (show Tryd.prog.wantsStandIn t = false by simpa using List.all_eq_true.1 hall t hm)⟩)
    (by kernel_rfl)
end Go.Proofs.YtaaojffikpfllaaDoor
