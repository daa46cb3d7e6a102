/- ParseGround: for every input the law returns true, where the listed variables hold what the program's text lays; the card ties them. -/
import Derived.Test.YtiaippdaogmcmaaDoorClose6
import Derived.Test.YtiaippdaogmcmaaDoorPar6n
import Derived.Test.YtiaippdaogmcmaaDoorGroundL6
import Derived.Test.YtiaippdaogmcmaaDoorTie
import Derived.Test.YtiaippdaogmcmaaDoorCards
import Derived.SevenTiedAt
namespace Go.Proofs.YtiaippdaogmcmaaDoor
open Go Go.RowKit Go.ChangeShapes Go.WideShapes Go.ChangeAt Go.ChangeMaps
set_option linter.unusedVariables false

set_option maxRecDepth 100000 in
theorem parseGround_lifted (os : Os) (started : os.Started) (H : Type) (enc : TypeId × Value → H) :
    ReturnsInHanded {} Tryd.checked os 4 .any (fun w args => (Rows.parseGroundSpec.pre enc Tryd.prog Tryd.f4 Rows.parseGroundRow.domain false w args ∧ laidMetH Tryd.prog Rows.parseGroundRow.laid w) ∧ sizedMet enc Tryd.prog Tryd.f4 (OpenSpec.ofChange Rows.parseGroundSpec) false w args)
      (Rows.parseGroundSpec.post enc Tryd.prog Tryd.f4 false true false false) := by
  refine returnsInHanded_of_change_and (C := Tryd.checked) (X := fun w _ => laidMetH Tryd.prog Rows.parseGroundRow.laid w) (fun _ _ _ hh h => h.of_heap hh) own started (by kernel_rfl) Tryd.func4
    (ChangeSpec.witness_shaped (enc := enc) (C := Tryd.checked) (os := os) (X := fun w _ => laidMetH Tryd.prog Rows.parseGroundRow.laid w) false (World.laidAll Tryd.prog os Rows.parseGroundRow.laid) #[.agg #[.int .i64 0, .string ⟨#[]⟩, .bool false, .slice none 0 0, .bool false, .string ⟨#[]⟩, .int .u8 0], .slice none 0 0] 8 (World.laidAll_os _ _ _)
      (World.shaped_of_ZipB (by kernel_rfl) (by kernel_rfl)) (by kernel_rfl) (by kernel_rfl) (by kernel_rfl)
      (by rw [MakeChecks.laidMetH_plain _ _ _ (by kernel_rfl)]; exact laidMet_laidAll _ (by kernel_rfl) (by kernel_rfl))) ?_
  intro W base args ds gs before hval0 hW _ _ hL _
  have hval : ∀ (j : Nat) t v, Tryd.f4.params[j]? = some t → args[j]? = some v → Value.okWide Tryd.prog W .any base t v := hval0
  have hW' := hW
  obtain ⟨p, q, hA0, hV, rfl, _, _⟩ := hW
  have hA : DataW.TrodAll enc Tryd.prog W 0 (fun _ => true) true Tryd.f4.params.toList args.toList ds p := hA0
  rw [Tryd.params4] at hA hval
  obtain ⟨v0, v1, d0, d1, p0, p1, rfl, rfl, rfl, h0, h1⟩ := trodAll_two hA
  obtain ⟨s0, A0, c0, es0, rfl, hS0, hB0⟩ := stateArg (hval 0 35 v0 rfl rfl) h0
  obtain ⟨A1, c1, l1, rfl, hc1, hm1, hb1, hR1⟩ := intsTab (hval 1 22 v1 rfl rfl) h1
  obtain ⟨rfl, rfl⟩ := trodVars_none hV
  rw [MakeChecks.laidMetH_plain _ _ _ (by kernel_rfl)] at hL
  have hs := pw_of_laid hL (by simp [Rows.parseGroundRow])
  refine (ground_law feed6_c step6_c sane6_c s0 A0 c0 es0 A1 c1 l1 W hS0 hB0 hR1 hc1 hm1 hb1 hs).mono fun e W' ⟨he, hb⟩ => ?_
  exact ⟨_, he, law_post (bt := 4) hW' rfl rfl Tryd.underlying4 rfl laid (by decide +kernel) hb⟩

theorem parseGround_row : Rows.ParseGroundSaid :=
  OpenClaim.holds_of_wide 4 Tryd.f4 rfl rfl rfl rfl rfl rfl rfl ⟨rfl, rfl, rfl, rfl, rfl⟩ rfl rfl rfl rfl rfl (by kernel_rfl) Tryd.func4 (by kernel_rfl)
    (of_decide_eq_true (by kernel_rfl)) (by unfold Func.isWrapper; first | (rw [if_pos (by decide +kernel)]; kernel_rfl) | (rw [if_neg (by decide +kernel)]; exact ⟨rfl, rfl⟩))
    (fun os started H enc _ => parseGround_lifted os started H enc)

theorem parseGround_holds : Rows.ParseGroundCardSaid :=
  Claim7.holds_tied_plain_at .later [] [.data, .data, .data] true (true, "8536521dafa40fb1215aee63ffc74d1434e6f92a681b397f64d9a4cbf31a52e3") false
    parseGround_row (fun _ h => by cases h) (by kernel_rfl) (fun _ h => by cases h) parseGround_row_tie rfl ⟨rfl, rfl⟩ (by kernel_rfl) rfl
    (fun f fn hf hfn => by
      obtain rfl : f = 4 := Option.some.inj ((show Tryd.prog.funcNamed "lapwing/lapwinglaw06.ParseGround" = some 4 by kernel_rfl).symm.trans hf) |>.symm
      obtain rfl : fn = Tryd.f4 := (Option.some.inj (Tryd.func4.symm.trans hfn)).symm
      exact ⟨by kernel_rfl, fun j t ht => by
        rw [Tryd.params4] at ht
        have hm : t ∈ [35, 22] := by simpa using Array.mem_of_getElem? ht
        have hall : ([35, 22].all fun u => !Tryd.prog.wantsStandIn u) = true := by kernel_rfl
        exact (show Tryd.prog.wantsStandIn t = false by simpa using List.all_eq_true.1 hall t hm)⟩)
    (by kernel_rfl)
end Go.Proofs.YtiaippdaogmcmaaDoor
