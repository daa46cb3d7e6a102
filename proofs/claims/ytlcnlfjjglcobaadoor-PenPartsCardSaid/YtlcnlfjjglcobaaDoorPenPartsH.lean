/- PenParts: for every input the law returns true, where the listed variables hold what the program's text lays; the card ties them. -/
import Derived.Test.YtlcnlfjjglcobaaDoorTog7
import Derived.Test.YtlcnlfjjglcobaaDoorPartsL7
import Derived.Test.YtlcnlfjjglcobaaDoorPen7g
import Derived.Test.YtlcnlfjjglcobaaDoorPen7h
import Derived.Test.YtlcnlfjjglcobaaDoorP5Parse
import Derived.Test.YtlcnlfjjglcobaaDoorTie
import Derived.Test.YtlcnlfjjglcobaaDoorCards
import Derived.SevenTiedAt
namespace Go.Proofs.YtlcnlfjjglcobaaDoor
open Go Go.RowKit Go.ChangeShapes Go.WideShapes Go.ChangeAt Go.ChangeMaps
set_option linter.unusedVariables false

set_option maxRecDepth 100000 in
theorem penParts_lifted (os : Os) (started : os.Started) (H : Type) (enc : TypeId × Value → H) :
    ReturnsInHanded {} Tryd.checked os 7 .any (fun w args => (Rows.penPartsSpec.pre enc Tryd.prog Tryd.f7 Rows.penPartsRow.domain false w args ∧ laidMetH Tryd.prog Rows.penPartsRow.laid w) ∧ sizedMet enc Tryd.prog Tryd.f7 (OpenSpec.ofChange Rows.penPartsSpec) false w args)
      (Rows.penPartsSpec.post enc Tryd.prog Tryd.f7 false true false false) := by
  refine returnsInHanded_of_change_and (C := Tryd.checked) (X := fun w _ => laidMetH Tryd.prog Rows.penPartsRow.laid w) (fun _ _ _ hh h => h.of_heap hh) own started (by kernel_rfl) Tryd.func7
    (ChangeSpec.witness_shaped (enc := enc) (C := Tryd.checked) (os := os) (X := fun w _ => laidMetH Tryd.prog Rows.penPartsRow.laid w) false (World.laidAll Tryd.prog os Rows.penPartsRow.laid) #[.int .i64 0] 8 (World.laidAll_os _ _ _)
      (World.shaped_of_ZipB (by kernel_rfl) (by kernel_rfl)) (by kernel_rfl) (by kernel_rfl) (by kernel_rfl)
      (by rw [MakeChecks.laidMetH_plain _ _ _ (by kernel_rfl)]; exact laidMet_laidAll _ (by kernel_rfl) (by kernel_rfl))) ?_
  intro W base args ds gs before hval0 hW _ _ hL _
  have hval : ∀ (j : Nat) t v, Tryd.f7.params[j]? = some t → args[j]? = some v → Value.okWide Tryd.prog W .any base t v := hval0
  have hW' := hW
  obtain ⟨p, q, hA0, hV, rfl, _, _⟩ := hW
  have hA : DataW.TrodAll enc Tryd.prog W 0 (fun _ => true) true Tryd.f7.params.toList args.toList ds p := hA0
  rw [Tryd.params7] at hA hval
  obtain ⟨v0, d0, rfl, rfl, h0⟩ := trodAll_one hA
  obtain ⟨k0, rfl, rfl, rfl, r0⟩ := open_int Tryd.underlying3 (hval 0 3 v0 rfl rfl) h0
  obtain ⟨rfl, rfl⟩ := trodVars_none hV
  rw [MakeChecks.laidMetH_plain _ _ _ (by kernel_rfl)] at hL
  have hs := tog_of_laid hL (by simp [Rows.penPartsRow])
  refine (parts_law parse_c sane7_c apply7_c print7_c parts7_c rgb7_c k0 (wf_i64 r0) W hs).mono fun e W' ⟨he, hb⟩ => ?_
  exact ⟨_, he, law_post (bt := 4) hW' rfl rfl Tryd.underlying4 rfl laid (by decide +kernel) hb⟩

theorem penParts_row : Rows.PenPartsSaid :=
  OpenClaim.holds_of_wide 7 Tryd.f7 rfl rfl rfl rfl rfl rfl rfl ⟨rfl, rfl, rfl, rfl, rfl⟩ rfl rfl rfl rfl rfl (by kernel_rfl) Tryd.func7 (by kernel_rfl)
    (of_decide_eq_true (by kernel_rfl)) (by unfold Func.isWrapper; first | (rw [if_pos (by decide +kernel)]; kernel_rfl) | (rw [if_neg (by decide +kernel)]; exact ⟨rfl, rfl⟩))
    (fun os started H enc _ => penParts_lifted os started H enc)

theorem penParts_holds : Rows.PenPartsCardSaid :=
  Claim7.holds_tied_plain_at .later [] [.data] true (true, "8e37a69308a27611c29b5938cefd5921f6fbd409484bc5c39f31ab75e1616159") false
    penParts_row (fun _ h => by cases h) (by kernel_rfl) (fun _ h => by cases h) penParts_row_tie rfl ⟨rfl, rfl⟩ (by kernel_rfl) rfl
    (fun f fn hf hfn => by
      obtain rfl : f = 7 := Option.some.inj ((show Tryd.prog.funcNamed "lapwing/lapwinglaw07.PenParts" = some 7 by kernel_rfl).symm.trans hf) |>.symm
      obtain rfl : fn = Tryd.f7 := (Option.some.inj (Tryd.func7.symm.trans hfn)).symm
      exact ⟨by kernel_rfl, fun j t ht => by
        rw [Tryd.params7] at ht
        have hm : t ∈ [3] := by simpa using Array.mem_of_getElem? ht
        have hall : ([3].all fun u => !Tryd.prog.wantsStandIn u) = true := by kernel_rfl
        exact (show Tryd.prog.wantsStandIn t = false by simpa using List.all_eq_true.1 hall t hm)⟩)
    (by kernel_rfl)
end Go.Proofs.YtlcnlfjjglcobaaDoor
