/- The document's example of chapter 8, over the contracts. -/
import Derived.Test.YtflpelpgnjdnkaaMem08b
import Derived.Test.YtflpelpgnjdnkaaChecked
import Derived.Deep.DeepCutAuto
namespace Go.Proofs.Ytflpelpgnjdnkaa
open Go Go.RowKit
set_option linter.unusedVariables false
set_option linter.unusedSimpArgs false

def exR : Rw := ⟨[blankC zeroN, ⟨19968, 0, 0, 2, zeroN⟩, halfC zeroN, blankC zeroN], false, 0, false⟩
def exS : Rw := ⟨[blankC zeroN, ⟨65, 0, 0, 1, zeroN⟩, blankC zeroN, blankC zeroN], false, 0, false⟩
theorem ex8_new : newR 4 zeroN = ⟨[blankC zeroN, blankC zeroN, blankC zeroN, blankC zeroN], false, 0, false⟩ := by decide +kernel
theorem ex8_put : putR (newR 4 zeroN) 1 ⟨19968, 0, 0, 2, zeroN⟩ = exR := by decide +kernel
theorem ex8_put2 : putR exR 1 ⟨65, 0, 0, 1, zeroN⟩ = exS := by decide +kernel
theorem ex8_sane : SaneR exR := by decide +kernel
theorem ex8_sane0 : SaneR (newR 4 zeroN) := by decide +kernel
set_option maxRecDepth 100000 in
set_option maxHeartbeats 4000000 in
theorem awake8_c (hn : New8C) (hp : Put8C) (hs : Sane8C) (w : World) : Calls Try.prog 7 #[] w fun e w' => e = .returned (.bool true) ∧ Below w.heap.size w w' := by
  have h1 := hn 4 zeroN w (by unfold I64; decide) zero_ok
  have h2 := fun A c V (hV : InC V A c (newR 4 zeroN).cs) => hp (newR 4 zeroN) A c 1 ⟨19968, 0, 0, 2, zeroN⟩ V hV ex8_sane0.ok (by unfold I64; decide) (OneC.ok (by decide))
  have h3 := fun A c V (hV : InC V A c exR.cs) => hp exR A c 1 ⟨65, 0, 0, 1, zeroN⟩ V hV ex8_sane.ok (by unfold I64; decide) (OneC.ok (by decide))
  have h4 := fun A c V (hV : InC V A c exR.cs) => hs exR A c V hV ex8_sane.ok
  rw [ex8_put] at h2
  rw [ex8_put2] at h3
  rw [decide_eq_true ex8_sane] at h4
  have v0 : pnV zeroN = .agg #[.int .i64 0, .int .i64 0, .int .i64 0] := rfl
  have v1 : clV ⟨19968, 0, 0, 2, zeroN⟩ = .agg #[.int .i64 19968, .int .i64 0, .int .i64 0, .int .i64 2, .int .i64 0, .int .i64 0, .int .i64 0] := rfl
  have v2 : clV ⟨65, 0, 0, 1, zeroN⟩ = .agg #[.int .i64 65, .int .i64 0, .int .i64 0, .int .i64 1, .int .i64 0, .int .i64 0, .int .i64 0] := rfl
  have w0 : ∀ A c, rwV (newR 4 zeroN) A c = .agg #[.slice A 4 c, .bool false, .int .i64 0, .bool false] := fun _ _ => by rw [ex8_new]; rfl
  have w1 : ∀ A c, rwV exR A c = .agg #[.slice A 4 c, .bool false, .int .i64 0, .bool false] := fun _ _ => rfl
  have w2 : ∀ A c, rwV exS A c = .agg #[.slice A 4 c, .bool false, .int .i64 0, .bool false] := fun _ _ => rfl
  rw [v0] at h1
  simp only [w0, v1] at h2
  simp only [w1, v2] at h3 h4
  unfold GivesRow at h1 h2 h3
  simp only [w0] at h1
  simp only [w1] at h2
  simp only [w2] at h3
  have H2 := Lib.hid h2
  have H3 := Lib.hid h3
  have H4 := Lib.hid h4
  clear h2 h3 h4 v0 v1 v2 w0 w1 w2
  go_enter Try.func7, Try.ntmps7
  go_wp2_with fail
  refine h1.mono ?_
  rintro e x1 ⟨A1, c1, rfl, hc1, hb1⟩
  have h2 := H2.out A1 c1 x1 hc1
  clear h1 hc1 H2
  go_wp2_with fail
  refine h2.mono ?_
  rintro e x2 ⟨A2, c2, rfl, hc2, hb2⟩
  have hb2 := hb1.trans (hb2.mono hb1.size)
  have hbx := Box.new x2 24 #[.slice A2 4 c2, .bool false, .int .i64 0, .bool false]
  have hal := (Below.refl x2.heap.size x2).alloc (Nat.le_refl _) (.cells #[.slice A2 4 c2, .bool false, .int .i64 0, .bool false] 24)
  have hbl := hb2.trans (hal.mono hb2.size)
  have hcc := hc2.on hal
  have h3 := H3.out A2 c2 _ hcc
  have HB := Lib.hid (And.intro hbx (And.intro hbl hcc))
  clear h2 hb1 hb2 hc2 hbx hal hbl hcc H3
  go_wp2_with fail
  refine h3.mono ?_
  rintro e x3 ⟨A3, c3, rfl, hc3, hb3⟩
  have hbx3 := HB.out.1.below hb3 HB.out.1.lt
  have hbl3 := HB.out.2.1.trans (hb3.mono HB.out.2.1.size)
  have hcc3 := HB.out.2.2.on hb3
  have hal := (Below.refl x3.heap.size x3).alloc (Nat.le_refl _) (.cells #[.slice A3 4 c3, .bool false, .int .i64 0, .bool false] 24)
  have hby := Box.new x3 24 #[.slice A3 4 c3, .bool false, .int .i64 0, .bool false]
  have HB3 := Lib.hid (And.intro (hbx3.below hal hbx3.lt) (And.intro hby (And.intro (hbl3.trans (hal.mono hbl3.size)) (And.intro (hcc3.on hal) (hc3.on hal)))))
  clear h3 hb3 hbx3 hbl3 hcc3 hal hby hc3 HB
  go_upto_region 3 with fail
  obtain ⟨hX, hY, hbl, hcr, hcs⟩ := HB3.out
  clear HB3
  generalize x3.alloc (.cells #[.slice A3 4 c3, .bool false, .int .i64 0, .bool false] 24) = W at *
  obtain ⟨k0, k1, k2, k3⟩ : W.cell? ⟨x2.heap.size, 0, none⟩ = some (.slice A2 4 c2) ∧ W.cell? ⟨x2.heap.size, 1, none⟩ = some (.bool false) ∧ W.cell? ⟨x2.heap.size, 2, none⟩ = some (.int .i64 0) ∧ W.cell? ⟨x2.heap.size, 3, none⟩ = some (.bool false) := ⟨hX.cell 0, hX.cell 1, hX.cell 2, hX.cell 3⟩
  have h4 := H4.out A2 c2 W hcr
  have HB := Lib.hid (And.intro hX (And.intro hY (And.intro hbl (And.intro hcr hcs))))
  clear hX hY hbl hcr hcs H4
  go_wp2_with fail
  refine h4.mono ?_
  rintro e x4 ⟨rfl, hb4⟩
  obtain ⟨hX, hY, hbl, hcr, hcs⟩ := HB.out
  have hX := hX.below hb4 hX.lt
  have hY := hY.below hb4 hY.lt
  have hbl := hbl.trans (hb4.mono hbl.size)
  have hcr := hcr.on hb4
  have hcs := hcs.on hb4
  obtain ⟨g1, o1, rfl, -, -, -, -, p1, -, -, -⟩ := hcr.at_ (k := 1) (e := ⟨19968, 0, 0, 2, zeroN⟩) rfl
  obtain ⟨g1', o1', eg1, -, -, -, -, p2, -, -, -⟩ := hcr.at_ (k := 2) (e := halfC zeroN) rfl
  injection eg1 with eg1; injection eg1 with eg1 eg2; subst eg1; subst eg2
  obtain ⟨g2, o2, rfl, -, q0, -, -, q1, -, -, -⟩ := hcs.at_ (k := 2) (e := blankC zeroN) rfl
  obtain ⟨g2', o2', eg2, -, r0, -, -, r1, -, -, -⟩ := hcs.at_ (k := 1) (e := ⟨65, 0, 0, 1, zeroN⟩) rfl
  injection eg2 with eg2; injection eg2 with eg2 eg3; subst eg2; subst eg3
  have l0 : x4.cell? ⟨x2.heap.size, 0, none⟩ = some (.slice (some ⟨g1, o1, none⟩) 4 c2) := hX.cell 0
  have l1 : x4.cell? ⟨x3.heap.size, 0, none⟩ = some (.slice (some ⟨g2, o2, none⟩) 4 c3) := hY.cell 0
  have c4 : 4 ≤ c2 := hcr.cap
  have c5 : 4 ≤ c3 := hcs.cap
  simp only [halfC, blankC, Nat.reduceMul, Nat.one_mul] at p1 p2 q0 q1 r0 r1
  have HL := Lib.hid hbl
  clear h4 hb4 hX hY hbl hcr hcs HB k0 k1 k2 k3
  go_wp2_with fail
  go_ret
  exact ⟨rfl, HL.out⟩
end Go.Proofs.Ytflpelpgnjdnkaa
