/- Letters that stand in no table are plain. -/
import Derived.Test.YthlkpcfpapiigaaDoorMathU
import Derived.Test.YthlkpcfpapiigaaDoorAwake2
namespace Go.Proofs.YthlkpcfpapiigaaDoor
open Go Go.RowKit
set_option linter.unusedVariables false
set_option linter.unusedSimpArgs false

set_option maxRecDepth 100000 in
set_option maxHeartbeats 4000000 in
theorem wideLaw_c (r : Int) (w : World) (hs : Spc w) : Calls Tryd.prog 6 #[.int .i64 r] w fun e w' => e = .returned (.bool true) ∧ Below w.heap.size w w' := by
  by_cases hin : 0 ≤ r ∧ r ≤ 262141
  · obtain ⟨h0, h1⟩ := hin
    go_enter Tryd.func6, Tryd.ntmps6
    go_wp2_with fail
    refine (awake_c w hs).mono ?_
    rintro e w0 ⟨rfl, hb0⟩
    have hs0 := hs.later hb0
    go_wp2_with fail
    refine (load_c w0 hs0).mono ?_
    rintro e w1 ⟨A1, A2, A3, A4, A5, A6, c1, c2, c3, c4, c5, c6, rfl, hD, hb1⟩
    unfold dataV
    have hbel := hb0.trans (hb1.mono hb0.size)
    have hX := DBox.new (c1 := c1) (c2 := c2) (c3 := c3) (c4 := c4) (c5 := c5) (c6 := c6) hD
    have hbel := hbel.alloc hbel.size (.cells #[.slice A1 classRows.length c1, .slice A2 wideRows.length c2, .slice A3 joinRows.length c3, .slice A4 mirrorRows.length c4, .slice A5 bracketRows.length c5, .slice A6 formRows.length c6] 29)
    clear hb0 hb1 hD hs0
    go_wp2_with fail
    go_ret
    exact ⟨rfl, hbel⟩
  · have hr : r < 0 ∨ 262141 < r := by omega
    have m1 := class_out hr
    have m2 := width_out hr
    have m3 := join_out hr
    have m4 := mirror_out hr
    have m5 := bracket_out hr
    have m6 := shape_out hr 1
    have m7 := lig_out hr 1575 true
    have M1 := Lib.hid m1
    have M2 := Lib.hid m2
    have M3 := Lib.hid m3
    have M4 := Lib.hid m4
    have M5 := Lib.hid m5
    have M6 := Lib.hid m6
    have M7 := Lib.hid m7
    clear m1 m2 m3 m4 m5 m6 m7 hin
    rcases hr with hneg | hbig
    all_goals
      have hz : r < 0 ∨ 0 ≤ r := by omega
      go_enter Tryd.func6, Tryd.ntmps6
      go_wp2_with fail
      refine (awake_c w hs).mono ?_
      rintro e w0 ⟨rfl, hb0⟩
      have hs0 := hs.later hb0
      go_wp2_with fail
      refine (load_c w0 hs0).mono ?_
      rintro e w1 ⟨A1, A2, A3, A4, A5, A6, c1, c2, c3, c4, c5, c6, rfl, hD, hb1⟩
      unfold dataV
      have hbel := hb0.trans (hb1.mono hb0.size)
      have hX := DBox.new (c1 := c1) (c2 := c2) (c3 := c3) (c4 := c4) (c5 := c5) (c6 := c6) hD
      have hbel := hbel.alloc hbel.size (.cells #[.slice A1 classRows.length c1, .slice A2 wideRows.length c2, .slice A3 joinRows.length c3, .slice A4 mirrorRows.length c4, .slice A5 bracketRows.length c5, .slice A6 formRows.length c6] 29)
      clear hb0 hb1 hD hs0
      go_wp2_with fail
      refine (bracket_c r _ hX.at_).mono ?_
      rintro e w2 ⟨rfl, hb2⟩
      rw [M5.out]
      have hX := hX.later hb2
      have hbel := hbel.trans (hb2.mono hbel.size)
      obtain ⟨x0, x1, x2, x3, x4, x5⟩ := hX.cells
      clear hb2
      go_wp2_with fail
      clear x0 x1 x2 x3 x4 x5
      refine (ligature_c r 1575 true _).mono ?_
      rintro e wl ⟨rfl, rfl⟩
      rw [M7.out]
      obtain ⟨x0, x1, x2, x3, x4, x5⟩ := hX.cells
      go_wp2_with fail
      clear x0 x1 x2 x3 x4 x5
      refine (class_c r _ hX.at_).mono ?_
      rintro e w3 ⟨rfl, hb3⟩
      rw [M1.out]
      have hX := hX.later hb3
      have hbel := hbel.trans (hb3.mono hbel.size)
      obtain ⟨x0, x1, x2, x3, x4, x5⟩ := hX.cells
      clear hb3
      go_wp2_with fail
      clear x0 x1 x2 x3 x4 x5
      refine (width_c r _ hX.at_).mono ?_
      rintro e w4 ⟨rfl, hb4⟩
      rw [M2.out]
      have hX := hX.later hb4
      have hbel := hbel.trans (hb4.mono hbel.size)
      obtain ⟨x0, x1, x2, x3, x4, x5⟩ := hX.cells
      clear hb4
      go_wp2_with fail
      clear x0 x1 x2 x3 x4 x5
      refine (join_c' r _ hX.at_).mono ?_
      rintro e w5 ⟨rfl, hb5⟩
      rw [M3.out]
      have hX := hX.later hb5
      have hbel := hbel.trans (hb5.mono hbel.size)
      obtain ⟨x0, x1, x2, x3, x4, x5⟩ := hX.cells
      clear hb5
      go_wp2_with fail
      clear x0 x1 x2 x3 x4 x5
      refine (mirror_c r _ hX.at_).mono ?_
      rintro e w6 ⟨rfl, hb6⟩
      rw [M4.out]
      have hX := hX.later hb6
      have hbel := hbel.trans (hb6.mono hbel.size)
      obtain ⟨x0, x1, x2, x3, x4, x5⟩ := hX.cells
      clear hb6
      go_wp2_with fail
      clear x0 x1 x2 x3 x4 x5
      refine (shape_c r 1 _ hX.at_).mono ?_
      rintro e w7 ⟨rfl, hb7⟩
      rw [M6.out]
      have hX := hX.later hb7
      have hbel := hbel.trans (hb7.mono hbel.size)
      obtain ⟨x0, x1, x2, x3, x4, x5⟩ := hX.cells
      clear hb7
      go_wp2_with fail
      clear x0 x1 x2 x3 x4 x5
      go_ret
      exact ⟨rfl, hbel⟩
end Go.Proofs.YthlkpcfpapiigaaDoor
