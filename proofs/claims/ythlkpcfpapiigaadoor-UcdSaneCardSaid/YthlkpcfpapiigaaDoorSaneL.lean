/- The tables may be, and what they tell lies in its bounds. -/
import Derived.Test.YthlkpcfpapiigaaDoorMathU
import Derived.Test.YthlkpcfpapiigaaDoorAwake2
namespace Go.Proofs.YthlkpcfpapiigaaDoor
open Go Go.RowKit
set_option linter.unusedVariables false
set_option linter.unusedSimpArgs false

theorem sane_of (A : Option Addr) (l : List R3) (c : Nat) (w : World) (hn : l.length ≤ 1000) (h : Tab w w.heap.size A l) (hs : saneF l = true) :
    Calls Tryd.prog 16 #[.agg #[.slice A l.length c]] w fun e w' => e = .returned (.bool true) ∧ Below w.heap.size w w' := sane_c A l c w (by unfold maxLen; omega) h true hs
set_option maxRecDepth 100000 in
set_option maxHeartbeats 4000000 in
theorem saneLaw_c (r : Int) (w : World) (hs : Spc w) : Calls Tryd.prog 5 #[.int .i64 r] w fun e w' => e = .returned (.bool true) ∧ Below w.heap.size w w' := by
  have hcb := class_bd r
  have hwb := width_bd r
  have hjb := join_bd r
  have cc := class_told r
  have cw := width_told r
  have cj := join_told r
  have h9 := fun h => nsm_width (r := r) h
  have h4 := fun h => pass_width (r := r) h
  generalize classF r = cl at *
  generalize widthF r = wd at *
  generalize joinV r = jn at *
  obtain ⟨hc0, hc1⟩ := hcb
  obtain ⟨hw0, hw1⟩ := hwb
  obtain ⟨hj0, hj1⟩ := hjb
  have key : (cl = 9 → wd = 0) ∧ (jn = 4 → wd = 0) := ⟨h9, h4⟩
  have HK := Lib.hid key
  clear h9 h4 key
  rcases (show (cl = 9 ∨ cl ≠ 9) ∧ (jn = 4 ∨ jn ≠ 4) by omega) with ⟨ha | ha, hb | hb⟩
  · have hwz : wd = 0 := HK.out.1 ha
    subst hwz
    subst ha
    subst hb
    go_enter Tryd.func5, Tryd.ntmps5
    go_wp2_with fail
    refine (awake_c w hs).mono ?_
    rintro e w0 ⟨rfl, hb0⟩
    have hs0 := hs.later hb0
    go_wp2_with fail
    refine (load_c w0 hs0).mono ?_
    rintro e w1 ⟨A1, A2, A3, A4, A5, A6, c1, c2, c3, c4, c5, c6, rfl, hD, hb1⟩
    unfold dataV
    have hbel := hb0.trans (hb1.mono hb0.size)
    have hX := DBox.new (c1 := c1) (c2 := c2) (c3 := c3) (c4 := c4) (c5 := c5) (c6 := c6) hD
    have hbel := hbel.alloc hbel.size (.cells #[.slice A1 classRows.length c1, .slice A2 wideRows.length c2, .slice A3 joinRows.length c3, .slice A4 mirrorRows.length c4, .slice A5 bracketRows.length c5, .slice A6 formRows.length c6] 29)
    clear hb0 hb1 hD hs0
    go_wp2_with fail
    refine (cc.at hX.at_).mono ?_
    rintro e w2 ⟨rfl, hb2⟩
    have hX := hX.later hb2
    have hbel := hbel.trans (hb2.mono hbel.size)
    obtain ⟨x0, x1, x2, x3, x4, x5⟩ := hX.cells
    clear hb2
    go_wp2_with fail
    clear x0 x1 x2 x3 x4 x5
    refine (cw.at hX.at_).mono ?_
    rintro e w3 ⟨rfl, hb3⟩
    have hX := hX.later hb3
    have hbel := hbel.trans (hb3.mono hbel.size)
    obtain ⟨x0, x1, x2, x3, x4, x5⟩ := hX.cells
    clear hb3
    go_wp2_with fail
    clear x0 x1 x2 x3 x4 x5
    refine (cj.at hX.at_).mono ?_
    rintro e w4 ⟨rfl, hb4⟩
    have hX := hX.later hb4
    have hbel := hbel.trans (hb4.mono hbel.size)
    obtain ⟨x0, x1, x2, x3, x4, x5⟩ := hX.cells
    clear hb4
    go_wp2_with fail
    clear x0 x1 x2 x3 x4 x5
    refine (sane_of A1 classRows c1 _ (by rw [class_len]; decide) hX.at_.t1 class_sane).mono ?_
    rintro e w5 ⟨rfl, hb5⟩
    have hX := hX.later hb5
    have hbel := hbel.trans (hb5.mono hbel.size)
    obtain ⟨x0, x1, x2, x3, x4, x5⟩ := hX.cells
    clear hb5
    go_wp2_with fail
    clear x0 x1 x2 x3 x4 x5
    refine (sane_of A2 wideRows c2 _ (by rw [wide_len]; decide) hX.at_.t2 wide_sane).mono ?_
    rintro e w6 ⟨rfl, hb6⟩
    have hX := hX.later hb6
    have hbel := hbel.trans (hb6.mono hbel.size)
    obtain ⟨x0, x1, x2, x3, x4, x5⟩ := hX.cells
    clear hb6
    go_wp2_with fail
    clear x0 x1 x2 x3 x4 x5
    refine (sane_of A3 joinRows c3 _ (by rw [join_len]; decide) hX.at_.t3 joins_sane).mono ?_
    rintro e w7 ⟨rfl, hb7⟩
    have hX := hX.later hb7
    have hbel := hbel.trans (hb7.mono hbel.size)
    obtain ⟨x0, x1, x2, x3, x4, x5⟩ := hX.cells
    clear hb7
    go_wp2_with fail
    clear x0 x1 x2 x3 x4 x5
    go_ret
    exact ⟨rfl, hbel⟩
  · have hwz : wd = 0 := HK.out.1 ha
    subst hwz
    subst ha
    have k2 : (jn == 4) = false := beq_eq_false_iff_ne.2 hb
    have k2' : (jn != 4) = true := by simpa using hb
    clear hb
    go_enter Tryd.func5, Tryd.ntmps5
    go_wp2_with fail
    refine (awake_c w hs).mono ?_
    rintro e w0 ⟨rfl, hb0⟩
    have hs0 := hs.later hb0
    go_wp2_with fail
    refine (load_c w0 hs0).mono ?_
    rintro e w1 ⟨A1, A2, A3, A4, A5, A6, c1, c2, c3, c4, c5, c6, rfl, hD, hb1⟩
    unfold dataV
    have hbel := hb0.trans (hb1.mono hb0.size)
    have hX := DBox.new (c1 := c1) (c2 := c2) (c3 := c3) (c4 := c4) (c5 := c5) (c6 := c6) hD
    have hbel := hbel.alloc hbel.size (.cells #[.slice A1 classRows.length c1, .slice A2 wideRows.length c2, .slice A3 joinRows.length c3, .slice A4 mirrorRows.length c4, .slice A5 bracketRows.length c5, .slice A6 formRows.length c6] 29)
    clear hb0 hb1 hD hs0
    go_wp2_with fail
    refine (cc.at hX.at_).mono ?_
    rintro e w2 ⟨rfl, hb2⟩
    have hX := hX.later hb2
    have hbel := hbel.trans (hb2.mono hbel.size)
    obtain ⟨x0, x1, x2, x3, x4, x5⟩ := hX.cells
    clear hb2
    go_wp2_with fail
    clear x0 x1 x2 x3 x4 x5
    refine (cw.at hX.at_).mono ?_
    rintro e w3 ⟨rfl, hb3⟩
    have hX := hX.later hb3
    have hbel := hbel.trans (hb3.mono hbel.size)
    obtain ⟨x0, x1, x2, x3, x4, x5⟩ := hX.cells
    clear hb3
    go_wp2_with fail
    clear x0 x1 x2 x3 x4 x5
    refine (cj.at hX.at_).mono ?_
    rintro e w4 ⟨rfl, hb4⟩
    have hX := hX.later hb4
    have hbel := hbel.trans (hb4.mono hbel.size)
    obtain ⟨x0, x1, x2, x3, x4, x5⟩ := hX.cells
    clear hb4
    go_wp2_with fail
    clear x0 x1 x2 x3 x4 x5
    refine (sane_of A1 classRows c1 _ (by rw [class_len]; decide) hX.at_.t1 class_sane).mono ?_
    rintro e w5 ⟨rfl, hb5⟩
    have hX := hX.later hb5
    have hbel := hbel.trans (hb5.mono hbel.size)
    obtain ⟨x0, x1, x2, x3, x4, x5⟩ := hX.cells
    clear hb5
    go_wp2_with fail
    clear x0 x1 x2 x3 x4 x5
    refine (sane_of A2 wideRows c2 _ (by rw [wide_len]; decide) hX.at_.t2 wide_sane).mono ?_
    rintro e w6 ⟨rfl, hb6⟩
    have hX := hX.later hb6
    have hbel := hbel.trans (hb6.mono hbel.size)
    obtain ⟨x0, x1, x2, x3, x4, x5⟩ := hX.cells
    clear hb6
    go_wp2_with fail
    clear x0 x1 x2 x3 x4 x5
    refine (sane_of A3 joinRows c3 _ (by rw [join_len]; decide) hX.at_.t3 joins_sane).mono ?_
    rintro e w7 ⟨rfl, hb7⟩
    have hX := hX.later hb7
    have hbel := hbel.trans (hb7.mono hbel.size)
    obtain ⟨x0, x1, x2, x3, x4, x5⟩ := hX.cells
    clear hb7
    go_wp2_with fail
    clear x0 x1 x2 x3 x4 x5
    go_ret
    exact ⟨rfl, hbel⟩
  · have hwz : wd = 0 := HK.out.2 hb
    subst hwz
    have k1 : (cl == 9) = false := beq_eq_false_iff_ne.2 ha
    have k1' : (cl != 9) = true := by simpa using ha
    clear ha
    subst hb
    go_enter Tryd.func5, Tryd.ntmps5
    go_wp2_with fail
    refine (awake_c w hs).mono ?_
    rintro e w0 ⟨rfl, hb0⟩
    have hs0 := hs.later hb0
    go_wp2_with fail
    refine (load_c w0 hs0).mono ?_
    rintro e w1 ⟨A1, A2, A3, A4, A5, A6, c1, c2, c3, c4, c5, c6, rfl, hD, hb1⟩
    unfold dataV
    have hbel := hb0.trans (hb1.mono hb0.size)
    have hX := DBox.new (c1 := c1) (c2 := c2) (c3 := c3) (c4 := c4) (c5 := c5) (c6 := c6) hD
    have hbel := hbel.alloc hbel.size (.cells #[.slice A1 classRows.length c1, .slice A2 wideRows.length c2, .slice A3 joinRows.length c3, .slice A4 mirrorRows.length c4, .slice A5 bracketRows.length c5, .slice A6 formRows.length c6] 29)
    clear hb0 hb1 hD hs0
    go_wp2_with fail
    refine (cc.at hX.at_).mono ?_
    rintro e w2 ⟨rfl, hb2⟩
    have hX := hX.later hb2
    have hbel := hbel.trans (hb2.mono hbel.size)
    obtain ⟨x0, x1, x2, x3, x4, x5⟩ := hX.cells
    clear hb2
    go_wp2_with fail
    clear x0 x1 x2 x3 x4 x5
    refine (cw.at hX.at_).mono ?_
    rintro e w3 ⟨rfl, hb3⟩
    have hX := hX.later hb3
    have hbel := hbel.trans (hb3.mono hbel.size)
    obtain ⟨x0, x1, x2, x3, x4, x5⟩ := hX.cells
    clear hb3
    go_wp2_with fail
    clear x0 x1 x2 x3 x4 x5
    refine (cj.at hX.at_).mono ?_
    rintro e w4 ⟨rfl, hb4⟩
    have hX := hX.later hb4
    have hbel := hbel.trans (hb4.mono hbel.size)
    obtain ⟨x0, x1, x2, x3, x4, x5⟩ := hX.cells
    clear hb4
    go_wp2_with fail
    clear x0 x1 x2 x3 x4 x5
    refine (sane_of A1 classRows c1 _ (by rw [class_len]; decide) hX.at_.t1 class_sane).mono ?_
    rintro e w5 ⟨rfl, hb5⟩
    have hX := hX.later hb5
    have hbel := hbel.trans (hb5.mono hbel.size)
    obtain ⟨x0, x1, x2, x3, x4, x5⟩ := hX.cells
    clear hb5
    go_wp2_with fail
    clear x0 x1 x2 x3 x4 x5
    refine (sane_of A2 wideRows c2 _ (by rw [wide_len]; decide) hX.at_.t2 wide_sane).mono ?_
    rintro e w6 ⟨rfl, hb6⟩
    have hX := hX.later hb6
    have hbel := hbel.trans (hb6.mono hbel.size)
    obtain ⟨x0, x1, x2, x3, x4, x5⟩ := hX.cells
    clear hb6
    go_wp2_with fail
    clear x0 x1 x2 x3 x4 x5
    refine (sane_of A3 joinRows c3 _ (by rw [join_len]; decide) hX.at_.t3 joins_sane).mono ?_
    rintro e w7 ⟨rfl, hb7⟩
    have hX := hX.later hb7
    have hbel := hbel.trans (hb7.mono hbel.size)
    obtain ⟨x0, x1, x2, x3, x4, x5⟩ := hX.cells
    clear hb7
    go_wp2_with fail
    clear x0 x1 x2 x3 x4 x5
    go_ret
    exact ⟨rfl, hbel⟩
  · have k1 : (cl == 9) = false := beq_eq_false_iff_ne.2 ha
    have k1' : (cl != 9) = true := by simpa using ha
    clear ha
    have k2 : (jn == 4) = false := beq_eq_false_iff_ne.2 hb
    have k2' : (jn != 4) = true := by simpa using hb
    clear hb
    go_enter Tryd.func5, Tryd.ntmps5
    go_wp2_with fail
    refine (awake_c w hs).mono ?_
    rintro e w0 ⟨rfl, hb0⟩
    have hs0 := hs.later hb0
    go_wp2_with fail
    refine (load_c w0 hs0).mono ?_
    rintro e w1 ⟨A1, A2, A3, A4, A5, A6, c1, c2, c3, c4, c5, c6, rfl, hD, hb1⟩
    unfold dataV
    have hbel := hb0.trans (hb1.mono hb0.size)
    have hX := DBox.new (c1 := c1) (c2 := c2) (c3 := c3) (c4 := c4) (c5 := c5) (c6 := c6) hD
    have hbel := hbel.alloc hbel.size (.cells #[.slice A1 classRows.length c1, .slice A2 wideRows.length c2, .slice A3 joinRows.length c3, .slice A4 mirrorRows.length c4, .slice A5 bracketRows.length c5, .slice A6 formRows.length c6] 29)
    clear hb0 hb1 hD hs0
    go_wp2_with fail
    refine (cc.at hX.at_).mono ?_
    rintro e w2 ⟨rfl, hb2⟩
    have hX := hX.later hb2
    have hbel := hbel.trans (hb2.mono hbel.size)
    obtain ⟨x0, x1, x2, x3, x4, x5⟩ := hX.cells
    clear hb2
    go_wp2_with fail
    clear x0 x1 x2 x3 x4 x5
    refine (cw.at hX.at_).mono ?_
    rintro e w3 ⟨rfl, hb3⟩
    have hX := hX.later hb3
    have hbel := hbel.trans (hb3.mono hbel.size)
    obtain ⟨x0, x1, x2, x3, x4, x5⟩ := hX.cells
    clear hb3
    go_wp2_with fail
    clear x0 x1 x2 x3 x4 x5
    refine (cj.at hX.at_).mono ?_
    rintro e w4 ⟨rfl, hb4⟩
    have hX := hX.later hb4
    have hbel := hbel.trans (hb4.mono hbel.size)
    obtain ⟨x0, x1, x2, x3, x4, x5⟩ := hX.cells
    clear hb4
    go_wp2_with fail
    clear x0 x1 x2 x3 x4 x5
    refine (sane_of A1 classRows c1 _ (by rw [class_len]; decide) hX.at_.t1 class_sane).mono ?_
    rintro e w5 ⟨rfl, hb5⟩
    have hX := hX.later hb5
    have hbel := hbel.trans (hb5.mono hbel.size)
    obtain ⟨x0, x1, x2, x3, x4, x5⟩ := hX.cells
    clear hb5
    go_wp2_with fail
    clear x0 x1 x2 x3 x4 x5
    refine (sane_of A2 wideRows c2 _ (by rw [wide_len]; decide) hX.at_.t2 wide_sane).mono ?_
    rintro e w6 ⟨rfl, hb6⟩
    have hX := hX.later hb6
    have hbel := hbel.trans (hb6.mono hbel.size)
    obtain ⟨x0, x1, x2, x3, x4, x5⟩ := hX.cells
    clear hb6
    go_wp2_with fail
    clear x0 x1 x2 x3 x4 x5
    refine (sane_of A3 joinRows c3 _ (by rw [join_len]; decide) hX.at_.t3 joins_sane).mono ?_
    rintro e w7 ⟨rfl, hb7⟩
    have hX := hX.later hb7
    have hbel := hbel.trans (hb7.mono hbel.size)
    obtain ⟨x0, x1, x2, x3, x4, x5⟩ := hX.cells
    clear hb7
    go_wp2_with fail
    clear x0 x1 x2 x3 x4 x5
    go_ret
    exact ⟨rfl, hbel⟩
end Go.Proofs.YthlkpcfpapiigaaDoor
