/- Ligatures are told once. -/
import Derived.Test.YthlkpcfpapiigaaDoorMathU
import Derived.Test.YthlkpcfpapiigaaDoorAwake2
namespace Go.Proofs.YthlkpcfpapiigaaDoor
open Go Go.RowKit
set_option linter.unusedVariables false
set_option linter.unusedSimpArgs false

set_option maxRecDepth 100000 in
set_option maxHeartbeats 4000000 in
theorem ligLaw_c (a b : Int) (i j : Bool) (w : World) (hs : Spc w) : Calls Tryd.prog 7 #[.int .i64 a, .int .i64 b, .bool i, .bool j] w fun e w' => e = .returned (.bool true) ∧ Below w.heap.size w w' := by
  have la := lig_cases a i
  have lb := lig_cases b j
  have lo := lig_once a b i j
  have g1 := fun W => ligature_c 1604 a i W
  have g2 := fun W => ligature_c 1604 b j W
  have cx := class_told (ligF 1604 a i).1
  have ca := join_told a
  generalize ligF 1604 a i = X at *
  generalize ligF 1604 b j = Y at *
  obtain ⟨x, ok⟩ := X
  obtain ⟨y, also⟩ := Y
  dsimp only at *
  have G1 := Lib.hid g1
  have G2 := Lib.hid g2
  clear g1 g2 lb
  generalize classF x = cl at *
  generalize joinV a = jn at *
  cases ok
  · have hx : x = 0 := by
      rcases la with h | h
      · injection h
      · cases h.1
    subst hx
    clear la lo
    go_enter Tryd.func7, Tryd.ntmps7
    go_wp2_with fail
    refine (awake_c w hs).mono ?_
    rintro e w0 ⟨rfl, hb0⟩
    have hs0 := hs.later hb0
    go_wp2_with fail
    refine (load_c w0 hs0).mono ?_
    rintro e w1 ⟨A1, A2, A3, A4, A5, A6, c1, c2, c3, c4, c5, c6, rfl, hD, hb1⟩
    unfold dataV
    have hbel := hb0.trans (hb1.mono hb0.size)
    have hX := DBox.new (c1 := c1) (c2 := c2) (c3 := c3) (c4 := c4) (c5 := c5) (c6 := c6) hD
    have hbel := hbel.alloc hbel.size (.cells #[.slice A1 classRows.length c1, .slice A2 wideRows.length c2, .slice A3 joinRows.length c3, .slice A4 mirrorRows.length c4, .slice A5 bracketRows.length c5, .slice A6 formRows.length c6] 29)
    clear hb0 hb1 hD hs0
    go_wp2_with fail
    refine (G1.out _).mono ?_
    rintro e wl ⟨rfl, rfl⟩
    go_wp2_with fail
    refine (G2.out _).mono ?_
    rintro e wl ⟨rfl, rfl⟩
    obtain ⟨x0, x1, x2, x3, x4, x5⟩ := hX.cells
    go_wp2_with fail
    go_ret
    exact ⟨rfl, hbel⟩
  · obtain ⟨_, hx0, hx1, hcl, hjn⟩ : True ∧ 65269 ≤ x ∧ x ≤ 65276 ∧ cl = 3 ∧ jn = 1 := by
      rcases la with h | h
      · cases h
      · exact ⟨trivial, h.2⟩
    subst hcl
    subst hjn
    clear la
    cases also
    · clear lo
      go_enter Tryd.func7, Tryd.ntmps7
      go_wp2_with fail
      refine (awake_c w hs).mono ?_
      rintro e w0 ⟨rfl, hb0⟩
      have hs0 := hs.later hb0
      go_wp2_with fail
      refine (load_c w0 hs0).mono ?_
      rintro e w1 ⟨A1, A2, A3, A4, A5, A6, c1, c2, c3, c4, c5, c6, rfl, hD, hb1⟩
      unfold dataV
      have hbel := hb0.trans (hb1.mono hb0.size)
      have hX := DBox.new (c1 := c1) (c2 := c2) (c3 := c3) (c4 := c4) (c5 := c5) (c6 := c6) hD
      have hbel := hbel.alloc hbel.size (.cells #[.slice A1 classRows.length c1, .slice A2 wideRows.length c2, .slice A3 joinRows.length c3, .slice A4 mirrorRows.length c4, .slice A5 bracketRows.length c5, .slice A6 formRows.length c6] 29)
      clear hb0 hb1 hD hs0
      go_wp2_with fail
      refine (G1.out _).mono ?_
      rintro e wl ⟨rfl, rfl⟩
      go_wp2_with fail
      refine (G2.out _).mono ?_
      rintro e wl ⟨rfl, rfl⟩
      obtain ⟨x0, x1, x2, x3, x4, x5⟩ := hX.cells
      go_wp2_with fail
      clear x0 x1 x2 x3 x4 x5
      refine (cx.at hX.at_).mono ?_
      rintro e w2 ⟨rfl, hb2⟩
      have hX := hX.later hb2
      have hbel := hbel.trans (hb2.mono hbel.size)
      obtain ⟨x0, x1, x2, x3, x4, x5⟩ := hX.cells
      clear hb2
      go_wp2_with fail
      clear x0 x1 x2 x3 x4 x5
      refine (ca.at hX.at_).mono ?_
      rintro e w3 ⟨rfl, hb3⟩
      have hX := hX.later hb3
      have hbel := hbel.trans (hb3.mono hbel.size)
      obtain ⟨x0, x1, x2, x3, x4, x5⟩ := hX.cells
      clear hb3
      go_wp2_with fail
      clear x0 x1 x2 x3 x4 x5
      go_ret
      exact ⟨rfl, hbel⟩
    · have lo := lo rfl rfl
      by_cases hxy : x = y
      · obtain ⟨hab, hij⟩ := lo.1 hxy
        have kxy : (x == y) = true := beq_iff_eq.2 hxy
        have kab : (a == b) = true := beq_iff_eq.2 hab
        have kij : (i == j) = true := beq_iff_eq.2 hij
        clear lo hxy hab hij
        go_enter Tryd.func7, Tryd.ntmps7
        go_wp2_with fail
        refine (awake_c w hs).mono ?_
        rintro e w0 ⟨rfl, hb0⟩
        have hs0 := hs.later hb0
        go_wp2_with fail
        refine (load_c w0 hs0).mono ?_
        rintro e w1 ⟨A1, A2, A3, A4, A5, A6, c1, c2, c3, c4, c5, c6, rfl, hD, hb1⟩
        unfold dataV
        have hbel := hb0.trans (hb1.mono hb0.size)
        have hX := DBox.new (c1 := c1) (c2 := c2) (c3 := c3) (c4 := c4) (c5 := c5) (c6 := c6) hD
        have hbel := hbel.alloc hbel.size (.cells #[.slice A1 classRows.length c1, .slice A2 wideRows.length c2, .slice A3 joinRows.length c3, .slice A4 mirrorRows.length c4, .slice A5 bracketRows.length c5, .slice A6 formRows.length c6] 29)
        clear hb0 hb1 hD hs0
        go_wp2_with fail
        refine (G1.out _).mono ?_
        rintro e wl ⟨rfl, rfl⟩
        go_wp2_with fail
        refine (G2.out _).mono ?_
        rintro e wl ⟨rfl, rfl⟩
        obtain ⟨x0, x1, x2, x3, x4, x5⟩ := hX.cells
        go_wp2_with fail
        clear x0 x1 x2 x3 x4 x5
        refine (cx.at hX.at_).mono ?_
        rintro e w2 ⟨rfl, hb2⟩
        have hX := hX.later hb2
        have hbel := hbel.trans (hb2.mono hbel.size)
        obtain ⟨x0, x1, x2, x3, x4, x5⟩ := hX.cells
        clear hb2
        go_wp2_with fail
        clear x0 x1 x2 x3 x4 x5
        refine (ca.at hX.at_).mono ?_
        rintro e w3 ⟨rfl, hb3⟩
        have hX := hX.later hb3
        have hbel := hbel.trans (hb3.mono hbel.size)
        obtain ⟨x0, x1, x2, x3, x4, x5⟩ := hX.cells
        clear hb3
        go_wp2_with fail
        clear x0 x1 x2 x3 x4 x5
        go_ret
        exact ⟨rfl, hbel⟩
      · have kxy : (x == y) = false := beq_eq_false_iff_ne.2 hxy
        by_cases hab : a = b
        · have hij : i ≠ j := fun h => hxy (lo.2 ⟨hab, h⟩)
          clear lo hxy
          subst hab
          cases i <;> cases j <;> first | exact absurd rfl hij | skip
          all_goals clear hij
          all_goals
            go_enter Tryd.func7, Tryd.ntmps7
            go_wp2_with fail
            refine (awake_c w hs).mono ?_
            rintro e w0 ⟨rfl, hb0⟩
            have hs0 := hs.later hb0
            go_wp2_with fail
            refine (load_c w0 hs0).mono ?_
            rintro e w1 ⟨A1, A2, A3, A4, A5, A6, c1, c2, c3, c4, c5, c6, rfl, hD, hb1⟩
            unfold dataV
            have hbel := hb0.trans (hb1.mono hb0.size)
            have hX := DBox.new (c1 := c1) (c2 := c2) (c3 := c3) (c4 := c4) (c5 := c5) (c6 := c6) hD
            have hbel := hbel.alloc hbel.size (.cells #[.slice A1 classRows.length c1, .slice A2 wideRows.length c2, .slice A3 joinRows.length c3, .slice A4 mirrorRows.length c4, .slice A5 bracketRows.length c5, .slice A6 formRows.length c6] 29)
            clear hb0 hb1 hD hs0
            go_wp2_with fail
            refine (G1.out _).mono ?_
            rintro e wl ⟨rfl, rfl⟩
            go_wp2_with fail
            refine (G2.out _).mono ?_
            rintro e wl ⟨rfl, rfl⟩
            obtain ⟨x0, x1, x2, x3, x4, x5⟩ := hX.cells
            go_wp2_with fail
            clear x0 x1 x2 x3 x4 x5
            refine (cx.at hX.at_).mono ?_
            rintro e w2 ⟨rfl, hb2⟩
            have hX := hX.later hb2
            have hbel := hbel.trans (hb2.mono hbel.size)
            obtain ⟨x0, x1, x2, x3, x4, x5⟩ := hX.cells
            clear hb2
            go_wp2_with fail
            clear x0 x1 x2 x3 x4 x5
            refine (ca.at hX.at_).mono ?_
            rintro e w3 ⟨rfl, hb3⟩
            have hX := hX.later hb3
            have hbel := hbel.trans (hb3.mono hbel.size)
            obtain ⟨x0, x1, x2, x3, x4, x5⟩ := hX.cells
            clear hb3
            go_wp2_with fail
            clear x0 x1 x2 x3 x4 x5
            go_ret
            exact ⟨rfl, hbel⟩
        · have kab : (a == b) = false := beq_eq_false_iff_ne.2 hab
          clear lo hxy hab
          go_enter Tryd.func7, Tryd.ntmps7
          go_wp2_with fail
          refine (awake_c w hs).mono ?_
          rintro e w0 ⟨rfl, hb0⟩
          have hs0 := hs.later hb0
          go_wp2_with fail
          refine (load_c w0 hs0).mono ?_
          rintro e w1 ⟨A1, A2, A3, A4, A5, A6, c1, c2, c3, c4, c5, c6, rfl, hD, hb1⟩
          unfold dataV
          have hbel := hb0.trans (hb1.mono hb0.size)
          have hX := DBox.new (c1 := c1) (c2 := c2) (c3 := c3) (c4 := c4) (c5 := c5) (c6 := c6) hD
          have hbel := hbel.alloc hbel.size (.cells #[.slice A1 classRows.length c1, .slice A2 wideRows.length c2, .slice A3 joinRows.length c3, .slice A4 mirrorRows.length c4, .slice A5 bracketRows.length c5, .slice A6 formRows.length c6] 29)
          clear hb0 hb1 hD hs0
          go_wp2_with fail
          refine (G1.out _).mono ?_
          rintro e wl ⟨rfl, rfl⟩
          go_wp2_with fail
          refine (G2.out _).mono ?_
          rintro e wl ⟨rfl, rfl⟩
          obtain ⟨x0, x1, x2, x3, x4, x5⟩ := hX.cells
          go_wp2_with fail
          clear x0 x1 x2 x3 x4 x5
          refine (cx.at hX.at_).mono ?_
          rintro e w2 ⟨rfl, hb2⟩
          have hX := hX.later hb2
          have hbel := hbel.trans (hb2.mono hbel.size)
          obtain ⟨x0, x1, x2, x3, x4, x5⟩ := hX.cells
          clear hb2
          go_wp2_with fail
          clear x0 x1 x2 x3 x4 x5
          refine (ca.at hX.at_).mono ?_
          rintro e w3 ⟨rfl, hb3⟩
          have hX := hX.later hb3
          have hbel := hbel.trans (hb3.mono hbel.size)
          obtain ⟨x0, x1, x2, x3, x4, x5⟩ := hX.cells
          clear hb3
          go_wp2_with fail
          clear x0 x1 x2 x3 x4 x5
          go_ret
          exact ⟨rfl, hbel⟩
end Go.Proofs.YthlkpcfpapiigaaDoor
