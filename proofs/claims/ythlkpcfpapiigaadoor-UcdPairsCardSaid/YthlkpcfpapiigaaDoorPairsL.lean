/- A mirror's mirror is the letter; what opens is closed by what it opens for. -/
import Derived.Test.YthlkpcfpapiigaaDoorMathU
import Derived.Test.YthlkpcfpapiigaaDoorAwake2
namespace Go.Proofs.YthlkpcfpapiigaaDoor
open Go Go.RowKit
set_option linter.unusedVariables false
set_option linter.unusedSimpArgs false

def BTold (r o k : Int) : Prop := ∀ (A1 A2 A3 A4 A5 A6 : Option Addr) (c1 c2 c3 c4 c5 c6 : Nat) (W : World), DataAt W A1 A2 A3 A4 A5 A6 →
  Calls Tryd.prog 10 #[dataV A1 A2 A3 A4 A5 A6 c1 c2 c3 c4 c5 c6, .int .i64 r] W fun e w' => e = .returned (.tuple #[.int .i64 o, .int .i64 k]) ∧ Below W.heap.size W w'
theorem BTold.at {r o k : Int} (h : BTold r o k) {A1 A2 A3 A4 A5 A6 : Option Addr} {c1 c2 c3 c4 c5 c6 : Nat} {W : World} (hD : DataAt W A1 A2 A3 A4 A5 A6) :
    Calls Tryd.prog 10 #[dataV A1 A2 A3 A4 A5 A6 c1 c2 c3 c4 c5 c6, .int .i64 r] W fun e w' => e = .returned (.tuple #[.int .i64 o, .int .i64 k]) ∧ Below W.heap.size W w' := h _ _ _ _ _ _ _ _ _ _ _ _ _ hD
theorem bracket_told (r : Int) : BTold r (findF bracketRows r).1 (findF bracketRows r).2 := fun _ _ _ _ _ _ _ _ _ _ _ _ W h => bracket_c r W h

/-- The facts of a letter: its other one o and what it is, the other one's other one p, its mirror m, that one's mirror q. -/
theorem pairs_facts (r : Int) : ∃ o is p ks m q : Int, BTold r o is ∧ BTold o p ks ∧ Told 11 r m ∧ Told 11 m q ∧ q = r ∧ (is = 0 ∨ (is = 1 ∧ ks = 2 ∨ is = 2 ∧ ks = 1) ∧ p = r ∧ m = o) := by
  refine ⟨_, _, _, _, _, _, bracket_told r, bracket_told _, mirror_told r, mirror_told _, mirror_mirror r, ?_⟩
  rcases bracket_back r with h | ⟨h1, h2, h3⟩
  · exact .inl h.1
  · exact .inr ⟨h1, h2, h3⟩

set_option maxRecDepth 100000 in
set_option maxHeartbeats 4000000 in
theorem pairsLaw_c (r : Int) (w : World) (hs : Spc w) : Calls Tryd.prog 3 #[.int .i64 r] w fun e w' => e = .returned (.bool true) ∧ Below w.heap.size w w' := by
  obtain ⟨o, is, p, ks, m, q, tb, tb2, tm, tm2, hq, hc⟩ := pairs_facts r
  have kq : (q == r) = true := beq_iff_eq.2 hq
  clear hq
  rcases hc with h | ⟨⟨h1, h2⟩ | ⟨h1, h2⟩, hp, hm⟩
  · have hz : is = 0 ∧ True := ⟨h, trivial⟩
    clear h
    obtain ⟨rfl, -⟩ := hz
    go_enter Tryd.func3, Tryd.ntmps3
    go_wp2_with fail
    refine (awake_c w hs).mono ?_
    rintro e w0 ⟨rfl, hb0⟩
    have hs0 := hs.later hb0
    go_wp2_with fail
    refine (load_c w0 hs0).mono ?_
    rintro e w1 ⟨A1, A2, A3, A4, A5, A6, c1, c2, c3, c4, c5, c6, rfl, hD, hb1⟩
    unfold dataV
    have hbel := hb0.trans (hb1.mono hb0.size)
    have hX := DBox.new (c1 := c1) (c2 := c2) (c3 := c3) (c4 := c4) (c5 := c5) (c6 := c6) hD
    have hbel := hbel.alloc hbel.size (.cells #[.slice A1 classRows.length c1, .slice A2 wideRows.length c2, .slice A3 joinRows.length c3, .slice A4 mirrorRows.length c4, .slice A5 bracketRows.length c5, .slice A6 formRows.length c6] 29)
    clear hb0 hb1 hD hs0
    go_wp2_with fail
    refine (tb.at hX.at_).mono ?_
    rintro e w2 ⟨rfl, hb2⟩
    have hX := hX.later hb2
    have hbel := hbel.trans (hb2.mono hbel.size)
    obtain ⟨x0, x1, x2, x3, x4, x5⟩ := hX.cells
    clear hb2
    go_wp2_with fail
    clear x0 x1 x2 x3 x4 x5
    refine (tb2.at hX.at_).mono ?_
    rintro e w3 ⟨rfl, hb3⟩
    have hX := hX.later hb3
    have hbel := hbel.trans (hb3.mono hbel.size)
    obtain ⟨x0, x1, x2, x3, x4, x5⟩ := hX.cells
    clear hb3
    go_wp2_with fail
    clear x0 x1 x2 x3 x4 x5
    have hlt := hX.box.lt
    obtain ⟨x0, x1, x2, x3, x4, x5⟩ := hX.cells
    have y0 := Ext.cell (B := w3.heap.size) (w := w3) (by exact hlt) x0
    have y1 := Ext.cell (B := w3.heap.size) (w := w3) (by exact hlt) x1
    have y2 := Ext.cell (B := w3.heap.size) (w := w3) (by exact hlt) x2
    have y3 := Ext.cell (B := w3.heap.size) (w := w3) (by exact hlt) x3
    have y4 := Ext.cell (B := w3.heap.size) (w := w3) (by exact hlt) x4
    have y5 := Ext.cell (B := w3.heap.size) (w := w3) (by exact hlt) x5
    clear x0 x1 x2 x3 x4 x5 hlt
    refine region_plan [([0, 1, 2, 3, 4, 7], [5, 6]), ([8, 9, 10, 11, 12, 13, 14, 15, 16, 17, 18], [])] (fun w' => ∃ u : Ext w3 w3.heap.size, w' = u.val) (by kernel_rfl) (by kernel_rfl) (fun _ _ _ _ _ h => h) ⟨⟨_, (Below.refl _ _).drew⟩, rfl⟩ ?_
    simp only [wpPlan, sel, List.take_succ_cons, List.take_zero, List.drop_succ_cons, List.drop_zero, List.cons_append, List.nil_append]
    repeat (go_big_quiet_step (fail))
    refine wpQuiet_nil ?_
    unfold wpChain
    go_wp2_with fail
    clear y0 y1 y2 y3 y4 y5
    have hXd := hX.later (Below.refl _ _).drew
    refine (tm.at hXd.at_).mono ?_
    rintro e wa ⟨rfl, hba⟩
    have hSa : Below w3.heap.size w3 wa := (Below.refl _ _).drew.trans hba
    clear hba hXd
    have hX := hX.later hSa
    go_wp2_with fail
    refine ⟨⟨⟨_, hSa⟩, rfl⟩, ?_⟩
    unfold wpChain
    go_wp2_with fail
    refine (tm2.at hX.at_).mono ?_
    rintro e wb ⟨rfl, hbb⟩
    have hSb : Below w3.heap.size w3 wb := hSa.trans (hbb.mono hSa.size)
    have hbel := hbel.trans (hSb.mono hbel.size)
    clear hbb hSa hX
    go_wp2_with fail
    refine ⟨⟨⟨_, hSb⟩, rfl⟩, ?_⟩
    unfold wpChain
    repeat (go_big_quiet_step (fail))
    refine wpQuiet_nil ?_
    unfold wpChain
    clear hSb
    go_wp2
    go_ret
    exact ⟨rfl, hbel⟩
  · subst h1
    subst h2
    have kp : (p != r) = false := by simpa using hp
    have km : (m != o) = false := by simpa using hm
    clear hp hm
    go_enter Tryd.func3, Tryd.ntmps3
    go_wp2_with fail
    refine (awake_c w hs).mono ?_
    rintro e w0 ⟨rfl, hb0⟩
    have hs0 := hs.later hb0
    go_wp2_with fail
    refine (load_c w0 hs0).mono ?_
    rintro e w1 ⟨A1, A2, A3, A4, A5, A6, c1, c2, c3, c4, c5, c6, rfl, hD, hb1⟩
    unfold dataV
    have hbel := hb0.trans (hb1.mono hb0.size)
    have hX := DBox.new (c1 := c1) (c2 := c2) (c3 := c3) (c4 := c4) (c5 := c5) (c6 := c6) hD
    have hbel := hbel.alloc hbel.size (.cells #[.slice A1 classRows.length c1, .slice A2 wideRows.length c2, .slice A3 joinRows.length c3, .slice A4 mirrorRows.length c4, .slice A5 bracketRows.length c5, .slice A6 formRows.length c6] 29)
    clear hb0 hb1 hD hs0
    go_wp2_with fail
    refine (tb.at hX.at_).mono ?_
    rintro e w2 ⟨rfl, hb2⟩
    have hX := hX.later hb2
    have hbel := hbel.trans (hb2.mono hbel.size)
    obtain ⟨x0, x1, x2, x3, x4, x5⟩ := hX.cells
    clear hb2
    go_wp2_with fail
    clear x0 x1 x2 x3 x4 x5
    refine (tb2.at hX.at_).mono ?_
    rintro e w3 ⟨rfl, hb3⟩
    have hX := hX.later hb3
    have hbel := hbel.trans (hb3.mono hbel.size)
    obtain ⟨x0, x1, x2, x3, x4, x5⟩ := hX.cells
    clear hb3
    go_wp2_with fail
    clear x0 x1 x2 x3 x4 x5
    refine (tm.at hX.at_).mono ?_
    rintro e w4 ⟨rfl, hb4⟩
    have hX := hX.later hb4
    have hbel := hbel.trans (hb4.mono hbel.size)
    obtain ⟨x0, x1, x2, x3, x4, x5⟩ := hX.cells
    clear hb4
    go_wp2_with fail
    clear x0 x1 x2 x3 x4 x5
    have hlt := hX.box.lt
    obtain ⟨x0, x1, x2, x3, x4, x5⟩ := hX.cells
    have y0 := Ext.cell (B := w4.heap.size) (w := w4) (by exact hlt) x0
    have y1 := Ext.cell (B := w4.heap.size) (w := w4) (by exact hlt) x1
    have y2 := Ext.cell (B := w4.heap.size) (w := w4) (by exact hlt) x2
    have y3 := Ext.cell (B := w4.heap.size) (w := w4) (by exact hlt) x3
    have y4 := Ext.cell (B := w4.heap.size) (w := w4) (by exact hlt) x4
    have y5 := Ext.cell (B := w4.heap.size) (w := w4) (by exact hlt) x5
    clear x0 x1 x2 x3 x4 x5 hlt
    refine region_plan [([0, 1, 2, 3, 4, 7], [5, 6]), ([8, 9, 10, 11, 12, 13, 14, 15, 16, 17, 18], [])] (fun w' => ∃ u : Ext w4 w4.heap.size, w' = u.val) (by kernel_rfl) (by kernel_rfl) (fun _ _ _ _ _ h => h) ⟨⟨_, (Below.refl _ _).drew⟩, rfl⟩ ?_
    simp only [wpPlan, sel, List.take_succ_cons, List.take_zero, List.drop_succ_cons, List.drop_zero, List.cons_append, List.nil_append]
    repeat (go_big_quiet_step (fail))
    refine wpQuiet_nil ?_
    unfold wpChain
    go_wp2_with fail
    clear y0 y1 y2 y3 y4 y5
    have hXd := hX.later (Below.refl _ _).drew
    refine (tm.at hXd.at_).mono ?_
    rintro e wa ⟨rfl, hba⟩
    have hSa : Below w4.heap.size w4 wa := (Below.refl _ _).drew.trans hba
    clear hba hXd
    have hX := hX.later hSa
    go_wp2_with fail
    refine ⟨⟨⟨_, hSa⟩, rfl⟩, ?_⟩
    unfold wpChain
    go_wp2_with fail
    refine (tm2.at hX.at_).mono ?_
    rintro e wb ⟨rfl, hbb⟩
    have hSb : Below w4.heap.size w4 wb := hSa.trans (hbb.mono hSa.size)
    have hbel := hbel.trans (hSb.mono hbel.size)
    clear hbb hSa hX
    go_wp2_with fail
    refine ⟨⟨⟨_, hSb⟩, rfl⟩, ?_⟩
    unfold wpChain
    repeat (go_big_quiet_step (fail))
    refine wpQuiet_nil ?_
    unfold wpChain
    clear hSb
    go_wp2
    go_ret
    exact ⟨rfl, hbel⟩
  · subst h1
    subst h2
    have kp : (p != r) = false := by simpa using hp
    have km : (m != o) = false := by simpa using hm
    clear hp hm
    go_enter Tryd.func3, Tryd.ntmps3
    go_wp2_with fail
    refine (awake_c w hs).mono ?_
    rintro e w0 ⟨rfl, hb0⟩
    have hs0 := hs.later hb0
    go_wp2_with fail
    refine (load_c w0 hs0).mono ?_
    rintro e w1 ⟨A1, A2, A3, A4, A5, A6, c1, c2, c3, c4, c5, c6, rfl, hD, hb1⟩
    unfold dataV
    have hbel := hb0.trans (hb1.mono hb0.size)
    have hX := DBox.new (c1 := c1) (c2 := c2) (c3 := c3) (c4 := c4) (c5 := c5) (c6 := c6) hD
    have hbel := hbel.alloc hbel.size (.cells #[.slice A1 classRows.length c1, .slice A2 wideRows.length c2, .slice A3 joinRows.length c3, .slice A4 mirrorRows.length c4, .slice A5 bracketRows.length c5, .slice A6 formRows.length c6] 29)
    clear hb0 hb1 hD hs0
    go_wp2_with fail
    refine (tb.at hX.at_).mono ?_
    rintro e w2 ⟨rfl, hb2⟩
    have hX := hX.later hb2
    have hbel := hbel.trans (hb2.mono hbel.size)
    obtain ⟨x0, x1, x2, x3, x4, x5⟩ := hX.cells
    clear hb2
    go_wp2_with fail
    clear x0 x1 x2 x3 x4 x5
    refine (tb2.at hX.at_).mono ?_
    rintro e w3 ⟨rfl, hb3⟩
    have hX := hX.later hb3
    have hbel := hbel.trans (hb3.mono hbel.size)
    obtain ⟨x0, x1, x2, x3, x4, x5⟩ := hX.cells
    clear hb3
    go_wp2_with fail
    clear x0 x1 x2 x3 x4 x5
    refine (tm.at hX.at_).mono ?_
    rintro e w4 ⟨rfl, hb4⟩
    have hX := hX.later hb4
    have hbel := hbel.trans (hb4.mono hbel.size)
    obtain ⟨x0, x1, x2, x3, x4, x5⟩ := hX.cells
    clear hb4
    go_wp2_with fail
    clear x0 x1 x2 x3 x4 x5
    have hlt := hX.box.lt
    obtain ⟨x0, x1, x2, x3, x4, x5⟩ := hX.cells
    have y0 := Ext.cell (B := w4.heap.size) (w := w4) (by exact hlt) x0
    have y1 := Ext.cell (B := w4.heap.size) (w := w4) (by exact hlt) x1
    have y2 := Ext.cell (B := w4.heap.size) (w := w4) (by exact hlt) x2
    have y3 := Ext.cell (B := w4.heap.size) (w := w4) (by exact hlt) x3
    have y4 := Ext.cell (B := w4.heap.size) (w := w4) (by exact hlt) x4
    have y5 := Ext.cell (B := w4.heap.size) (w := w4) (by exact hlt) x5
    clear x0 x1 x2 x3 x4 x5 hlt
    refine region_plan [([0, 1, 2, 3, 4, 7], [5, 6]), ([8, 9, 10, 11, 12, 13, 14, 15, 16, 17, 18], [])] (fun w' => ∃ u : Ext w4 w4.heap.size, w' = u.val) (by kernel_rfl) (by kernel_rfl) (fun _ _ _ _ _ h => h) ⟨⟨_, (Below.refl _ _).drew⟩, rfl⟩ ?_
    simp only [wpPlan, sel, List.take_succ_cons, List.take_zero, List.drop_succ_cons, List.drop_zero, List.cons_append, List.nil_append]
    repeat (go_big_quiet_step (fail))
    refine wpQuiet_nil ?_
    unfold wpChain
    go_wp2_with fail
    clear y0 y1 y2 y3 y4 y5
    have hXd := hX.later (Below.refl _ _).drew
    refine (tm.at hXd.at_).mono ?_
    rintro e wa ⟨rfl, hba⟩
    have hSa : Below w4.heap.size w4 wa := (Below.refl _ _).drew.trans hba
    clear hba hXd
    have hX := hX.later hSa
    go_wp2_with fail
    refine ⟨⟨⟨_, hSa⟩, rfl⟩, ?_⟩
    unfold wpChain
    go_wp2_with fail
    refine (tm2.at hX.at_).mono ?_
    rintro e wb ⟨rfl, hbb⟩
    have hSb : Below w4.heap.size w4 wb := hSa.trans (hbb.mono hSa.size)
    have hbel := hbel.trans (hSb.mono hbel.size)
    clear hbb hSa hX
    go_wp2_with fail
    refine ⟨⟨⟨_, hSb⟩, rfl⟩, ?_⟩
    unfold wpChain
    repeat (go_big_quiet_step (fail))
    refine wpQuiet_nil ?_
    unfold wpChain
    clear hSb
    go_wp2
    go_ret
    exact ⟨rfl, hbel⟩
end Go.Proofs.YthlkpcfpapiigaaDoor
