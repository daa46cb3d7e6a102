/- Forms are told once. -/
import Derived.Test.YthlkpcfpapiigaaDoorFormsL
import Derived.Test.YthlkpcfpapiigaaDoorReg
namespace Go.Proofs.YthlkpcfpapiigaaDoor
open Go Go.RowKit
set_option linter.unusedVariables false
set_option linter.unusedSimpArgs false


set_option maxRecDepth 100000 in
set_option maxHeartbeats 4000000 in
theorem formsLaw_20 (a b i j x y s0 s1 s2 s3 jn : Int) (ki kj : Nat) (w : World) (hs : Spc w) (h3i : ki ≤ 3) (h3j : kj ≤ 3) (hi : bits .and .i64 i 3 = (ki : Int)) (hk : bits .and .i64 j 3 = (kj : Int))
    (hF : FormFacts a b ki kj x y s0 s1 s2 s3) (tj : Told 13 a jn) (ha : (a != b) = false) (hj : (jn == 0) = false) (hj2 : (jn == 1) = false) (hj3 : (jn != 0) = true) (hj4 : (jn != 1) = true) :
    Calls Tryd.prog 4 #[.int .i64 a, .int .i64 b, .int .i64 i, .int .i64 j] w fun e w' => e = .returned (.bool true) ∧ Below w.heap.size w w' := by
  obtain ⟨tx, ty, t0, t1, t2, t3, tn⟩ := hF
  have hwr : IntKind.i64.wrap (-1 - (ki : Int)) = -1 - (ki : Int) := by rw [IntKind.wrap_i64]; omega
  go_enter Tryd.func4, Tryd.ntmps4
  go_wp2_with fail
  refine (awake_c w hs).mono ?_
  rintro e w0 ⟨rfl, hb0⟩
  have hs0 := hs.later hb0
  go_wp2_with fail
  refine (load_c w0 hs0).mono ?_
  rintro e w1 ⟨A1, A2, A3, A4, A5, A6, c1, c2, c3, c4, c5, c6, rfl, hD, hb1⟩
  unfold dataV
  have hbel := hb0.trans (hb1.mono hb0.size)
  have hX := DBox.new (c1 := c1) (c2 := c2) (c3 := c3) (c4 := c4) (c5 := c5) (c6 := c6) hD
  have hbel := hbel.alloc hbel.size (.cells #[.slice A1 classRows.length c1, .slice A2 wideRows.length c2, .slice A3 joinRows.length c3, .slice A4 mirrorRows.length c4, .slice A5 bracketRows.length c5, .slice A6 formRows.length c6] 29)
  clear hb0 hb1 hD hs0
  go_wp2_with fail
  refine (tx.at hX.at_).mono ?_
  rintro e w2 ⟨rfl, hb2⟩
  have hX := hX.later hb2
  have hbel := hbel.trans (hb2.mono hbel.size)
  obtain ⟨x0, x1, x2, x3, x4, x5⟩ := hX.cells
  clear hb2
  go_wp2_with fail
  clear x0 x1 x2 x3 x4 x5
  refine (ty.at hX.at_).mono ?_
  rintro e w3 ⟨rfl, hb3⟩
  have hX := hX.later hb3
  have hbel := hbel.trans (hb3.mono hbel.size)
  obtain ⟨x0, x1, x2, x3, x4, x5⟩ := hX.cells
  clear hb3
  go_wp2_with fail
  clear x0 x1 x2 x3 x4 x5
  have hlt := hX.box.lt
  obtain ⟨x0, x1, x2, x3, x4, x5⟩ := hX.cells
  have y0 := Ext.cell (B := w3.heap.size) (w := w3) (by exact hlt) x0
  have y1 := Ext.cell (B := w3.heap.size) (w := w3) (by exact hlt) x1
  have y2 := Ext.cell (B := w3.heap.size) (w := w3) (by exact hlt) x2
  have y3 := Ext.cell (B := w3.heap.size) (w := w3) (by exact hlt) x3
  have y4 := Ext.cell (B := w3.heap.size) (w := w3) (by exact hlt) x4
  have y5 := Ext.cell (B := w3.heap.size) (w := w3) (by exact hlt) x5
  clear x0 x1 x2 x3 x4 x5 hlt
  refine region_plan [([0, 1, 2, 3], [4]), ([5, 6, 7, 8, 10], [9]), ([11, 12, 13, 14, 15, 16], [17]), ([18, 19, 20, 21, 23, 24], [22, 25]), ([26, 27, 28, 29, 31, 32], [30, 33]), ([34, 35, 36, 37, 38, 39, 40, 41, 42, 43, 45], [44]), ([46, 47, 48], [])] (fun w' => ∃ u : Ext w3 w3.heap.size, w' = u.val) (by kernel_rfl) (by kernel_rfl) (fun _ _ _ _ _ h => h) ⟨⟨_, (Below.refl _ _).drew⟩, rfl⟩ ?_
  simp only [wpPlan, sel, List.take_succ_cons, List.take_zero, List.drop_succ_cons, List.drop_zero, List.cons_append, List.nil_append]
  have hS : Below w3.heap.size w3 w3.drew := (Below.refl _ _).drew
  have hXs := hX
  have hX := hXs.later hS
  clear hXs
  repeat (go_big_quiet_step (fail))
  refine wpQuiet_nil ?_
  unfold wpChain
  go_wp2_with fail
  refine (tj.at hX.at_).mono ?_
  rintro e v1 ⟨rfl, hbv⟩
  have hX := hX.later hbv
  have hS := hS.trans (hbv.mono hS.size)
  clear hbv
  go_wp2_with fail
  refine ⟨⟨⟨_, hS⟩, rfl⟩, ?_⟩
  unfold wpChain
  repeat (go_big_quiet_step (fail))
  refine wpQuiet_nil ?_
  unfold wpChain
  go_wp2_with fail
  refine ⟨⟨⟨_, hS⟩, rfl⟩, ?_⟩
  unfold wpChain
  repeat (go_big_quiet_step (fail))
  refine wpQuiet_nil ?_
  unfold wpChain
  go_wp2_with fail
  refine (tj.at hX.at_).mono ?_
  rintro e v2 ⟨rfl, hbv⟩
  have hX := hX.later hbv
  have hS := hS.trans (hbv.mono hS.size)
  clear hbv
  go_wp2_with fail
  refine ⟨⟨⟨_, hS⟩, rfl⟩, ?_⟩
  unfold wpChain
  repeat (go_big_quiet_step (fail))
  refine wpQuiet_nil ?_
  unfold wpChain
  go_wp2_with fail
  refine ⟨⟨⟨_, hS⟩, rfl⟩, ?_⟩
  unfold wpChain
  go_wp2_with fail
  refine ⟨⟨⟨_, hS⟩, rfl⟩, ?_⟩
  unfold wpChain
  repeat (go_big_quiet_step (fail))
  refine wpQuiet_nil ?_
  unfold wpChain
  go_wp2_with fail
  refine ⟨⟨⟨_, hS⟩, rfl⟩, ?_⟩
  unfold wpChain
  go_wp2_with fail
  refine ⟨⟨⟨_, hS⟩, rfl⟩, ?_⟩
  unfold wpChain
  repeat (go_big_quiet_step (fail))
  refine wpQuiet_nil ?_
  unfold wpChain
  go_wp2_with fail
  refine (tn.at hX.at_).mono ?_
  rintro e v3 ⟨rfl, hbv⟩
  have hX := hX.later hbv
  have hS := hS.trans (hbv.mono hS.size)
  clear hbv
  go_wp2_with fail
  refine ⟨⟨⟨_, hS⟩, rfl⟩, ?_⟩
  unfold wpChain
  repeat (go_big_quiet_step (fail))
  refine wpQuiet_nil ?_
  unfold wpChain
  have hbel := hbel.trans (hS.mono hbel.size)
  clear hS hX y0 y1 y2 y3 y4 y5
  go_wp2
  go_ret
  exact ⟨rfl, hbel⟩

set_option maxRecDepth 100000 in
set_option maxHeartbeats 4000000 in
theorem formsLaw_21 (a b i j x y s0 s1 s2 s3 jn : Int) (ki kj : Nat) (w : World) (hs : Spc w) (h3i : ki ≤ 3) (h3j : kj ≤ 3) (hi : bits .and .i64 i 3 = (ki : Int)) (hk : bits .and .i64 j 3 = (kj : Int))
    (hF : FormFacts a b ki kj x y s0 s1 s2 s3) (tj : Told 13 a jn) (ha : (a != b) = true) (hx : (x == y) = false) (hj : (jn == 0) = false) (hj2 : (jn == 1) = false) (hj3 : (jn != 0) = true) (hj4 : (jn != 1) = true) :
    Calls Tryd.prog 4 #[.int .i64 a, .int .i64 b, .int .i64 i, .int .i64 j] w fun e w' => e = .returned (.bool true) ∧ Below w.heap.size w w' := by
  obtain ⟨tx, ty, t0, t1, t2, t3, tn⟩ := hF
  have hwr : IntKind.i64.wrap (-1 - (ki : Int)) = -1 - (ki : Int) := by rw [IntKind.wrap_i64]; omega
  go_enter Tryd.func4, Tryd.ntmps4
  go_wp2_with fail
  refine (awake_c w hs).mono ?_
  rintro e w0 ⟨rfl, hb0⟩
  have hs0 := hs.later hb0
  go_wp2_with fail
  refine (load_c w0 hs0).mono ?_
  rintro e w1 ⟨A1, A2, A3, A4, A5, A6, c1, c2, c3, c4, c5, c6, rfl, hD, hb1⟩
  unfold dataV
  have hbel := hb0.trans (hb1.mono hb0.size)
  have hX := DBox.new (c1 := c1) (c2 := c2) (c3 := c3) (c4 := c4) (c5 := c5) (c6 := c6) hD
  have hbel := hbel.alloc hbel.size (.cells #[.slice A1 classRows.length c1, .slice A2 wideRows.length c2, .slice A3 joinRows.length c3, .slice A4 mirrorRows.length c4, .slice A5 bracketRows.length c5, .slice A6 formRows.length c6] 29)
  clear hb0 hb1 hD hs0
  go_wp2_with fail
  refine (tx.at hX.at_).mono ?_
  rintro e w2 ⟨rfl, hb2⟩
  have hX := hX.later hb2
  have hbel := hbel.trans (hb2.mono hbel.size)
  obtain ⟨x0, x1, x2, x3, x4, x5⟩ := hX.cells
  clear hb2
  go_wp2_with fail
  clear x0 x1 x2 x3 x4 x5
  refine (ty.at hX.at_).mono ?_
  rintro e w3 ⟨rfl, hb3⟩
  have hX := hX.later hb3
  have hbel := hbel.trans (hb3.mono hbel.size)
  obtain ⟨x0, x1, x2, x3, x4, x5⟩ := hX.cells
  clear hb3
  go_wp2_with fail
  clear x0 x1 x2 x3 x4 x5
  have hlt := hX.box.lt
  obtain ⟨x0, x1, x2, x3, x4, x5⟩ := hX.cells
  have y0 := Ext.cell (B := w3.heap.size) (w := w3) (by exact hlt) x0
  have y1 := Ext.cell (B := w3.heap.size) (w := w3) (by exact hlt) x1
  have y2 := Ext.cell (B := w3.heap.size) (w := w3) (by exact hlt) x2
  have y3 := Ext.cell (B := w3.heap.size) (w := w3) (by exact hlt) x3
  have y4 := Ext.cell (B := w3.heap.size) (w := w3) (by exact hlt) x4
  have y5 := Ext.cell (B := w3.heap.size) (w := w3) (by exact hlt) x5
  clear x0 x1 x2 x3 x4 x5 hlt
  refine region_plan [([0, 1, 2, 3], [4]), ([5, 6, 7, 8, 10], [9]), ([11, 12, 13, 14, 15, 16], [17]), ([18, 19, 20, 21, 23, 24], [22, 25]), ([26, 27, 28, 29, 31, 32], [30, 33]), ([34, 35, 36, 37, 38, 39, 40, 41, 42, 43, 45], [44]), ([46, 47, 48], [])] (fun w' => ∃ u : Ext w3 w3.heap.size, w' = u.val) (by kernel_rfl) (by kernel_rfl) (fun _ _ _ _ _ h => h) ⟨⟨_, (Below.refl _ _).drew⟩, rfl⟩ ?_
  simp only [wpPlan, sel, List.take_succ_cons, List.take_zero, List.drop_succ_cons, List.drop_zero, List.cons_append, List.nil_append]
  have hS : Below w3.heap.size w3 w3.drew := (Below.refl _ _).drew
  have hXs := hX
  have hX := hXs.later hS
  clear hXs
  repeat (go_big_quiet_step (fail))
  refine wpQuiet_nil ?_
  unfold wpChain
  go_wp2_with fail
  refine (tj.at hX.at_).mono ?_
  rintro e v1 ⟨rfl, hbv⟩
  have hX := hX.later hbv
  have hS := hS.trans (hbv.mono hS.size)
  clear hbv
  go_wp2_with fail
  refine ⟨⟨⟨_, hS⟩, rfl⟩, ?_⟩
  unfold wpChain
  repeat (go_big_quiet_step (fail))
  refine wpQuiet_nil ?_
  unfold wpChain
  go_wp2_with fail
  refine ⟨⟨⟨_, hS⟩, rfl⟩, ?_⟩
  unfold wpChain
  repeat (go_big_quiet_step (fail))
  refine wpQuiet_nil ?_
  unfold wpChain
  go_wp2_with fail
  refine (tj.at hX.at_).mono ?_
  rintro e v2 ⟨rfl, hbv⟩
  have hX := hX.later hbv
  have hS := hS.trans (hbv.mono hS.size)
  clear hbv
  go_wp2_with fail
  refine ⟨⟨⟨_, hS⟩, rfl⟩, ?_⟩
  unfold wpChain
  repeat (go_big_quiet_step (fail))
  refine wpQuiet_nil ?_
  unfold wpChain
  go_wp2_with fail
  refine ⟨⟨⟨_, hS⟩, rfl⟩, ?_⟩
  unfold wpChain
  go_wp2_with fail
  refine ⟨⟨⟨_, hS⟩, rfl⟩, ?_⟩
  unfold wpChain
  repeat (go_big_quiet_step (fail))
  refine wpQuiet_nil ?_
  unfold wpChain
  go_wp2_with fail
  refine ⟨⟨⟨_, hS⟩, rfl⟩, ?_⟩
  unfold wpChain
  go_wp2_with fail
  refine ⟨⟨⟨_, hS⟩, rfl⟩, ?_⟩
  unfold wpChain
  repeat (go_big_quiet_step (fail))
  refine wpQuiet_nil ?_
  unfold wpChain
  go_wp2_with fail
  refine (tn.at hX.at_).mono ?_
  rintro e v3 ⟨rfl, hbv⟩
  have hX := hX.later hbv
  have hS := hS.trans (hbv.mono hS.size)
  clear hbv
  go_wp2_with fail
  refine ⟨⟨⟨_, hS⟩, rfl⟩, ?_⟩
  unfold wpChain
  repeat (go_big_quiet_step (fail))
  refine wpQuiet_nil ?_
  unfold wpChain
  have hbel := hbel.trans (hS.mono hbel.size)
  clear hS hX y0 y1 y2 y3 y4 y5
  go_wp2
  go_ret
  exact ⟨rfl, hbel⟩

set_option maxRecDepth 100000 in
set_option maxHeartbeats 4000000 in
theorem formsLaw_22 (a b i j x y s0 s1 s2 s3 jn : Int) (ki kj : Nat) (w : World) (hs : Spc w) (h3i : ki ≤ 3) (h3j : kj ≤ 3) (hi : bits .and .i64 i 3 = (ki : Int)) (hk : bits .and .i64 j 3 = (kj : Int))
    (hF : FormFacts a b ki kj x y s0 s1 s2 s3) (tj : Told 13 a jn) (ha : (a != b) = true) (hx : (x == y) = true) (hxa : (x != a) = false) (hj : (jn == 0) = false) (hj2 : (jn == 1) = false) (hj3 : (jn != 0) = true) (hj4 : (jn != 1) = true) :
    Calls Tryd.prog 4 #[.int .i64 a, .int .i64 b, .int .i64 i, .int .i64 j] w fun e w' => e = .returned (.bool true) ∧ Below w.heap.size w w' := by
  obtain ⟨tx, ty, t0, t1, t2, t3, tn⟩ := hF
  have hwr : IntKind.i64.wrap (-1 - (ki : Int)) = -1 - (ki : Int) := by rw [IntKind.wrap_i64]; omega
  go_enter Tryd.func4, Tryd.ntmps4
  go_wp2_with fail
  refine (awake_c w hs).mono ?_
  rintro e w0 ⟨rfl, hb0⟩
  have hs0 := hs.later hb0
  go_wp2_with fail
  refine (load_c w0 hs0).mono ?_
  rintro e w1 ⟨A1, A2, A3, A4, A5, A6, c1, c2, c3, c4, c5, c6, rfl, hD, hb1⟩
  unfold dataV
  have hbel := hb0.trans (hb1.mono hb0.size)
  have hX := DBox.new (c1 := c1) (c2 := c2) (c3 := c3) (c4 := c4) (c5 := c5) (c6 := c6) hD
  have hbel := hbel.alloc hbel.size (.cells #[.slice A1 classRows.length c1, .slice A2 wideRows.length c2, .slice A3 joinRows.length c3, .slice A4 mirrorRows.length c4, .slice A5 bracketRows.length c5, .slice A6 formRows.length c6] 29)
  clear hb0 hb1 hD hs0
  go_wp2_with fail
  refine (tx.at hX.at_).mono ?_
  rintro e w2 ⟨rfl, hb2⟩
  have hX := hX.later hb2
  have hbel := hbel.trans (hb2.mono hbel.size)
  obtain ⟨x0, x1, x2, x3, x4, x5⟩ := hX.cells
  clear hb2
  go_wp2_with fail
  clear x0 x1 x2 x3 x4 x5
  refine (ty.at hX.at_).mono ?_
  rintro e w3 ⟨rfl, hb3⟩
  have hX := hX.later hb3
  have hbel := hbel.trans (hb3.mono hbel.size)
  obtain ⟨x0, x1, x2, x3, x4, x5⟩ := hX.cells
  clear hb3
  go_wp2_with fail
  clear x0 x1 x2 x3 x4 x5
  have hlt := hX.box.lt
  obtain ⟨x0, x1, x2, x3, x4, x5⟩ := hX.cells
  have y0 := Ext.cell (B := w3.heap.size) (w := w3) (by exact hlt) x0
  have y1 := Ext.cell (B := w3.heap.size) (w := w3) (by exact hlt) x1
  have y2 := Ext.cell (B := w3.heap.size) (w := w3) (by exact hlt) x2
  have y3 := Ext.cell (B := w3.heap.size) (w := w3) (by exact hlt) x3
  have y4 := Ext.cell (B := w3.heap.size) (w := w3) (by exact hlt) x4
  have y5 := Ext.cell (B := w3.heap.size) (w := w3) (by exact hlt) x5
  clear x0 x1 x2 x3 x4 x5 hlt
  refine region_plan [([0, 1, 2, 3], [4]), ([5, 6, 7, 8, 10], [9]), ([11, 12, 13, 14, 15, 16], [17]), ([18, 19, 20, 21, 23, 24], [22, 25]), ([26, 27, 28, 29, 31, 32], [30, 33]), ([34, 35, 36, 37, 38, 39, 40, 41, 42, 43, 45], [44]), ([46, 47, 48], [])] (fun w' => ∃ u : Ext w3 w3.heap.size, w' = u.val) (by kernel_rfl) (by kernel_rfl) (fun _ _ _ _ _ h => h) ⟨⟨_, (Below.refl _ _).drew⟩, rfl⟩ ?_
  simp only [wpPlan, sel, List.take_succ_cons, List.take_zero, List.drop_succ_cons, List.drop_zero, List.cons_append, List.nil_append]
  have hS : Below w3.heap.size w3 w3.drew := (Below.refl _ _).drew
  have hXs := hX
  have hX := hXs.later hS
  clear hXs
  repeat (go_big_quiet_step (fail))
  refine wpQuiet_nil ?_
  unfold wpChain
  go_wp2_with fail
  refine (tj.at hX.at_).mono ?_
  rintro e v1 ⟨rfl, hbv⟩
  have hX := hX.later hbv
  have hS := hS.trans (hbv.mono hS.size)
  clear hbv
  go_wp2_with fail
  refine ⟨⟨⟨_, hS⟩, rfl⟩, ?_⟩
  unfold wpChain
  repeat (go_big_quiet_step (fail))
  refine wpQuiet_nil ?_
  unfold wpChain
  go_wp2_with fail
  refine ⟨⟨⟨_, hS⟩, rfl⟩, ?_⟩
  unfold wpChain
  repeat (go_big_quiet_step (fail))
  refine wpQuiet_nil ?_
  unfold wpChain
  go_wp2_with fail
  refine (tj.at hX.at_).mono ?_
  rintro e v2 ⟨rfl, hbv⟩
  have hX := hX.later hbv
  have hS := hS.trans (hbv.mono hS.size)
  clear hbv
  go_wp2_with fail
  refine ⟨⟨⟨_, hS⟩, rfl⟩, ?_⟩
  unfold wpChain
  repeat (go_big_quiet_step (fail))
  refine wpQuiet_nil ?_
  unfold wpChain
  go_wp2_with fail
  refine ⟨⟨⟨_, hS⟩, rfl⟩, ?_⟩
  unfold wpChain
  go_wp2_with fail
  refine ⟨⟨⟨_, hS⟩, rfl⟩, ?_⟩
  unfold wpChain
  repeat (go_big_quiet_step (fail))
  refine wpQuiet_nil ?_
  unfold wpChain
  go_wp2_with fail
  refine ⟨⟨⟨_, hS⟩, rfl⟩, ?_⟩
  unfold wpChain
  go_wp2_with fail
  refine ⟨⟨⟨_, hS⟩, rfl⟩, ?_⟩
  unfold wpChain
  repeat (go_big_quiet_step (fail))
  refine wpQuiet_nil ?_
  unfold wpChain
  go_wp2_with fail
  refine (tn.at hX.at_).mono ?_
  rintro e v3 ⟨rfl, hbv⟩
  have hX := hX.later hbv
  have hS := hS.trans (hbv.mono hS.size)
  clear hbv
  go_wp2_with fail
  refine ⟨⟨⟨_, hS⟩, rfl⟩, ?_⟩
  unfold wpChain
  repeat (go_big_quiet_step (fail))
  refine wpQuiet_nil ?_
  unfold wpChain
  have hbel := hbel.trans (hS.mono hbel.size)
  clear hS hX y0 y1 y2 y3 y4 y5
  go_wp2
  go_ret
  exact ⟨rfl, hbel⟩

set_option maxRecDepth 100000 in
set_option maxHeartbeats 4000000 in
theorem formsLaw_23 (a b i j x y s0 s1 s2 s3 jn : Int) (ki kj : Nat) (w : World) (hs : Spc w) (h3i : ki ≤ 3) (h3j : kj ≤ 3) (hi : bits .and .i64 i 3 = (ki : Int)) (hk : bits .and .i64 j 3 = (kj : Int))
    (hF : FormFacts a b ki kj x y s0 s1 s2 s3) (tj : Told 13 a jn) (ha : (a != b) = true) (hx : (x == y) = true) (hxa : (x != a) = true) (hyb : (y != b) = false) (hj : (jn == 0) = false) (hj2 : (jn == 1) = false) (hj3 : (jn != 0) = true) (hj4 : (jn != 1) = true) :
    Calls Tryd.prog 4 #[.int .i64 a, .int .i64 b, .int .i64 i, .int .i64 j] w fun e w' => e = .returned (.bool true) ∧ Below w.heap.size w w' := by
  obtain ⟨tx, ty, t0, t1, t2, t3, tn⟩ := hF
  have hwr : IntKind.i64.wrap (-1 - (ki : Int)) = -1 - (ki : Int) := by rw [IntKind.wrap_i64]; omega
  go_enter Tryd.func4, Tryd.ntmps4
  go_wp2_with fail
  refine (awake_c w hs).mono ?_
  rintro e w0 ⟨rfl, hb0⟩
  have hs0 := hs.later hb0
  go_wp2_with fail
  refine (load_c w0 hs0).mono ?_
  rintro e w1 ⟨A1, A2, A3, A4, A5, A6, c1, c2, c3, c4, c5, c6, rfl, hD, hb1⟩
  unfold dataV
  have hbel := hb0.trans (hb1.mono hb0.size)
  have hX := DBox.new (c1 := c1) (c2 := c2) (c3 := c3) (c4 := c4) (c5 := c5) (c6 := c6) hD
  have hbel := hbel.alloc hbel.size (.cells #[.slice A1 classRows.length c1, .slice A2 wideRows.length c2, .slice A3 joinRows.length c3, .slice A4 mirrorRows.length c4, .slice A5 bracketRows.length c5, .slice A6 formRows.length c6] 29)
  clear hb0 hb1 hD hs0
  go_wp2_with fail
  refine (tx.at hX.at_).mono ?_
  rintro e w2 ⟨rfl, hb2⟩
  have hX := hX.later hb2
  have hbel := hbel.trans (hb2.mono hbel.size)
  obtain ⟨x0, x1, x2, x3, x4, x5⟩ := hX.cells
  clear hb2
  go_wp2_with fail
  clear x0 x1 x2 x3 x4 x5
  refine (ty.at hX.at_).mono ?_
  rintro e w3 ⟨rfl, hb3⟩
  have hX := hX.later hb3
  have hbel := hbel.trans (hb3.mono hbel.size)
  obtain ⟨x0, x1, x2, x3, x4, x5⟩ := hX.cells
  clear hb3
  go_wp2_with fail
  clear x0 x1 x2 x3 x4 x5
  have hlt := hX.box.lt
  obtain ⟨x0, x1, x2, x3, x4, x5⟩ := hX.cells
  have y0 := Ext.cell (B := w3.heap.size) (w := w3) (by exact hlt) x0
  have y1 := Ext.cell (B := w3.heap.size) (w := w3) (by exact hlt) x1
  have y2 := Ext.cell (B := w3.heap.size) (w := w3) (by exact hlt) x2
  have y3 := Ext.cell (B := w3.heap.size) (w := w3) (by exact hlt) x3
  have y4 := Ext.cell (B := w3.heap.size) (w := w3) (by exact hlt) x4
  have y5 := Ext.cell (B := w3.heap.size) (w := w3) (by exact hlt) x5
  clear x0 x1 x2 x3 x4 x5 hlt
  refine region_plan [([0, 1, 2, 3], [4]), ([5, 6, 7, 8, 10], [9]), ([11, 12, 13, 14, 15, 16], [17]), ([18, 19, 20, 21, 23, 24], [22, 25]), ([26, 27, 28, 29, 31, 32], [30, 33]), ([34, 35, 36, 37, 38, 39, 40, 41, 42, 43, 45], [44]), ([46, 47, 48], [])] (fun w' => ∃ u : Ext w3 w3.heap.size, w' = u.val) (by kernel_rfl) (by kernel_rfl) (fun _ _ _ _ _ h => h) ⟨⟨_, (Below.refl _ _).drew⟩, rfl⟩ ?_
  simp only [wpPlan, sel, List.take_succ_cons, List.take_zero, List.drop_succ_cons, List.drop_zero, List.cons_append, List.nil_append]
  have hS : Below w3.heap.size w3 w3.drew := (Below.refl _ _).drew
  have hXs := hX
  have hX := hXs.later hS
  clear hXs
  repeat (go_big_quiet_step (fail))
  refine wpQuiet_nil ?_
  unfold wpChain
  go_wp2_with fail
  refine (tj.at hX.at_).mono ?_
  rintro e v1 ⟨rfl, hbv⟩
  have hX := hX.later hbv
  have hS := hS.trans (hbv.mono hS.size)
  clear hbv
  go_wp2_with fail
  refine ⟨⟨⟨_, hS⟩, rfl⟩, ?_⟩
  unfold wpChain
  repeat (go_big_quiet_step (fail))
  refine wpQuiet_nil ?_
  unfold wpChain
  go_wp2_with fail
  refine ⟨⟨⟨_, hS⟩, rfl⟩, ?_⟩
  unfold wpChain
  repeat (go_big_quiet_step (fail))
  refine wpQuiet_nil ?_
  unfold wpChain
  go_wp2_with fail
  refine (tj.at hX.at_).mono ?_
  rintro e v2 ⟨rfl, hbv⟩
  have hX := hX.later hbv
  have hS := hS.trans (hbv.mono hS.size)
  clear hbv
  go_wp2_with fail
  refine ⟨⟨⟨_, hS⟩, rfl⟩, ?_⟩
  unfold wpChain
  repeat (go_big_quiet_step (fail))
  refine wpQuiet_nil ?_
  unfold wpChain
  go_wp2_with fail
  refine ⟨⟨⟨_, hS⟩, rfl⟩, ?_⟩
  unfold wpChain
  go_wp2_with fail
  refine ⟨⟨⟨_, hS⟩, rfl⟩, ?_⟩
  unfold wpChain
  repeat (go_big_quiet_step (fail))
  refine wpQuiet_nil ?_
  unfold wpChain
  go_wp2_with fail
  refine ⟨⟨⟨_, hS⟩, rfl⟩, ?_⟩
  unfold wpChain
  go_wp2_with fail
  refine ⟨⟨⟨_, hS⟩, rfl⟩, ?_⟩
  unfold wpChain
  repeat (go_big_quiet_step (fail))
  refine wpQuiet_nil ?_
  unfold wpChain
  go_wp2_with fail
  refine (tn.at hX.at_).mono ?_
  rintro e v3 ⟨rfl, hbv⟩
  have hX := hX.later hbv
  have hS := hS.trans (hbv.mono hS.size)
  clear hbv
  go_wp2_with fail
  refine ⟨⟨⟨_, hS⟩, rfl⟩, ?_⟩
  unfold wpChain
  repeat (go_big_quiet_step (fail))
  refine wpQuiet_nil ?_
  unfold wpChain
  have hbel := hbel.trans (hS.mono hbel.size)
  clear hS hX y0 y1 y2 y3 y4 y5
  go_wp2
  go_ret
  exact ⟨rfl, hbel⟩
end Go.Proofs.YthlkpcfpapiigaaDoor
