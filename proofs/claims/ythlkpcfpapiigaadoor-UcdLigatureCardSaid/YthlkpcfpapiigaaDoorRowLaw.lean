/- row, by its contract: an entry of two or of three words. -/
import Derived.Test.YthlkpcfpapiigaaDoorHex2
import Derived.Test.YthlkpcfpapiigaaDoorWords
import Derived.Test.YthlkpcfpapiigaaDoorReg
namespace Go.Proofs.YthlkpcfpapiigaaDoor
open Go Go.RowKit
set_option linter.unusedVariables false
set_option linter.unusedSimpArgs false

def hexI (s : ByteArray) : Int := (hexF 0 s.data.toList : Nat)
theorem hexI_c (s : ByteArray) (ht : wordB s.data.toList = true) (w : World) :
    Calls Tryd.prog 30 #[.string s] w fun e w' => e = .returned (.int .i64 (hexI s)) ∧ Below w.heap.size w w' := hex_c s ht w

theorem SA.setCell {w : World} {b : Nat} {ws : List ByteArray} (h : SA w b ws) {p : Addr} (hp : p.block ≠ b) (u : Value) : SA (w.setCell p u) b ws :=
  ⟨by have := h.1; simpa [World.setCell] using this, fun k s hk => (World.cell?_setCell_other w p _ u (fun e => hp (by rw [e]))).trans (h.2 k s hk)⟩

set_option maxRecDepth 100000 in
set_option maxHeartbeats 2000000 in
theorem row3_c (a b v : ByteArray) (bw bz : Nat) (zs : List ByteArray) (w : World) (ha : wordB a.data.toList = true) (hb : wordB b.data.toList = true)
    (h : SA w bw [a, b, v]) (hz : SA w bz zs) (hn : zs.length ≤ 1000) (i : Int) (hi : Lib.idxOfS zs v = i) (hi0 : 0 ≤ i) (hi1 : i ≤ 1000) :
    Calls Tryd.prog 28 #[.slice (some ⟨bw, 0, none⟩) 3 3, .slice (some ⟨bz, 0, none⟩) zs.length zs.length] w fun e w' => e = .returned (.agg #[.int .i64 (hexI a), .int .i64 (hexI b), .int .i64 (i + 1)]) ∧ Below w.heap.size w w' := by
  have HI := Lib.hid hi
  clear hi
  have h0 := h.2 0 a rfl
  have h1 := h.2 1 b rfl
  have h2 := h.2 2 v rfl
  have hl := h.1
  go_enter Tryd.func28, Tryd.ntmps28
  go_wp2_with fail
  have hB4 := (Box.new w 52 #[.int .i64 0, .int .i64 0, .int .i64 0]).alloc (.cells #[.int .i64 0, .int .i64 0, .int .i64 0] 52)
  have hB5 := Box.new (w.alloc (.cells #[.int .i64 0, .int .i64 0, .int .i64 0] 52)) 52 #[.int .i64 0, .int .i64 0, .int .i64 0]
  simp at hB5
  have hbel : Below w.heap.size w ((w.alloc (.cells #[.int .i64 0, .int .i64 0, .int .i64 0] 52)).alloc (.cells #[.int .i64 0, .int .i64 0, .int .i64 0] 52)) := ((Below.refl _ _).alloc (Nat.le_refl _) _).alloc (by simp) _
  have hsz : w.heap.size + 2 = ((w.alloc (.cells #[.int .i64 0, .int .i64 0, .int .i64 0] 52)).alloc (.cells #[.int .i64 0, .int .i64 0, .int .i64 0] 52)).heap.size := by simp
  generalize (w.alloc (.cells #[.int .i64 0, .int .i64 0, .int .i64 0] 52)).alloc (.cells #[.int .i64 0, .int .i64 0, .int .i64 0] 52) = W at *
  have g0 := Ext.cell (B := w.heap.size) (w := W) (by exact hl) ((hbel.cell (by exact hl)).trans h0)
  have g1 := Ext.cell (B := w.heap.size) (w := W) (by exact hl) ((hbel.cell (by exact hl)).trans h1)
  have g2 := Ext.cell (B := w.heap.size) (w := W) (by exact hl) ((hbel.cell (by exact hl)).trans h2)
  have hzW := hz.later hbel
  clear h0 h1 h2 h hz
  refine region_plan [([0, 1, 2, 4, 5, 6, 8, 9, 10, 11], [3, 7, 12]), ([13, 14], [15])] (fun w' => ∃ u : Ext W w.heap.size, w' = u.val) (by kernel_rfl) (by kernel_rfl) (fun _ _ _ _ _ h => h) ⟨⟨_, (Below.refl _ _).drew⟩, rfl⟩ ?_
  simp only [wpPlan, sel, List.take_succ_cons, List.take_zero, List.drop_succ_cons, List.drop_zero, List.cons_append, List.nil_append]
  repeat (go_big_quiet_step (fail))
  refine wpQuiet_nil ?_
  unfold wpChain
  go_wp2_with fail
  clear g0 g1 g2
  refine (hexI_c a ha _).mono ?_
  rintro e w1 ⟨rfl, hb1⟩
  have hS1 : Below W.heap.size W w1 := (Below.refl _ _).drew.trans hb1
  clear hb1
  go_wp2_with fail
  refine ⟨⟨⟨_, hS1.mono hbel.size⟩, rfl⟩, ?_⟩
  unfold wpChain
  go_wp2_with fail
  refine (hexI_c b hb _).mono ?_
  rintro e w2 ⟨rfl, hb2⟩
  have hS2 : Below W.heap.size W w2 := hS1.trans (hb2.mono hS1.size)
  clear hb2
  go_wp2_with fail
  refine ⟨⟨⟨_, hS2.mono hbel.size⟩, rfl⟩, ?_⟩
  unfold wpChain
  go_wp2_with fail
  have hzz := sindex_c bz zs v w2 (by omega) (hzW.later hS2)
  rw [HI.out] at hzz
  refine hzz.mono ?_
  rintro e w3 ⟨rfl, rfl⟩
  clear hzz
  go_wp2_with fail
  have hwr : IntKind.i64.wrap (i + 1) = i + 1 := by rw [IntKind.wrap_i64]; omega
  refine ⟨⟨⟨_, hS2.mono hbel.size⟩, rfl⟩, ?_⟩
  unfold wpChain
  repeat (go_big_quiet_step (fail))
  refine wpQuiet_nil ?_
  unfold wpChain
  clear hwr
  have hB4 := hB4.below hS2 hB4.lt
  have hB5 := hB5.below hS2 hB5.lt
  have c50 := hB5.cell 0
  have c51 := hB5.cell 1
  have c52 := hB5.cell 2
  have f50 := hB5.free 0
  have f51 := hB5.free 1
  have f52 := hB5.free 2
  have c40 := hB4.cell 0
  have c41 := hB4.cell 1
  have c42 := hB4.cell 2
  have f40 := hB4.free 0
  have f41 := hB4.free 1
  have f42 := hB4.free 2
  have hS3 : Below w.heap.size W w2 := hS2.mono hbel.size
  have hbel2 : Below w.heap.size w w2 := hbel.trans hS3
  clear hS1 hS2 hB4 hB5 hzW
  go_wp2_with fail
  refine ⟨⟨⟨_, ((hS3.setCell (p := ⟨w.heap.size + 1, 0, none⟩) (by simp) _).setCell (p := ⟨w.heap.size + 1, 1, none⟩) (by simp) _).setCell (p := ⟨w.heap.size + 1, 2, none⟩) (by simp) _⟩, rfl⟩, ?_⟩
  unfold wpChain
  go_wp2_with fail
  refine bodyPost_ret (v := .agg #[.int .i64 (hexI a), .int .i64 (hexI b), .int .i64 (i + 1)]) (by simp [results, Tryd.results28, go_sem, c40, c41, c42]) rfl ⟨rfl, ?_⟩
  exact (((((hbel2.setCell (p := ⟨w.heap.size + 1, 0, none⟩) (by simp) _).setCell (p := ⟨w.heap.size + 1, 1, none⟩) (by simp) _).setCell (p := ⟨w.heap.size + 1, 2, none⟩) (by simp) _).setCell (p := ⟨w.heap.size, 0, none⟩) (by simp) _).setCell (p := ⟨w.heap.size, 1, none⟩) (by simp) _).setCell (p := ⟨w.heap.size, 2, none⟩) (by simp) _

set_option maxRecDepth 100000 in
set_option maxHeartbeats 2000000 in
theorem row2_c (a v : ByteArray) (bw bz : Nat) (zs : List ByteArray) (w : World) (ha : wordB a.data.toList = true)
    (h : SA w bw [a, v]) (hz : SA w bz zs) (hn : zs.length ≤ 1000) (i : Int) (hi : Lib.idxOfS zs v = i) (hi0 : 0 ≤ i) (hi1 : i ≤ 1000) :
    Calls Tryd.prog 28 #[.slice (some ⟨bw, 0, none⟩) 2 2, .slice (some ⟨bz, 0, none⟩) zs.length zs.length] w fun e w' => e = .returned (.agg #[.int .i64 (hexI a), .int .i64 (hexI a), .int .i64 (i + 1)]) ∧ Below w.heap.size w w' := by
  have HI := Lib.hid hi
  clear hi
  have h0 := h.2 0 a rfl
  have h1 := h.2 1 v rfl
  have hl := h.1
  go_enter Tryd.func28, Tryd.ntmps28
  go_wp2_with fail
  have hB4 := (Box.new w 52 #[.int .i64 0, .int .i64 0, .int .i64 0]).alloc (.cells #[.int .i64 0, .int .i64 0, .int .i64 0] 52)
  have hB5 := Box.new (w.alloc (.cells #[.int .i64 0, .int .i64 0, .int .i64 0] 52)) 52 #[.int .i64 0, .int .i64 0, .int .i64 0]
  simp at hB5
  have hbel : Below w.heap.size w ((w.alloc (.cells #[.int .i64 0, .int .i64 0, .int .i64 0] 52)).alloc (.cells #[.int .i64 0, .int .i64 0, .int .i64 0] 52)) := ((Below.refl _ _).alloc (Nat.le_refl _) _).alloc (by simp) _
  have hsz : w.heap.size + 2 = ((w.alloc (.cells #[.int .i64 0, .int .i64 0, .int .i64 0] 52)).alloc (.cells #[.int .i64 0, .int .i64 0, .int .i64 0] 52)).heap.size := by simp
  generalize (w.alloc (.cells #[.int .i64 0, .int .i64 0, .int .i64 0] 52)).alloc (.cells #[.int .i64 0, .int .i64 0, .int .i64 0] 52) = W at *
  have k0 := (hbel.cell (p := ⟨bw, 0, none⟩) (by exact hl)).trans h0
  have k1 := (hbel.cell (p := ⟨bw, 1, none⟩) (by exact hl)).trans h1
  clear h0 h1 h
  refine region_tail 9 (by kernel_rfl) (by kernel_rfl) ?_
  simp only [List.take_succ_cons, List.take_zero, List.drop_succ_cons, List.drop_zero]
  repeat (go_big_quiet_step (fail))
  refine wpQuiet_nil ?_
  clear k0 k1
  go_wp2_with fail
  have hbelA : Below W.heap.size W ((W.alloc (.cells #[.string a, .string a, .string v] 9)).drew) := ((Below.refl _ _).alloc (Nat.le_refl _) _).drew
  have hA : SA ((W.alloc (.cells #[.string a, .string a, .string v] 9)).drew) W.heap.size [a, a, v] := SA.new W 9 [a, a, v]
  have hB4 := hB4.below hbelA hB4.lt
  have hB5 := hB5.below hbelA hB5.lt
  have hbel := hbel.trans (hbelA.mono hbel.size)
  have hsz : w.heap.size + 2 < ((W.alloc (.cells #[.string a, .string a, .string v] 9)).drew).heap.size := by simp; omega
  clear hbelA
  generalize hbA : W.heap.size = bA at *
  generalize (W.alloc (.cells #[.string a, .string a, .string v] 9)).drew = W' at *
  have hbn1 : w.heap.size + 2 ≤ bA := by omega
  clear hbA
  have hbn0 : w.heap.size + 1 < bA := by omega
  have g0 : ∀ u : Has (fun V => Below w.heap.size W' V ∧ SA V bA [a, a, v]), u.val.cell? ⟨bA, 0, none⟩ = some (.string a) := fun u => u.ok.2.2 0 a rfl
  have g1 : ∀ u : Has (fun V => Below w.heap.size W' V ∧ SA V bA [a, a, v]), u.val.cell? ⟨bA, 1, none⟩ = some (.string a) := fun u => u.ok.2.2 1 a rfl
  have g2 : ∀ u : Has (fun V => Below w.heap.size W' V ∧ SA V bA [a, a, v]), u.val.cell? ⟨bA, 2, none⟩ = some (.string v) := fun u => u.ok.2.2 2 v rfl
  have hne : Nonempty (Has (fun V => Below w.heap.size W' V ∧ SA V bA [a, a, v])) := ⟨⟨W', Below.refl _ _, hA⟩⟩
  have hzW := hz.later hbel
  clear hz
  refine region_plan [([0, 1, 2, 4, 5, 6, 8, 9, 10, 11], [3, 7, 12]), ([13, 14], [15])] (fun w' => ∃ u : Has (fun V => Below w.heap.size W' V ∧ SA V bA [a, a, v]), w' = u.val) (by kernel_rfl) (by kernel_rfl) (fun _ _ _ _ _ h => h) ⟨⟨W'.drew, (Below.refl _ _).drew, hA⟩, rfl⟩ ?_
  simp only [wpPlan, sel, List.take_succ_cons, List.take_zero, List.drop_succ_cons, List.drop_zero, List.cons_append, List.nil_append]
  repeat (go_big_quiet_step (fail))
  refine wpQuiet_nil ?_
  unfold wpChain
  go_wp2_with fail
  clear g0 g1 g2
  refine (hexI_c a ha _).mono ?_
  rintro e w1 ⟨rfl, hb1⟩
  have hS1 : Below W'.heap.size W' w1 := (Below.refl _ _).drew.trans hb1
  clear hb1
  go_wp2_with fail
  refine ⟨⟨⟨_, hS1.mono hbel.size, hA.later hS1⟩, rfl⟩, ?_⟩
  unfold wpChain
  go_wp2_with fail
  refine (hexI_c a ha _).mono ?_
  rintro e w2 ⟨rfl, hb2⟩
  have hS2 : Below W'.heap.size W' w2 := hS1.trans (hb2.mono hS1.size)
  clear hb2
  go_wp2_with fail
  refine ⟨⟨⟨_, hS2.mono hbel.size, hA.later hS2⟩, rfl⟩, ?_⟩
  unfold wpChain
  go_wp2_with fail
  have hzz := sindex_c bz zs v w2 (by omega) (hzW.later hS2)
  rw [HI.out] at hzz
  refine hzz.mono ?_
  rintro e w3 ⟨rfl, rfl⟩
  clear hzz
  go_wp2_with fail
  have hwr : IntKind.i64.wrap (i + 1) = i + 1 := by rw [IntKind.wrap_i64]; omega
  refine ⟨⟨⟨_, hS2.mono hbel.size, hA.later hS2⟩, rfl⟩, ?_⟩
  unfold wpChain
  repeat (go_big_quiet_step (fail))
  refine wpQuiet_nil ?_
  unfold wpChain
  clear hwr
  have hB4 := hB4.below hS2 hB4.lt
  have hB5 := hB5.below hS2 hB5.lt
  have c50 := hB5.cell 0
  have c51 := hB5.cell 1
  have c52 := hB5.cell 2
  have f50 := hB5.free 0
  have f51 := hB5.free 1
  have f52 := hB5.free 2
  have c40 := hB4.cell 0
  have c41 := hB4.cell 1
  have c42 := hB4.cell 2
  have f40 := hB4.free 0
  have f41 := hB4.free 1
  have f42 := hB4.free 2
  have hS3 : Below w.heap.size W' w2 := hS2.mono hbel.size
  have hbel2 : Below w.heap.size w w2 := hbel.trans hS3
  have hA2 := hA.later hS2
  have hbn : w.heap.size + 1 ≠ bA := by omega
  clear hS1 hS2 hB4 hB5 hzW
  go_wp2_with fail
  refine ⟨⟨⟨_, ((hS3.setCell (p := ⟨w.heap.size + 1, 0, none⟩) (by simp) _).setCell (p := ⟨w.heap.size + 1, 1, none⟩) (by simp) _).setCell (p := ⟨w.heap.size + 1, 2, none⟩) (by simp) _, ((hA2.setCell (p := ⟨w.heap.size + 1, 0, none⟩) hbn _).setCell (p := ⟨w.heap.size + 1, 1, none⟩) hbn _).setCell (p := ⟨w.heap.size + 1, 2, none⟩) hbn _⟩, rfl⟩, ?_⟩
  unfold wpChain
  go_wp2_with fail
  refine bodyPost_ret (v := .agg #[.int .i64 (hexI a), .int .i64 (hexI a), .int .i64 (i + 1)]) (by simp [results, Tryd.results28, go_sem, c40, c41, c42]) rfl ⟨rfl, ?_⟩
  exact (((((hbel2.setCell (p := ⟨w.heap.size + 1, 0, none⟩) (by simp) _).setCell (p := ⟨w.heap.size + 1, 1, none⟩) (by simp) _).setCell (p := ⟨w.heap.size + 1, 2, none⟩) (by simp) _).setCell (p := ⟨w.heap.size, 0, none⟩) (by simp) _).setCell (p := ⟨w.heap.size, 1, none⟩) (by simp) _).setCell (p := ⟨w.heap.size, 2, none⟩) (by simp) _
end Go.Proofs.YthlkpcfpapiigaaDoor
