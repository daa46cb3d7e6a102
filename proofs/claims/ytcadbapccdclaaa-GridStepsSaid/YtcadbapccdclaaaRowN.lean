/- Package row, walked: a new row. -/
import Derived.Test.YtcadbapccdclaaaRowB
import Derived.Test.YtcadbapccdclaaaRowC
import Derived.Test.YtcadbapccdclaaaMem08n
namespace Go.Proofs.Ytcadbapccdclaaa
open Go Go.RowKit
set_option linter.unusedVariables false
set_option linter.unusedSimpArgs false

/-- A row is told, its cells in a block of the call's own. -/
def Gives8Ro (r : Rw) (W : World) (e : Ending) (w' : World) : Prop := ∃ A c, e = .returned (rwV r A c) ∧ OwnC w' W.heap.size A c r.cs ∧ Below W.heap.size W w'
theorem OwnC.far4o {w : World} {base g : Nat} {A : Option Addr} {c : Nat} {l : List Cl} {t : TypeId} {cs : Array Value} (h : OwnC w base A c l) (hb : Box w g t cs) (hne : 47 ≠ t) (v0 v1 v2 v3 : Value) :
    OwnC ((((w.setCell ⟨g, 0, none⟩ v0).setCell ⟨g, 1, none⟩ v1).setCell ⟨g, 2, none⟩ v2).setCell ⟨g, 3, none⟩ v3) base A c l := by
  have hn := h.box hb hne
  unfold OwnC at h ⊢
  exact own_far (own_far (own_far (own_far h (p := ⟨g, 0, none⟩) hn v0) (p := ⟨g, 1, none⟩) hn v1) (p := ⟨g, 2, none⟩) hn v2) (p := ⟨g, 3, none⟩) hn v3
theorem OwnC.le {w : World} {base b : Nat} {A : Option Addr} {c : Nat} {l : List Cl} (h : OwnC w base A c l) (hb : b ≤ base) : OwnC w b A c l := own_le h hb
set_option maxRecDepth 100000 in
set_option maxHeartbeats 400000 in
theorem new8_o (n : Int) (p : Pn) (w : World) (hn : I64 n) (hp : PnOk p) : Calls Try.prog 31 #[.int .i64 n, pnV p] w (Gives8Ro (newR n p) w) := by
  have hw8 := fun V => width8_c n V hn
  obtain ⟨K, hK⟩ : ∃ K : Nat, max 1 (min n 4096) = (K : Int) := ⟨(max 1 (min n 4096)).toNat, by omega⟩
  have hbk := fun V => blanks8_o K (by omega) p V
  have hS : newR n p = ⟨List.replicate K (blankC p), false, 0, false⟩ := by unfold newR; rw [hK]; rfl
  rw [hS]
  rw [hK] at hw8
  have HW := Lib.hid hw8
  have HB := Lib.hid hbk
  have v1 : pnV p = .agg #[.int .i64 p.fg, .int .i64 p.bg, .int .i64 p.fl] := rfl
  rw [v1]
  have hP : Box ((w.alloc (.cells #[.int .i64 p.fg, .int .i64 p.bg, .int .i64 p.fl] 31)).alloc (.cells #[.slice none 0 0, .bool false, .int .i64 0, .bool false] 35)) w.heap.size 31 #[.int .i64 p.fg, .int .i64 p.bg, .int .i64 p.fl] := (Box.new w _ _).alloc _
  have hX : Box ((w.alloc (.cells #[.int .i64 p.fg, .int .i64 p.bg, .int .i64 p.fl] 31)).alloc (.cells #[.slice none 0 0, .bool false, .int .i64 0, .bool false] 35)) (w.heap.size + 1) 35 #[.slice none 0 0, .bool false, .int .i64 0, .bool false] := box8_1 w _ _ _
  have hb : Below w.heap.size w ((w.alloc (.cells #[.int .i64 p.fg, .int .i64 p.bg, .int .i64 p.fl] 31)).alloc (.cells #[.slice none 0 0, .bool false, .int .i64 0, .bool false] 35)) := ((Below.refl _ _).alloc (Nat.le_refl _) _).alloc (by simp) _
  have HX := Lib.hid (And.intro hP (And.intro hX hb))
  clear hw8 hbk hS v1 hP hX hb hn hK
  go_enter Try.func31, Try.ntmps31
  go_upto_region 1 with fail
  generalize (w.alloc (.cells #[.int .i64 p.fg, .int .i64 p.bg, .int .i64 p.fl] 31)).alloc (.cells #[.slice none 0 0, .bool false, .int .i64 0, .bool false] 35) = W at *
  have m0 := Ext.cell (w := W) (B := w.heap.size + 1) (p := ⟨w.heap.size, 0, none⟩) (by simp) (HX.out.1.cell 0)
  have m1 := Ext.cell (w := W) (B := w.heap.size + 1) (p := ⟨w.heap.size, 1, none⟩) (by simp) (HX.out.1.cell 1)
  have m2 := Ext.cell (w := W) (B := w.heap.size + 1) (p := ⟨w.heap.size, 2, none⟩) (by simp) (HX.out.1.cell 2)
  refine region_plan [([0, 2], [1, 3]), ([4], [5])] (fun w' => ∃ u : Ext W (w.heap.size + 1), w' = u.val) (by kernel_rfl) (by kernel_rfl) (fun _ _ _ _ _ h => h) ⟨⟨_, (Below.refl _ _).drew⟩, rfl⟩ ?_
  simp only [wpPlan, sel, List.take_succ_cons, List.take_zero, List.drop_succ_cons, List.drop_zero, List.cons_append, List.nil_append]
  repeat (go_big_quiet_step (fail))
  refine wpQuiet_nil ?_
  unfold wpChain
  go_wp2_with fail
  refine (HW.out _).mono ?_
  rintro e v1 ⟨rfl, rfl⟩
  go_wp2_with fail
  refine ⟨⟨⟨_, (Below.refl _ _).drew⟩, rfl⟩, ?_⟩
  unfold wpChain
  go_wp2_with fail
  refine (HB.out _).mono ?_
  rintro e v1 ⟨A, c, rfl, hA, hv1⟩
  have hsz : w.heap.size + 1 ≤ W.heap.size := Nat.le_of_lt HX.out.2.1.lt
  have hv2 : Below W.heap.size W v1 := (Below.refl W.heap.size W).drew.trans hv1
  have hX1 := HX.out.2.1.below hv2 HX.out.2.1.lt
  have hb1 := HX.out.2.2.trans (hv2.mono HX.out.2.2.size)
  have HV := Lib.hid (hv2.mono hsz)
  have HA := Lib.hid (And.intro hX1 (And.intro hb1 hA))
  clear hv1 hv2 hsz
  go_wp2_with fail
  refine ⟨⟨⟨_, HV.out⟩, rfl⟩, ?_⟩
  unfold wpChain
  repeat (go_big_quiet_step (fail))
  refine wpQuiet_nil ?_
  unfold wpChain
  clear m0 m1 m2
  obtain ⟨f0, f1, f2, f3⟩ : v1.frozen? ⟨w.heap.size + 1, 0, none⟩ = false ∧ v1.frozen? ⟨w.heap.size + 1, 1, none⟩ = false ∧ v1.frozen? ⟨w.heap.size + 1, 2, none⟩ = false ∧ v1.frozen? ⟨w.heap.size + 1, 3, none⟩ = false := ⟨hX1.free 0, hX1.free 1, hX1.free 2, hX1.free 3⟩
  obtain ⟨j0, j1, j2, j3⟩ : v1.cell? ⟨w.heap.size + 1, 0, none⟩ = some (.slice none 0 0) ∧ v1.cell? ⟨w.heap.size + 1, 1, none⟩ = some (.bool false) ∧ v1.cell? ⟨w.heap.size + 1, 2, none⟩ = some (.int .i64 0) ∧ v1.cell? ⟨w.heap.size + 1, 3, none⟩ = some (.bool false) := ⟨hX1.cell 0, hX1.cell 1, hX1.cell 2, hX1.cell 3⟩
  clear hX1 hb1 hA
  go_wp2_with fail
  refine ⟨⟨⟨_, below_four HV.out (Nat.le_refl _) _ _ _ _⟩, rfl⟩, ?_⟩
  unfold wpChain
  go_wp2_with fail
  have hp4 := HA.out.1.put4r HA.out.2.1 (Nat.le_succ _) (.slice A K c) (.bool false) (.int .i64 0) (.bool false)
  have hi4 := (HA.out.2.2.far4o HA.out.1 (by decide) (.slice A K c) (.bool false) (.int .i64 0) (.bool false)).le HX.out.2.2.size
  refine bodyPost_ret (ret8_rw rfl ⟨List.replicate K (blankC p), false, 0, false⟩ A c _ _ (w.heap.size + 1) 35 rfl ?_) rfl ⟨A, c, rfl, hi4, hp4.2⟩
  have e : rwCells ⟨List.replicate K (blankC p), false, 0, false⟩ A c = #[.slice A K c, .bool false, .int .i64 0, .bool false] := by unfold rwCells; simp only [List.length_replicate]
  rw [e]
  exact hp4.1
theorem new8_c : New8C := fun n p w hn hp => (new8_o n p w hn hp).mono fun e w' ⟨A, c, he, ho, hb⟩ => ⟨A, c, he, ho.in_, hb⟩
end Go.Proofs.Ytcadbapccdclaaa
