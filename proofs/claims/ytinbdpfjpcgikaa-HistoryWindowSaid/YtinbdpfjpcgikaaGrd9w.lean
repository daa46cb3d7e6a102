/- Package grid, walked: heights, widths. -/
import Derived.Test.YtinbdpfjpcgikaaBase6
import Derived.Test.YtinbdpfjpcgikaaChecked
import Derived.Deep.DeepCutAuto
import Derived.Lib.SliceRun
namespace Go.Proofs.Ytinbdpfjpcgikaa
open Go Go.RowKit
set_option linter.unusedVariables false
set_option linter.unusedSimpArgs false

theorem height9_c (n : Int) (w : World) (hn : I64 n) : Calls Try.prog 41 #[.int .i64 n] w fun e w' => e = .returned (.int .i64 (max 1 (min n 1000))) ∧ w = w' := by
  unfold I64 at hn
  obtain ⟨hn0, hn1⟩ := hn
  generalize hR : max 1 (min n 1000) = R
  have HR := Lib.hid hR
  clear hR
  go_enter Try.func41, Try.ntmps41
  go_wp2
  all_goals
    go_ret
    exact ⟨ret_int (by rw [← HR.out] <;> omega), rfl⟩
set_option maxRecDepth 100000 in
set_option maxHeartbeats 1000000 in
theorem ofWidth9_c (A : Option Addr) (c : Nat) (es : List Rl) (x e0 : Rl) (he : es[0]? = some e0) (w : World) (hin : RdG w A c es) :
    Calls Try.prog 42 #[.agg #[.slice A es.length c], .agg #[.slice x.A x.r.cs.length x.c, .bool x.r.wrap, .int .i64 x.r.dir, .bool x.r.ex]] w fun e w' => e = .returned (.bool (decide (x.r.cs.length = e0.r.cs.length))) ∧ Below w.heap.size w w' := by
  obtain ⟨b, o, rfl, hB, p0, -, -, -⟩ := hin.at_ he
  have hcap := hin.cap
  have hpos : 0 < es.length := (List.getElem?_eq_some_iff.1 he).1
  simp only [Nat.zero_mul, Nat.add_zero] at p0
  obtain ⟨XA, Xc, ⟨Xl, X1, X2, X3⟩⟩ := x
  simp only
  generalize hn1 : Xl.length = n1
  generalize e0.r.cs.length = n2 at *
  generalize hn3 : es.length = n3 at *
  have hb : Below w.heap.size w ((w.alloc (.cells #[.slice (some ⟨b, o, none⟩) n3 c] 47)).alloc (.cells #[.slice XA n1 Xc, .bool X1, .int .i64 X2, .bool X3] 35)) := ((Below.refl _ _).alloc (Nat.le_refl _) _).alloc (by simp) _
  have hX : Box ((w.alloc (.cells #[.slice (some ⟨b, o, none⟩) n3 c] 47)).alloc (.cells #[.slice XA n1 Xc, .bool X1, .int .i64 X2, .bool X3] 35)) w.heap.size 47 #[.slice (some ⟨b, o, none⟩) n3 c] := (Box.new w _ _).alloc _
  have hY : Box ((w.alloc (.cells #[.slice (some ⟨b, o, none⟩) n3 c] 47)).alloc (.cells #[.slice XA n1 Xc, .bool X1, .int .i64 X2, .bool X3] 35)) (w.heap.size + 1) 35 #[.slice XA n1 Xc, .bool X1, .int .i64 X2, .bool X3] := by
    have h := Box.new (w.alloc (.cells #[.slice (some ⟨b, o, none⟩) n3 c] 47)) 35 #[.slice XA n1 Xc, .bool X1, .int .i64 X2, .bool X3]
    simpa using h
  have hP := (hb.cell (p := ⟨b, o, none⟩) hB).trans p0
  have HH := Lib.hid (And.intro hb (And.intro hX (And.intro hY hP)))
  clear hb hX hY hP p0 hin he hn1
  go_enter Try.func42, Try.ntmps42
  go_upto_region 1 with fail
  generalize (w.alloc (.cells #[.slice (some ⟨b, o, none⟩) n3 c] 47)).alloc (.cells #[.slice XA n1 Xc, .bool X1, .int .i64 X2, .bool X3] 35) = W at *
  have hbW : b < W.heap.size := Nat.lt_of_lt_of_le hB HH.out.1.size
  have m0 := Ext.cell (w := W) (B := W.heap.size) (p := ⟨w.heap.size, 0, none⟩) HH.out.2.1.lt (HH.out.2.1.cell 0)
  have m1 := Ext.cell (w := W) (B := W.heap.size) (p := ⟨w.heap.size + 1, 0, none⟩) HH.out.2.2.1.lt (HH.out.2.2.1.cell 0)
  have m2 := Ext.cell (w := W) (B := W.heap.size) (p := ⟨b, o, none⟩) hbW HH.out.2.2.2
  clear hbW
  by_cases h : n1 = n2
  · have eh : ((n1 : Int) == (n2 : Int)) = true := by rw [h]; simp
    have HR : Hid (decide (n1 = n2) = true) := Lib.hid (decide_eq_true h)
    clear h
    refine region_plan [([0, 1, 2, 3, 4, 5, 6, 7, 8, 9, 10], [])] (fun w' => ∃ u : Ext W W.heap.size, w' = u.val) (by kernel_rfl) (by kernel_rfl) (fun _ _ _ _ _ h => h) ⟨⟨_, (Below.refl _ _).drew⟩, rfl⟩ ?_
    simp only [wpPlan, sel, List.take_succ_cons, List.take_zero, List.drop_succ_cons, List.drop_zero, List.cons_append, List.nil_append]
    repeat (go_big_quiet_step (fail))
    refine wpQuiet_nil ?_
    unfold wpChain
    go_wp2_with fail
    go_ret
    exact ⟨ret_bool HR.out.symm, HH.out.1.drew⟩
  · have eh : ((n1 : Int) == (n2 : Int)) = false := by simp; omega
    have HR : Hid (decide (n1 = n2) = false) := Lib.hid (decide_eq_false h)
    clear h
    refine region_plan [([0, 1, 2, 3, 4, 5, 6, 7, 8, 9, 10], [])] (fun w' => ∃ u : Ext W W.heap.size, w' = u.val) (by kernel_rfl) (by kernel_rfl) (fun _ _ _ _ _ h => h) ⟨⟨_, (Below.refl _ _).drew⟩, rfl⟩ ?_
    simp only [wpPlan, sel, List.take_succ_cons, List.take_zero, List.drop_succ_cons, List.drop_zero, List.cons_append, List.nil_append]
    repeat (go_big_quiet_step (fail))
    refine wpQuiet_nil ?_
    unfold wpChain
    go_wp2_with fail
    go_ret
    exact ⟨ret_bool HR.out.symm, HH.out.1.drew⟩
end Go.Proofs.Ytinbdpfjpcgikaa
