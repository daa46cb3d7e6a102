/- Package grid, walked: heights, places brought to a part, widths, a clone of rows. -/
import Derived.Test.YtcadbapccdclaaaMemH
import Derived.Test.YtcadbapccdclaaaMath09
import Derived.Test.YtcadbapccdclaaaChecked
import Derived.Deep.DeepCutAuto
import Derived.Lib.SliceRun
namespace Go.Proofs.Ytcadbapccdclaaa
open Go Go.RowKit
set_option linter.unusedVariables false
set_option linter.unusedSimpArgs false

theorem height9_c (n : Int) (w : World) (hn : I64 n) : Calls Try.prog 19 #[.int .i64 n] w fun e w' => e = .returned (.int .i64 (max 1 (min n 1000))) ∧ w = w' := by
  unfold I64 at hn
  obtain ⟨hn0, hn1⟩ := hn
  generalize hR : max 1 (min n 1000) = R
  have HR := Lib.hid hR
  clear hR
  go_enter Try.func19, Try.ntmps19
  go_wp2
  all_goals
    go_ret
    exact ⟨ret_int (by rw [← HR.out]; omega), rfl⟩
theorem within9_c (n m : Int) (w : World) (hn : I64 n) (hm : I64 m) : Calls Try.prog 24 #[.int .i64 n, .int .i64 m] w fun e w' => e = .returned (.int .i64 (max 0 (min n m))) ∧ w = w' := by
  unfold I64 at hn hm
  obtain ⟨hn0, hn1⟩ := hn
  obtain ⟨hm0, hm1⟩ := hm
  generalize hR : max 0 (min n m) = R
  have HR := Lib.hid hR
  clear hR
  go_enter Try.func24, Try.ntmps24
  go_wp2
  all_goals
    go_ret
    exact ⟨ret_int (by rw [← HR.out]; omega), rfl⟩
set_option maxRecDepth 100000 in
set_option maxHeartbeats 1000000 in
theorem ofWidth9_c (A : Option Addr) (c : Nat) (es : List Rl) (x e0 : Rl) (he : es[0]? = some e0) (w : World) (hin : RdG w A c es) :
    Calls Try.prog 20 #[.agg #[.slice A es.length c], .agg #[.slice x.A x.r.cs.length x.c, .bool x.r.wrap, .int .i64 x.r.dir, .bool x.r.ex]] w fun e w' => e = .returned (.bool (decide (x.r.cs.length = e0.r.cs.length))) ∧ Below w.heap.size w w' := by
  obtain ⟨b, o, rfl, hB, p0, -, -, -⟩ := hin.at_ he
  have hcap := hin.cap
  have hpos : 0 < es.length := (List.getElem?_eq_some_iff.1 he).1
  simp only [Nat.zero_mul, Nat.add_zero] at p0
  obtain ⟨XA, Xc, ⟨Xl, X1, X2, X3⟩⟩ := x
  simp only
  generalize hn1 : Xl.length = n1
  generalize e0.r.cs.length = n2 at *
  generalize hn3 : es.length = n3 at *
  have hb : Below w.heap.size w ((w.alloc (.cells #[.slice (some ⟨b, o, none⟩) n3 c] 26)).alloc (.cells #[.slice XA n1 Xc, .bool X1, .int .i64 X2, .bool X3] 35)) := ((Below.refl _ _).alloc (Nat.le_refl _) _).alloc (by simp) _
  have hX : Box ((w.alloc (.cells #[.slice (some ⟨b, o, none⟩) n3 c] 26)).alloc (.cells #[.slice XA n1 Xc, .bool X1, .int .i64 X2, .bool X3] 35)) w.heap.size 26 #[.slice (some ⟨b, o, none⟩) n3 c] := (Box.new w _ _).alloc _
  have hY : Box ((w.alloc (.cells #[.slice (some ⟨b, o, none⟩) n3 c] 26)).alloc (.cells #[.slice XA n1 Xc, .bool X1, .int .i64 X2, .bool X3] 35)) (w.heap.size + 1) 35 #[.slice XA n1 Xc, .bool X1, .int .i64 X2, .bool X3] := by
    have h := Box.new (w.alloc (.cells #[.slice (some ⟨b, o, none⟩) n3 c] 26)) 35 #[.slice XA n1 Xc, .bool X1, .int .i64 X2, .bool X3]
    simpa using h
  have hP := (hb.cell (p := ⟨b, o, none⟩) hB).trans p0
  have HH := Lib.hid (And.intro hb (And.intro hX (And.intro hY hP)))
  clear hb hX hY hP p0 hin he hn1
  go_enter Try.func20, Try.ntmps20
  go_upto_region 1 with fail
  generalize (w.alloc (.cells #[.slice (some ⟨b, o, none⟩) n3 c] 26)).alloc (.cells #[.slice XA n1 Xc, .bool X1, .int .i64 X2, .bool X3] 35) = W at *
  have hbW : b < W.heap.size := Nat.lt_of_lt_of_le hB HH.out.1.size
  have m0 := Ext.cell (w := W) (B := W.heap.size) (p := ⟨w.heap.size, 0, none⟩) HH.out.2.1.lt (HH.out.2.1.cell 0)
  have m1 := Ext.cell (w := W) (B := W.heap.size) (p := ⟨w.heap.size + 1, 0, none⟩) HH.out.2.2.1.lt (HH.out.2.2.1.cell 0)
  have m2 := Ext.cell (w := W) (B := W.heap.size) (p := ⟨b, o, none⟩) hbW HH.out.2.2.2
  clear hbW
  by_cases h : n1 = n2
  · have eh : ((n1 : Int) == (n2 : Int)) = true := by rw [h]; simp
    have HR : Hid (decide (n1 = n2) = true) := Lib.hid (decide_eq_true h)
    clear h
    refine region_plan [([0, 1, 2, 3, 4, 5, 6, 7, 8, 9, 10], [])] (fun w' => ∃ u : Ext W W.heap.size, w' = u.val) (by kernel_rfl) (by kernel_rfl) (fun _ _ _ _ _ h => h) ⟨⟨_, (Below.refl _ _).drew⟩, rfl⟩ ?_
    simp only [wpPlan, sel, List.take_succ_cons, List.take_zero, List.drop_succ_cons, List.drop_zero, List.cons_append, List.nil_append]
    repeat (go_big_quiet_step (fail))
    refine wpQuiet_nil ?_
    unfold wpChain
    go_wp2_with fail
    go_ret
    exact ⟨ret_bool HR.out.symm, HH.out.1.drew⟩
  · have eh : ((n1 : Int) == (n2 : Int)) = false := by simp; omega
    have HR : Hid (decide (n1 = n2) = false) := Lib.hid (decide_eq_false h)
    clear h
    refine region_plan [([0, 1, 2, 3, 4, 5, 6, 7, 8, 9, 10], [])] (fun w' => ∃ u : Ext W W.heap.size, w' = u.val) (by kernel_rfl) (by kernel_rfl) (fun _ _ _ _ _ h => h) ⟨⟨_, (Below.refl _ _).drew⟩, rfl⟩ ?_
    simp only [wpPlan, sel, List.take_succ_cons, List.take_zero, List.drop_succ_cons, List.drop_zero, List.cons_append, List.nil_append]
    repeat (go_big_quiet_step (fail))
    refine wpQuiet_nil ?_
    unfold wpChain
    go_wp2_with fail
    go_ret
    exact ⟨ret_bool HR.out.symm, HH.out.1.drew⟩
/-- A clone of rows. -/
def GivesOwnG (es : List Rl) (W : World) (e : Ending) (w' : World) : Prop := ∃ B d, e = .returned (.slice B es.length d) ∧ OwnG w' W.heap.size B d es ∧ Below W.heap.size W w'
set_option maxRecDepth 100000 in
set_option maxHeartbeats 1000000 in
theorem clone9_c (A : Option Addr) (c : Nat) (es : List Rl) (n : Nat) (hn : n = es.length) (hl : es.length ≤ 100000) (w : World) (hin : RdG w A c es) : Calls Try.prog 26 #[.slice A n c] w (GivesOwnG es w) := by
  cases A with
  | none =>
    obtain rfl : es = [] := by
      rcases es with _ | ⟨x, l⟩
      · rfl
      · obtain ⟨b, o, e, _⟩ := hin.rd (by simp)
        cases e
    simp at hn
    subst hn
    have hnil := fun W : World => Lib.run_eql_slice_nil (P := Try.prog) W 22 35 none 0 c 0 0 Try.underlying22
    go_enter Try.func26, Try.ntmps26
    go_wp2_with fail
    go_ret
    exact ⟨none, 0, rfl, nil_ownG _ _, Below.refl _ _⟩
  | some a =>
    have hal : Below w.heap.size w (w.alloc (.cells #[] 35)) := (Below.refl _ _).alloc (Nat.le_refl _) _
    have HO := Lib.hid (empty_ownG w w.heap.size (Nat.le_refl _))
    have HI := Lib.hid (hin.on hal)
    have hz : w.heap.size ≤ (w.alloc (.cells #[] 35)).heap.size := by simp
    have HNI := Lib.hid hn
    have hnil := fun W : World => Lib.run_eql_slice_nil (P := Try.prog) W 22 35 (some a) n c 0 0 Try.underlying22
    clear hin hn
    go_enter Try.func26, Try.ntmps26
    go_wp2_with (at_builtin; refine wpList_append_rows rfl _ _ rfl w.heap.size 0 (some ⟨w.heap.size, 0, none⟩) [] 0 rfl rfl HO.out (some a) c es n rfl HNI.out HI.out (by simp; omega) hz ?_)
    intro B d w2 hown hO
    try simp only [List.nil_append] at hown hO ⊢
    have hb2 : Below w.heap.size w w2 := hal.trans (hO.belowBase hz (fun g hg => by simp [Value.ownBlock] at hg; omega))
    go_wp2_with fail
    go_ret
    exact ⟨B, d, rfl, hown, hb2⟩
end Go.Proofs.Ytcadbapccdclaaa
