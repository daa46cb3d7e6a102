/- Package row, walked: widths, letters, a blank cell. -/
import Derived.Test.YtcadbapccdclaaaMemC
import Derived.Test.YtcadbapccdclaaaPenS
import Derived.Deep.DeepCutAuto
namespace Go.Proofs.Ytcadbapccdclaaa
open Go Go.RowKit
set_option linter.unusedVariables false
set_option linter.unusedSimpArgs false

theorem ret8_cl {fn : Func} {p : Tmp} (h : fn.results = #[.cell p 47]) (x : Cl) (tmps : Array Value) (W : World) (g : Nat) (t : TypeId) (hp : tmps.getD p undef = .pointer (some ⟨g, 0, none⟩)) (hg : Box W g t #[.int .i64 x.r, .int .i64 x.m0, .int .i64 x.m1, .int .i64 x.w, .int .i64 x.pen.fg, .int .i64 x.pen.bg, .int .i64 x.pen.fl]) :
    (results fn tmps).run Try.prog W = .ok (clV x) W :=
  results_cell_row h tmps W g t _ (0, 0) _ hp hg Try.underlying47 rfl (by kernel_rfl)
theorem ret8_rw {fn : Func} {p : Tmp} (h : fn.results = #[.cell p 35]) (r : Rw) (A : Option Addr) (c : Nat) (tmps : Array Value) (W : World) (g : Nat) (t : TypeId) (hp : tmps.getD p undef = .pointer (some ⟨g, 0, none⟩)) (hg : Box W g t (rwCells r A c)) :
    (results fn tmps).run Try.prog W = .ok (rwV r A c) W :=
  results_cell_row h tmps W g t (rwCells r A c) (0, 0) _ hp hg Try.underlying35 rfl (by kernel_rfl)
theorem box8_1 (w : World) (o : Obj) (t : TypeId) (cs : Array Value) : Box ((w.alloc o).alloc (.cells cs t)) (w.heap.size + 1) t cs := by
  have h := Box.new (w.alloc o) t cs
  simpa using h
theorem width8_c (n : Int) (w : World) (hn : I64 n) : Calls Try.prog 32 #[.int .i64 n] w fun e w' => e = .returned (.int .i64 (max 1 (min n 4096))) ∧ w = w' := by
  unfold I64 at hn
  obtain ⟨hn0, hn1⟩ := hn
  generalize hR : max 1 (min n 4096) = R
  have HR := Lib.hid hR
  clear hR
  go_enter Try.func32, Try.ntmps32
  go_wp2
  all_goals
    go_ret
    exact ⟨ret_int (by rw [← HR.out]; omega), rfl⟩
theorem letter8_c (n : Int) (w : World) : Calls Try.prog 42 #[.int .i64 n] w fun e w' => e = .returned (.bool (decide (LetC n))) ∧ w = w' := by
  rcases (show n < 0 ∨ (0 ≤ n ∧ n ≤ 1114111) ∨ (0 ≤ n ∧ 1114111 < n) by omega) with k | ⟨k, k'⟩ | ⟨k, k'⟩
  · rw [show decide (LetC n) = false from decide_eq_false (by unfold LetC; omega)]
    have z : ¬ 0 ≤ n := by omega
    go_enter Try.func42, Try.ntmps42
    go_wp2
    go_ret
    exact ⟨rfl, rfl⟩
  · rw [show decide (LetC n) = true from decide_eq_true (by unfold LetC; omega)]
    go_enter Try.func42, Try.ntmps42
    go_wp2
    go_ret
    exact ⟨rfl, rfl⟩
  · rw [show decide (LetC n) = false from decide_eq_false (by unfold LetC; omega)]
    have z : ¬ n ≤ 1114111 := by omega
    go_enter Try.func42, Try.ntmps42
    go_wp2
    go_ret
    exact ⟨rfl, rfl⟩
set_option maxRecDepth 100000 in
set_option maxHeartbeats 4000000 in
theorem blank8_p (p : Pn) (w : World) : Calls Try.prog 44 #[.agg #[.int .i64 p.fg, .int .i64 p.bg, .int .i64 p.fl]] w fun e w' => e = .returned (.agg #[.int .i64 0, .int .i64 0, .int .i64 0, .int .i64 1, .int .i64 p.fg, .int .i64 p.bg, .int .i64 p.fl]) ∧ Below w.heap.size w w' := by
  go_enter Try.func44, Try.ntmps44
  go_wp2_with fail
  exact bodyPost_ret (ret8_cl rfl (blankC p) _ _ _ _ rfl (box8_1 w _ _ _)) rfl ⟨rfl, ((Below.refl _ _).alloc (Nat.le_refl _) _).alloc (by simp) _⟩
theorem blank8_c : Blank8C := fun p w _ => blank8_p p w
end Go.Proofs.Ytcadbapccdclaaa
