/- Package row, walked: widths, letters, places brought to the width, parts, a blank cell. -/
import Derived.Test.YtflpelpgnjdnkaaMemC
import Derived.Test.YtflpelpgnjdnkaaPenS
import Derived.Deep.DeepCutAuto
namespace Go.Proofs.Ytflpelpgnjdnkaa
open Go Go.RowKit
set_option linter.unusedVariables false
set_option linter.unusedSimpArgs false

theorem ret8_cl {fn : Func} {p : Tmp} (h : fn.results = #[.cell p 29]) (x : Cl) (tmps : Array Value) (W : World) (g : Nat) (t : TypeId) (hp : tmps.getD p undef = .pointer (some ⟨g, 0, none⟩)) (hg : Box W g t #[.int .i64 x.r, .int .i64 x.m0, .int .i64 x.m1, .int .i64 x.w, .int .i64 x.pen.fg, .int .i64 x.pen.bg, .int .i64 x.pen.fl]) :
    (results fn tmps).run Try.prog W = .ok (clV x) W :=
  results_cell_row h tmps W g t _ (0, 0) _ hp hg Try.underlying29 rfl (by kernel_rfl)
theorem ret8_rw {fn : Func} {p : Tmp} (h : fn.results = #[.cell p 24]) (r : Rw) (A : Option Addr) (c : Nat) (tmps : Array Value) (W : World) (g : Nat) (t : TypeId) (hp : tmps.getD p undef = .pointer (some ⟨g, 0, none⟩)) (hg : Box W g t (rwCells r A c)) :
    (results fn tmps).run Try.prog W = .ok (rwV r A c) W :=
  results_cell_row h tmps W g t (rwCells r A c) (0, 0) _ hp hg Try.underlying24 rfl (by kernel_rfl)
theorem box8_1 (w : World) (o : Obj) (t : TypeId) (cs : Array Value) : Box ((w.alloc o).alloc (.cells cs t)) (w.heap.size + 1) t cs := by
  have h := Box.new (w.alloc o) t cs
  simpa using h
theorem width8_c (n : Int) (w : World) (hn : I64 n) : Calls Try.prog 19 #[.int .i64 n] w fun e w' => e = .returned (.int .i64 (max 1 (min n 4096))) ∧ w = w' := by
  unfold I64 at hn
  obtain ⟨hn0, hn1⟩ := hn
  generalize hR : max 1 (min n 4096) = R
  have HR := Lib.hid hR
  clear hR
  go_enter Try.func19, Try.ntmps19
  go_wp2
  all_goals
    go_ret
    exact ⟨ret_int (by rw [← HR.out]; omega), rfl⟩
theorem letter8_c (n : Int) (w : World) : Calls Try.prog 31 #[.int .i64 n] w fun e w' => e = .returned (.bool (decide (LetC n))) ∧ w = w' := by
  rcases (show n < 0 ∨ (0 ≤ n ∧ n ≤ 1114111) ∨ (0 ≤ n ∧ 1114111 < n) by omega) with k | ⟨k, k'⟩ | ⟨k, k'⟩
  · rw [show decide (LetC n) = false from decide_eq_false (by unfold LetC; omega)]
    have z : ¬ 0 ≤ n := by omega
    go_enter Try.func31, Try.ntmps31
    go_wp2
    go_ret
    exact ⟨rfl, rfl⟩
  · rw [show decide (LetC n) = true from decide_eq_true (by unfold LetC; omega)]
    go_enter Try.func31, Try.ntmps31
    go_wp2
    go_ret
    exact ⟨rfl, rfl⟩
  · rw [show decide (LetC n) = false from decide_eq_false (by unfold LetC; omega)]
    have z : ¬ n ≤ 1114111 := by omega
    go_enter Try.func31, Try.ntmps31
    go_wp2
    go_ret
    exact ⟨rfl, rfl⟩
theorem within8_c (r : Rw) (A : Option Addr) (c : Nat) (a : Int) (w : World) (ha : I64 a) (hl : r.cs.length ≤ maxLen) : Calls Try.prog 28 #[.agg #[.slice A r.cs.length c, .bool r.wrap, .int .i64 r.dir, .bool r.ex], .int .i64 a] w fun e w' => e = .returned (.int .i64 (fitN r.cs.length a : Int)) ∧ Below w.heap.size w w' := by
  unfold maxLen at hl
  unfold I64 at ha
  obtain ⟨ha0, ha1⟩ := ha
  generalize hR : (fitN r.cs.length a : Int) = R
  have HR := Lib.hid hR
  clear hR
  have hb : Below w.heap.size w (w.alloc (.cells #[.slice A r.cs.length c, .bool r.wrap, .int .i64 r.dir, .bool r.ex] 24)) := (Below.refl _ _).alloc (Nat.le_refl _) _
  go_enter Try.func28, Try.ntmps28
  go_wp2
  all_goals
    go_ret
    exact ⟨ret_int (by rw [← HR.out]; unfold fitN; omega), hb⟩
def PartC (n : Nat) (a b : Int) : Prop := 0 ≤ a ∧ a < b ∧ b ≤ n
instance (n : Nat) (a b : Int) : Decidable (PartC n a b) := inferInstanceAs (Decidable (_ ∧ _ ∧ _))
theorem part8_c (r : Rw) (A : Option Addr) (c : Nat) (a b : Int) (w : World) : Calls Try.prog 26 #[.agg #[.slice A r.cs.length c, .bool r.wrap, .int .i64 r.dir, .bool r.ex], .int .i64 a, .int .i64 b] w fun e w' => e = .returned (.bool (decide (PartC r.cs.length a b))) ∧ Below w.heap.size w w' := by
  have hb : Below w.heap.size w (w.alloc (.cells #[.slice A r.cs.length c, .bool r.wrap, .int .i64 r.dir, .bool r.ex] 24)) := (Below.refl _ _).alloc (Nat.le_refl _) _
  have HB := Lib.hid hb
  clear hb
  rcases (show a < 0 ∨ (0 ≤ a ∧ b ≤ a) ∨ (0 ≤ a ∧ a < b ∧ (r.cs.length : Int) < b) ∨ (0 ≤ a ∧ a < b ∧ b ≤ r.cs.length) by omega) with k | ⟨k, k'⟩ | ⟨k, k', k2⟩ | ⟨k, k', k2⟩
  · rw [show decide (PartC r.cs.length a b) = false from decide_eq_false (by unfold PartC; omega)]
    have z : ¬ 0 ≤ a := by omega
    go_enter Try.func26, Try.ntmps26
    go_wp2
    go_ret
    exact ⟨rfl, HB.out⟩
  · rw [show decide (PartC r.cs.length a b) = false from decide_eq_false (by unfold PartC; omega)]
    have z : ¬ a < b := by omega
    go_enter Try.func26, Try.ntmps26
    go_wp2
    go_ret
    exact ⟨rfl, HB.out⟩
  · rw [show decide (PartC r.cs.length a b) = false from decide_eq_false (by unfold PartC; omega)]
    have z : ¬ b ≤ (r.cs.length : Int) := by omega
    go_enter Try.func26, Try.ntmps26
    go_wp2
    go_ret
    exact ⟨rfl, HB.out⟩
  · rw [show decide (PartC r.cs.length a b) = true from decide_eq_true (by unfold PartC; omega)]
    go_enter Try.func26, Try.ntmps26
    go_wp2
    go_ret
    exact ⟨rfl, HB.out⟩
set_option maxRecDepth 100000 in
set_option maxHeartbeats 4000000 in
theorem blank8_p (p : Pn) (w : World) : Calls Try.prog 11 #[.agg #[.int .i64 p.fg, .int .i64 p.bg, .int .i64 p.fl]] w fun e w' => e = .returned (.agg #[.int .i64 0, .int .i64 0, .int .i64 0, .int .i64 1, .int .i64 p.fg, .int .i64 p.bg, .int .i64 p.fl]) ∧ Below w.heap.size w w' := by
  go_enter Try.func11, Try.ntmps11
  go_wp2_with fail
  exact bodyPost_ret (ret8_cl rfl (blankC p) _ _ _ _ rfl (box8_1 w _ _ _)) rfl ⟨rfl, ((Below.refl _ _).alloc (Nat.le_refl _) _).alloc (by simp) _⟩
theorem blank8_c : Blank8C := fun p w _ => blank8_p p w
end Go.Proofs.Ytflpelpgnjdnkaa
