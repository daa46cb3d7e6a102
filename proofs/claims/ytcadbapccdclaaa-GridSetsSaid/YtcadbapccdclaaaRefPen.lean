/- The document's Sane of a pen, walked. -/
import Derived.Test.YtcadbapccdclaaaPenS
namespace Go.Proofs.Ytcadbapccdclaaa
open Go Go.RowKit
set_option linter.unusedVariables false
set_option linter.unusedSimpArgs false

set_option maxHeartbeats 400000 in
theorem rParts_c (c : Int) (w : World) (hc : I64 c) : Calls Try.prog 43 #[.int .i64 c] w fun e w' => e = .returned (.tuple #[.int .i64 (partsN c).1, .int .i64 (partsN c).2.1, .int .i64 (partsN c).2.2.1, .int .i64 (partsN c).2.2.2]) ∧ w = w' := by
  unfold I64 at hc
  obtain ⟨hc0, hc1⟩ := hc
  unfold partsN
  by_cases h0 : c = 0
  · subst h0
    rw [if_pos rfl]
    go_enter Try.func43, Try.ntmps43
    go_wp2
    refine bodyPost_ret (results_four rfl _ _ _) rfl ?_
    exact ⟨rfl, rfl⟩
  · rw [if_neg h0]
    have z0 : (c == 0) = false := beq_eq_false_iff_ne.2 h0
    by_cases h1 : 1 ≤ c ∧ c ≤ 256
    · rw [if_pos h1]
      obtain ⟨k0, k1⟩ := h1
      go_enter Try.func43, Try.ntmps43
      go_wp2
      refine bodyPost_ret (results_four rfl _ _ _) rfl ?_
      exact ⟨rfl, rfl⟩
    · rw [if_neg h1]
      by_cases h2 : 16777216 ≤ c ∧ c < 33554432
      · rw [if_pos h2]
        obtain ⟨k0, k1⟩ := h2
        have k2 : ¬ c ≤ 256 := by omega
        go_enter Try.func43, Try.ntmps43
        go_wp2
        refine bodyPost_ret (results_four rfl _ _ _) rfl ?_
        exact ⟨rfl, rfl⟩
      · rw [if_neg h2]
        rcases (show c < 1 ∨ (256 < c ∧ (c < 16777216 ∨ 33554432 ≤ c)) by omega) with k | ⟨k, k | k⟩
        all_goals
          go_enter Try.func43, Try.ntmps43
          go_wp2
          refine bodyPost_ret (results_four rfl _ _ _) rfl ?_
          exact ⟨rfl, rfl⟩
theorem col_parts (c : Int) : ColOk c ↔ (partsN c).1 ≠ 3 := ⟨(parts_ok c).1, (parts_ok c).2⟩
set_option maxHeartbeats 4000000 in
theorem rPen_c (p : Pn) (w : World) (hok : PnOk p) : Calls Try.prog 38 #[.agg #[.int .i64 p.fg, .int .i64 p.bg, .int .i64 p.fl]] w fun e w' => e = .returned (.bool (decide (SaneN p))) ∧ Below w.heap.size w w' := by
  obtain ⟨a, b, f⟩ := p
  obtain ⟨i0, i1, i2⟩ := hok
  simp only at i0 i1 i2
  have b1 : Below w.heap.size w (w.alloc (.cells #[.int .i64 a, .int .i64 b, .int .i64 f] 31)) := (Below.refl _ _).alloc (Nat.le_refl _) _
  have hb : Box (w.alloc (.cells #[.int .i64 a, .int .i64 b, .int .i64 f] 31)) w.heap.size 31 #[.int .i64 a, .int .i64 b, .int .i64 f] := Box.pen
  have c1 := rParts_c a (w.alloc (.cells #[.int .i64 a, .int .i64 b, .int .i64 f] 31)) i0
  have c2 := rParts_c b (w.alloc (.cells #[.int .i64 a, .int .i64 b, .int .i64 f] 31)) i1
  have e : decide (SaneN ⟨a, b, f⟩) = (((partsN a).1 != 3) && ((partsN b).1 != 3) && decide (0 ≤ f) && decide (f ≤ 511)) := by
    rw [Bool.eq_iff_iff]
    simp only [SaneN, col_parts, decide_eq_true_eq, Bool.and_eq_true, bne_iff_ne, and_assoc]
  simp only at e ⊢
  rw [e]
  clear e
  generalize (partsN a).1 = a0 at *
  generalize (partsN a).2.1 = a1 at *
  generalize (partsN a).2.2.1 = a2 at *
  generalize (partsN a).2.2.2 = a3 at *
  generalize (partsN b).1 = d0 at *
  generalize (partsN b).2.1 = d1 at *
  generalize (partsN b).2.2.1 = d2 at *
  generalize (partsN b).2.2.2 = d3 at *
  go_enter Try.func38, Try.ntmps38
  generalize hW : w.alloc (.cells #[.int .i64 a, .int .i64 b, .int .i64 f] 31) = W at *
  obtain ⟨⟨k0, k1, k2⟩, -⟩ := hb.three
  have HB := Lib.hid b1
  clear b1 hb
  go_wp2_with fail
  refine c1.mono ?_
  rintro e w' ⟨rfl, rfl⟩
  go_wp2_with fail
  refine c2.mono ?_
  rintro e w' ⟨rfl, rfl⟩
  clear c1 c2
  cases e1 : (a0 != 3) with
  | false =>
    go_wp2_with fail
    go_ret
    exact ⟨ret_bool (a := false) (by rw [e1]; rfl), HB.out⟩
  | true =>
    cases e2 : (d0 != 3) with
    | false =>
      go_wp2_with fail
      go_ret
      exact ⟨ret_bool (a := false) (by rw [e1, e2]; rfl), HB.out⟩
    | true =>
      rcases (show f < 0 ∨ (0 ≤ f ∧ f ≤ 511) ∨ (0 ≤ f ∧ 511 < f) by omega) with k | ⟨k, k'⟩ | ⟨k, k'⟩
      · have z : ¬ 0 ≤ f := by omega
        go_wp2_with fail
        go_ret
        exact ⟨ret_bool (by simp; omega), HB.out⟩
      · go_wp2_with fail
        go_ret
        exact ⟨ret_bool (by simp [bne_iff_ne.1 e1, bne_iff_ne.1 e2, k, k']), HB.out⟩
      · have z : ¬ f ≤ 511 := by omega
        go_wp2_with fail
        go_ret
        exact ⟨ret_bool (by simp; omega), HB.out⟩
end Go.Proofs.Ytcadbapccdclaaa
