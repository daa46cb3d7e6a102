/- Package pen: whether a pen may be (what a colour is of, whether it is one); a pen in a box. -/
import Derived.Test.YtcadbapccdclaaaMath07b
import Derived.Test.YtcadbapccdclaaaPen7
import Derived.Test.YtcadbapccdclaaaBitsR
import Derived.Test.YtcadbapccdclaaaMem01
import Derived.Test.YtcadbapccdclaaaReg
import Derived.Test.YtcadbapccdclaaaChecked
import Derived.Deep.DeepCutAuto
namespace Go.Proofs.Ytcadbapccdclaaa
open Go Go.RowKit
set_option linter.unusedVariables false
set_option linter.unusedSimpArgs false

theorem Box.three {W : World} {g : Nat} {t : TypeId} {a b c : Value} (h : Box W g t #[a, b, c]) :
    (W.cell? ⟨g, 0, none⟩ = some a ∧ W.cell? ⟨g, 1, none⟩ = some b ∧ W.cell? ⟨g, 2, none⟩ = some c) ∧ W.frozen? ⟨g, 0, none⟩ = false ∧ W.frozen? ⟨g, 1, none⟩ = false ∧ W.frozen? ⟨g, 2, none⟩ = false :=
  ⟨⟨h.cell 0, h.cell 1, h.cell 2⟩, h.free 0, h.free 1, h.free 2⟩
def Sane7C : Prop := ∀ (p : Pn) (w : World), PnOk p → Calls Try.prog 33 #[pnV p] w fun e w' => e = .returned (.bool (decide (SaneN p))) ∧ Below w.heap.size w w'
theorem Box.pen {w : World} {a b c : Value} : Box (w.alloc (.cells #[a, b, c] 31)) w.heap.size 31 #[a, b, c] := Box.new w 31 _
theorem and_255' (r : Int) : bits .and .i64 r 255 = r % 256 := and_low r 8 (by decide)
theorem results_four {fn : Func} {t u v x : Tmp} (h : fn.results = #[.tmp t, .tmp u, .tmp v, .tmp x]) (tmps : Array Value) (P : Program) (w : World) :
    (results fn tmps).run P w = .ok (.tuple #[tmps.getD t undef, tmps.getD u undef, tmps.getD v undef, tmps.getD x undef]) w := by
  simp [results, h, go_sem]
theorem parts_s (c : Int) (w : World) (hc : I64 c) : Calls Try.prog 45 #[.int .i64 c] w fun e w' => e = .returned (.tuple #[.int .i64 (partsN c).1, .int .i64 (partsN c).2.1, .int .i64 (partsN c).2.2.1, .int .i64 (partsN c).2.2.2]) ∧ w = w' := by
  unfold I64 at hc
  obtain ⟨hc0, hc1⟩ := hc
  have a1 := and_255' c
  have a2 := and_255' (c / 65536)
  have a3 := and_255' (c / 256)
  unfold partsN
  by_cases h0 : c = 0
  · subst h0
    rw [if_pos rfl]
    go_enter Try.func45, Try.ntmps45
    go_wp2
    refine bodyPost_ret (results_four rfl _ _ _) rfl ?_
    exact ⟨rfl, rfl⟩
  · rw [if_neg h0]
    have z0 : (c == 0) = false := beq_eq_false_iff_ne.2 h0
    by_cases h1 : 1 ≤ c ∧ c ≤ 256
    · rw [if_pos h1]
      obtain ⟨k0, k1⟩ := h1
      go_enter Try.func45, Try.ntmps45
      go_wp2
      refine bodyPost_ret (results_four rfl _ _ _) rfl ?_
      exact ⟨rfl, rfl⟩
    · rw [if_neg h1]
      by_cases h2 : 16777216 ≤ c ∧ c < 33554432
      · rw [if_pos h2]
        obtain ⟨k0, k1⟩ := h2
        have k2 : ¬ c ≤ 256 := by omega
        go_enter Try.func45, Try.ntmps45
        go_wp2
        refine bodyPost_ret (results_four rfl _ _ _) rfl ?_
        exact ⟨rfl, rfl⟩
      · rw [if_neg h2]
        rcases (show c < 1 ∨ (256 < c ∧ (c < 16777216 ∨ 33554432 ≤ c)) by omega) with k | ⟨k, k | k⟩
        all_goals
          go_enter Try.func45, Try.ntmps45
          go_wp2
          refine bodyPost_ret (results_four rfl _ _ _) rfl ?_
          exact ⟨rfl, rfl⟩
theorem isCol_c (c : Int) (hc : I64 c) (w : World) : Calls Try.prog 41 #[.int .i64 c] w fun e w' => e = .returned (.bool (decide (ColOk c))) ∧ w = w' := by
  have h := parts_s c w hc
  have e1 : decide (ColOk c) = ((partsN c).1 != 3) := by
    by_cases k : ColOk c
    · rw [decide_eq_true k]; exact (bne_iff_ne.2 ((parts_ok c).1 k)).symm
    · rw [decide_eq_false k]
      have : (partsN c).1 = 3 := by
        by_cases k2 : (partsN c).1 = 3
        · exact k2
        · exact absurd ((parts_ok c).2 k2) k
      rw [this]; rfl
  rw [e1]
  clear e1
  generalize (partsN c).1 = a at *
  generalize (partsN c).2.1 = b at *
  generalize (partsN c).2.2.1 = d at *
  generalize (partsN c).2.2.2 = f at *
  go_enter Try.func41, Try.ntmps41
  go_wp2_with fail
  refine h.mono ?_
  rintro e w' ⟨rfl, rfl⟩
  clear h
  go_wp2
  go_ret
  exact ⟨rfl, rfl⟩
theorem sane7_c : Sane7C := by
  intro p w hok
  obtain ⟨a, b, f⟩ := p
  have v1 : pnV ⟨a, b, f⟩ = .agg #[.int .i64 a, .int .i64 b, .int .i64 f] := rfl
  obtain ⟨i0, i1, i2⟩ := hok
  simp only at i0 i1 i2
  have b1 : Below w.heap.size w (w.alloc (.cells #[.int .i64 a, .int .i64 b, .int .i64 f] 31)) := (Below.refl _ _).alloc (Nat.le_refl _) _
  have c1 := isCol_c a i0 (w.alloc (.cells #[.int .i64 a, .int .i64 b, .int .i64 f] 31))
  have c2 := isCol_c b i1 (w.alloc (.cells #[.int .i64 a, .int .i64 b, .int .i64 f] 31))
  rw [v1]
  by_cases h1 : ColOk a
  · rw [decide_eq_true h1] at c1
    by_cases h2 : ColOk b
    · rw [decide_eq_true h2] at c2
      have e : decide (SaneN ⟨a, b, f⟩) = decide (0 ≤ f ∧ f ≤ 511) := by
        refine decide_eq_decide.2 ⟨fun h => h.2.2, fun h => ⟨h1, h2, h.1, h.2⟩⟩
      rw [e]
      clear e h1 h2
      rcases (show (0 ≤ f ∧ f ≤ 511) ∨ f < 0 ∨ (0 ≤ f ∧ 511 < f) by omega) with ⟨k0, k1⟩ | k0 | ⟨k0, k1⟩
      · rw [decide_eq_true ⟨k0, k1⟩]
        go_enter Try.func33, Try.ntmps33
        go_wp2_with fail
        refine c1.mono ?_
        rintro e w' ⟨rfl, rfl⟩
        go_wp2_with fail
        refine c2.mono ?_
        rintro e w' ⟨rfl, rfl⟩
        go_wp2
        go_ret
        exact ⟨rfl, b1⟩
      · rw [decide_eq_false (by omega)]
        have z0 : ¬ 0 ≤ f := by omega
        go_enter Try.func33, Try.ntmps33
        go_wp2_with fail
        refine c1.mono ?_
        rintro e w' ⟨rfl, rfl⟩
        go_wp2_with fail
        refine c2.mono ?_
        rintro e w' ⟨rfl, rfl⟩
        go_wp2
        go_ret
        exact ⟨rfl, b1⟩
      · rw [decide_eq_false (by omega)]
        have z0 : ¬ f ≤ 511 := by omega
        go_enter Try.func33, Try.ntmps33
        go_wp2_with fail
        refine c1.mono ?_
        rintro e w' ⟨rfl, rfl⟩
        go_wp2_with fail
        refine c2.mono ?_
        rintro e w' ⟨rfl, rfl⟩
        go_wp2
        go_ret
        exact ⟨ret_bool (decide_eq_false (by omega)), b1⟩
    · rw [decide_eq_false h2] at c2
      have e : decide (SaneN ⟨a, b, f⟩) = false := decide_eq_false fun h => h2 h.2.1
      rw [e]
      clear e h1 h2
      go_enter Try.func33, Try.ntmps33
      go_wp2_with fail
      refine c1.mono ?_
      rintro e w' ⟨rfl, rfl⟩
      go_wp2_with fail
      refine c2.mono ?_
      rintro e w' ⟨rfl, rfl⟩
      go_wp2
      go_ret
      exact ⟨rfl, b1⟩
  · rw [decide_eq_false h1] at c1
    have e : decide (SaneN ⟨a, b, f⟩) = false := decide_eq_false fun h => h1 h.1
    rw [e]
    clear e h1 c2
    go_enter Try.func33, Try.ntmps33
    go_wp2_with fail
    refine c1.mono ?_
    rintro e w' ⟨rfl, rfl⟩
    go_wp2
    go_ret
    exact ⟨rfl, b1⟩
end Go.Proofs.Ytcadbapccdclaaa
