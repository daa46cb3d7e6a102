/- The document's example of chapter 7, over the contracts. -/
import Derived.Test.YtlcnlfjjglcobaaDoorMem07
namespace Go.Proofs.YtlcnlfjjglcobaaDoor
open Go Go.RowKit
set_option linter.unusedVariables false
set_option linter.unusedSimpArgs false

theorem ex7_parse : parseP [49, 59, 51, 49] = some [[1], [31]] := by kernel_rfl
theorem ex7_sane : SaneN ⟨2, 0, 1⟩ := by decide
theorem ex7_apply : applyN zeroN [[1], [31]] = ⟨2, 0, 1⟩ := by
  rw [apply_one zeroN_sane _ (by simp), goN_plain _ _ _ (by decide), goN_plain _ _ _ (by decide), goN_nil]
  rfl
theorem ex7_print : printN ⟨2, 0, 1⟩ = [[0], [1], [31]] := by decide +kernel
set_option maxRecDepth 100000 in
set_option maxHeartbeats 4000000 in
theorem awake7_c (hp : ParseC) (hs : Sane7C) (ha : Apply7C) (hpr : Print7C) (w : World) (hT : Tog w) : Calls Tryd.prog 8 #[] w fun e w' => e = .returned (.bool true) ∧ Below w.heap.size w w' := by
  have hc := hp [49, 59, 51, 49] w (by decide) (by decide)
  rw [ex7_parse] at hc
  unfold GivesL at hc
  dsimp only at hc
  go_enter Tryd.func8, Tryd.ntmps8
  go_wp2_with fail
  refine hc.mono ?_
  rintro e w1 ⟨A, c, es, rfl, hin, hq, hb1⟩
  have h1 := ha zeroN A c es w1 zero_ok hin (by rw [hq]; intro q hq x hx; simp only [List.mem_cons, List.not_mem_nil, or_false] at hq; rcases hq with rfl | rfl <;> (rw [List.mem_singleton] at hx; subst hx; unfold I64; omega)) (hT.on hb1)
  rw [hq, ex7_apply] at h1
  have v0 : pnV zeroN = .agg #[.int .i64 0, .int .i64 0, .int .i64 0] := rfl
  have v1 : pnV ⟨2, 0, 1⟩ = .agg #[.int .i64 2, .int .i64 0, .int .i64 1] := rfl
  rw [v0, v1] at h1
  clear hc
  go_wp2_with fail
  refine h1.mono ?_
  rintro e w2 ⟨rfl, hb2⟩
  have hb2 := hb1.trans (hb2.mono hb1.size)
  have hbox := Box.pen (w := w2) (a := .int .i64 2) (b := .int .i64 0) (c := .int .i64 1)
  have hbW := hb2.alloc hb2.size (.cells #[.int .i64 2, .int .i64 0, .int .i64 1] 23)
  have h2 := hs ⟨2, 0, 1⟩ (w2.alloc (.cells #[.int .i64 2, .int .i64 0, .int .i64 1] 23)) ex7_sane.ok
  rw [decide_eq_true ex7_sane, v1] at h2
  have HB := Lib.hid (And.intro hbox hbW)
  clear hbox hbW
  clear h1
  go_wp2_with fail
  refine h2.mono ?_
  rintro e w3 ⟨rfl, hb3⟩
  obtain ⟨hbox, hbW⟩ := HB.out
  have hbox := hbox.below hb3 hbox.lt
  have hb3 := hbW.trans (hb3.mono hbW.size)
  obtain ⟨⟨k0, k1, k2⟩, -⟩ := hbox.three
  clear hbox hbW HB
  have h3 := hpr ⟨2, 0, 1⟩ w3 ex7_sane.ok (hT.on hb3)
  rw [ex7_print, v1] at h3
  unfold GivesM at h3
  clear h2
  go_wp2_with fail
  refine h3.mono ?_
  rintro e w4 ⟨A4, c4, es4, rfl, hin4, hq4, -, hb4⟩
  have hl : es4.length = 3 := by rw [← qs_length, hq4]; rfl
  rw [hl]
  have hb4 := hb3.trans (hb4.mono hb3.size)
  clear h3
  go_wp2_with fail
  go_ret
  exact ⟨rfl, hb4⟩
end Go.Proofs.YtlcnlfjjglcobaaDoor
