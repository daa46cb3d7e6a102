/- Whether the document says that a cell may be, walked. -/
import Derived.Test.YtcadbapccdclaaaRefRow
import Derived.Test.YtcadbapccdclaaaRefPen
namespace Go.Proofs.Ytcadbapccdclaaa
open Go Go.RowKit
set_option linter.unusedVariables false
set_option linter.unusedSimpArgs false

def TailC (c : Cl) : Prop := (c.m0 ≠ 0 ∨ c.m1 = 0) ∧ (c.r ≠ 0 ∨ c.m0 = 0) ∧ (c.w ≠ 0 ∨ c.r = 0) ∧ (c.w ≠ 2 ∨ c.r ≠ 0)
set_option maxRecDepth 100000 in
set_option maxHeartbeats 1000000 in
theorem rOne_c (x : Cl) (w : World) (hok : ClOk x) : Calls Try.prog 29 #[.agg #[.int .i64 x.r, .int .i64 x.m0, .int .i64 x.m1, .int .i64 x.w, .int .i64 x.pen.fg, .int .i64 x.pen.bg, .int .i64 x.pen.fl]] w fun e w' => e = .returned (.bool (decide (OneC x))) ∧ Below w.heap.size w w' := by
  obtain ⟨r, m0, m1, cw, p⟩ := x
  obtain ⟨i0, i1, i2, i3, i4⟩ := hok
  simp only at i0 i1 i2 i3 i4 ⊢
  have hb1 : Below w.heap.size w (w.alloc (.cells #[.int .i64 r, .int .i64 m0, .int .i64 m1, .int .i64 cw, .int .i64 p.fg, .int .i64 p.bg, .int .i64 p.fl] 47)) := (Below.refl _ _).alloc (Nat.le_refl _) _
  have hbx : Box (w.alloc (.cells #[.int .i64 r, .int .i64 m0, .int .i64 m1, .int .i64 cw, .int .i64 p.fg, .int .i64 p.bg, .int .i64 p.fl] 47)) w.heap.size 47 #[.int .i64 r, .int .i64 m0, .int .i64 m1, .int .i64 cw, .int .i64 p.fg, .int .i64 p.bg, .int .i64 p.fl] := Box.new w _ _
  have c0 := fun V => rLetter_c r V
  have c1 := fun V => rLetter_c m0 V
  have c2 := fun V => rLetter_c m1 V
  have c3 := fun V => rPen_c p V i4
  generalize hR : decide (OneC ⟨r, m0, m1, cw, p⟩) = R
  have hF : ¬ ((0 ≤ cw ∧ cw ≤ 2) ∧ (LetC r ∧ LetC m0 ∧ LetC m1) ∧ SaneN p) → R = false := fun h => by
    rw [← hR]
    exact decide_eq_false fun k => h ⟨k.1, k.2.1, k.2.2.1⟩
  have hT : ((0 ≤ cw ∧ cw ≤ 2) ∧ (LetC r ∧ LetC m0 ∧ LetC m1) ∧ SaneN p) → R = decide ((m0 ≠ 0 ∨ m1 = 0) ∧ (r ≠ 0 ∨ m0 = 0) ∧ (cw ≠ 0 ∨ r = 0) ∧ (cw ≠ 2 ∨ r ≠ 0)) := fun h => by
    rw [← hR]
    exact decide_eq_decide.2 ⟨fun k => k.2.2.2, fun k => ⟨h.1, h.2.1, h.2.2, k⟩⟩
  have HF := Lib.hid hF
  have HT := Lib.hid hT
  have I4 := Lib.hid i4
  clear hR hF hT i0 i1 i2 i3 i4
  go_enter Try.func29, Try.ntmps29
  go_upto_region 1 with fail
  generalize hW : w.alloc (.cells #[.int .i64 r, .int .i64 m0, .int .i64 m1, .int .i64 cw, .int .i64 p.fg, .int .i64 p.bg, .int .i64 p.fl] 47) = W at *
  obtain ⟨k0, k1, k2, k3, k4, k5, k6⟩ : W.cell? ⟨w.heap.size, 0, none⟩ = some (.int .i64 r) ∧ W.cell? ⟨w.heap.size, 1, none⟩ = some (.int .i64 m0) ∧ W.cell? ⟨w.heap.size, 2, none⟩ = some (.int .i64 m1) ∧ W.cell? ⟨w.heap.size, 3, none⟩ = some (.int .i64 cw) ∧ W.cell? ⟨w.heap.size, 4, none⟩ = some (.int .i64 p.fg) ∧ W.cell? ⟨w.heap.size, 5, none⟩ = some (.int .i64 p.bg) ∧ W.cell? ⟨w.heap.size, 6, none⟩ = some (.int .i64 p.fl) := ⟨hbx.cell 0, hbx.cell 1, hbx.cell 2, hbx.cell 3, hbx.cell 4, hbx.cell 5, hbx.cell 6⟩
  have HB := Lib.hid hb1
  have HX := Lib.hid hbx
  clear hb1 hbx hW
  by_cases h1 : cw < 0
  · have HS := Lib.hid (HF.out fun k => by omega)
    go_wp2_with fail
    go_ret
    exact ⟨ret_bool HS.out.symm, HB.out⟩
  · by_cases h2 : cw > 2
    · have HS := Lib.hid (HF.out fun k => by omega)
      go_wp2_with fail
      go_ret
      exact ⟨ret_bool HS.out.symm, HB.out⟩
    · cases h3 : decide (LetC r) with
      | false =>
        have HS := Lib.hid (HF.out fun k => of_decide_eq_false h3 k.2.1.1)
        rw [h3] at c0
        clear h3
        go_wp2_with fail
        refine (c0 _).mono ?_
        rintro e w' ⟨rfl, rfl⟩
        clear c0
        go_wp2_with fail
        go_ret
        exact ⟨ret_bool HS.out.symm, HB.out⟩
      | true =>
        rw [h3] at c0
        have H3 := Lib.hid (of_decide_eq_true h3)
        clear h3
        go_wp2_with fail
        refine (c0 _).mono ?_
        rintro e w' ⟨rfl, rfl⟩
        clear c0
        cases h3 : decide (LetC m0) with
        | false =>
          have HS := Lib.hid (HF.out fun k => of_decide_eq_false h3 k.2.1.2.1)
          rw [h3] at c1
          clear h3
          go_wp2_with fail
          refine (c1 _).mono ?_
          rintro e w' ⟨rfl, rfl⟩
          clear c1
          go_wp2_with fail
          go_ret
          exact ⟨ret_bool HS.out.symm, HB.out⟩
        | true =>
          rw [h3] at c1
          have H4 := Lib.hid (of_decide_eq_true h3)
          clear h3
          go_wp2_with fail
          refine (c1 _).mono ?_
          rintro e w' ⟨rfl, rfl⟩
          clear c1
          cases h3 : decide (LetC m1) with
          | false =>
            have HS := Lib.hid (HF.out fun k => of_decide_eq_false h3 k.2.1.2.2)
            rw [h3] at c2
            clear h3
            go_wp2_with fail
            refine (c2 _).mono ?_
            rintro e w' ⟨rfl, rfl⟩
            clear c2
            go_wp2_with fail
            go_ret
            exact ⟨ret_bool HS.out.symm, HB.out⟩
          | true =>
            rw [h3] at c2
            have H5 := Lib.hid (of_decide_eq_true h3)
            clear h3
            go_wp2_with fail
            refine (c2 _).mono ?_
            rintro e w' ⟨rfl, rfl⟩
            clear c2
            cases h3 : decide (SaneN p) with
            | false =>
              have HS := Lib.hid (HF.out fun k => of_decide_eq_false h3 k.2.2)
              rw [h3] at c3
              clear h3
              go_wp2_with fail
              refine (c3 _).mono ?_
              rintro e w2 ⟨rfl, hb2⟩
              have HB2 := Lib.hid (HB.out.trans (hb2.mono HB.out.size))
              clear c3 hb2
              go_wp2_with fail
              go_ret
              exact ⟨ret_bool HS.out.symm, HB2.out⟩
            | true =>
              rw [h3] at c3
              have HS := Lib.hid (HT.out ⟨by omega, ⟨H3.out, H4.out, H5.out⟩, of_decide_eq_true h3⟩)
              clear h3 H3 H4 H5
              go_wp2_with fail
              refine (c3 _).mono ?_
              rintro e w2 ⟨rfl, hb2⟩
              have HB2 := Lib.hid (HB.out.trans (hb2.mono HB.out.size))
              have hx2 := HX.out.below hb2 HX.out.lt
              clear c3 hb2 k0 k1 k2 k3 k4 k5 k6
              obtain ⟨k0, k1, k2, k3⟩ : w2.cell? ⟨w.heap.size, 0, none⟩ = some (.int .i64 r) ∧ w2.cell? ⟨w.heap.size, 1, none⟩ = some (.int .i64 m0) ∧ w2.cell? ⟨w.heap.size, 2, none⟩ = some (.int .i64 m1) ∧ w2.cell? ⟨w.heap.size, 3, none⟩ = some (.int .i64 cw) := ⟨hx2.cell 0, hx2.cell 1, hx2.cell 2, hx2.cell 3⟩
              clear hx2 h1 h2
              generalize hR : decide ((m0 ≠ 0 ∨ m1 = 0) ∧ (r ≠ 0 ∨ m0 = 0) ∧ (cw ≠ 0 ∨ r = 0) ∧ (cw ≠ 2 ∨ r ≠ 0)) = R2 at HS
              have HR := Lib.hid hR
              clear hR
              go_wp2_with fail
              all_goals
                go_ret
                refine ⟨ret_bool ?_, HB2.out⟩
                rw [HS.out, ← HR.out]
                first
                  | exact (decide_eq_true (by omega)).symm
                  | exact (decide_eq_false (by omega)).symm
                  | (simp; omega)
                  | simp [*]
end Go.Proofs.Ytcadbapccdclaaa
