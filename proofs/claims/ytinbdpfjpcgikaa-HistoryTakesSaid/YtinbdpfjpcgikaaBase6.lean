/- The document's Sane of a pen, walked. Whether the document says that a cell may be, walked. Whether a row may be, as the document says, walked. The document's rows that have left, walked: from and as the document's, a row of one letter, New, Sane, Same. The document's example of chapter 10, over the contracts. Whether a grid may be, as the document says, walked. A law's own variables of stage 10: what is kept, and rows. -/
import Derived.Test.YtinbdpfjpcgikaaBase5
namespace Go.Proofs.Ytinbdpfjpcgikaa
open Go Go.RowKit
set_option linter.unusedVariables false
set_option linter.unusedSimpArgs false

set_option maxHeartbeats 400000 in
theorem rParts_c (c : Int) (w : World) (hc : I64 c) : Calls Try.prog 53 #[.int .i64 c] w fun e w' => e = .returned (.tuple #[.int .i64 (partsN c).1, .int .i64 (partsN c).2.1, .int .i64 (partsN c).2.2.1, .int .i64 (partsN c).2.2.2]) ∧ w = w' := by
  unfold I64 at hc
  obtain ⟨hc0, hc1⟩ := hc
  unfold partsN
  by_cases h0 : c = 0
  · subst h0
    rw [if_pos rfl]
    go_enter Try.func53, Try.ntmps53
    go_wp2
    refine bodyPost_ret (results_four rfl _ _ _) rfl ?_
    exact ⟨rfl, rfl⟩
  · rw [if_neg h0]
    have z0 : (c == 0) = false := beq_eq_false_iff_ne.2 h0
    by_cases h1 : 1 ≤ c ∧ c ≤ 256
    · rw [if_pos h1]
      obtain ⟨k0, k1⟩ := h1
      go_enter Try.func53, Try.ntmps53
      go_wp2
      refine bodyPost_ret (results_four rfl _ _ _) rfl ?_
      exact ⟨rfl, rfl⟩
    · rw [if_neg h1]
      by_cases h2 : 16777216 ≤ c ∧ c < 33554432
      · rw [if_pos h2]
        obtain ⟨k0, k1⟩ := h2
        have k2 : ¬ c ≤ 256 := by omega
        go_enter Try.func53, Try.ntmps53
        go_wp2
        refine bodyPost_ret (results_four rfl _ _ _) rfl ?_
        exact ⟨rfl, rfl⟩
      · rw [if_neg h2]
        rcases (show c < 1 ∨ (256 < c ∧ (c < 16777216 ∨ 33554432 ≤ c)) by omega) with k | ⟨k, k | k⟩
        all_goals
          go_enter Try.func53, Try.ntmps53
          go_wp2
          refine bodyPost_ret (results_four rfl _ _ _) rfl ?_
          exact ⟨rfl, rfl⟩
theorem col_parts (c : Int) : ColOk c ↔ (partsN c).1 ≠ 3 := ⟨(parts_ok c).1, (parts_ok c).2⟩
set_option maxHeartbeats 4000000 in
theorem rPen_c (p : Pn) (w : World) (hok : PnOk p) : Calls Try.prog 48 #[.agg #[.int .i64 p.fg, .int .i64 p.bg, .int .i64 p.fl]] w fun e w' => e = .returned (.bool (decide (SaneN p))) ∧ Below w.heap.size w w' := by
  obtain ⟨a, b, f⟩ := p
  obtain ⟨i0, i1, i2⟩ := hok
  simp only at i0 i1 i2
  have b1 : Below w.heap.size w (w.alloc (.cells #[.int .i64 a, .int .i64 b, .int .i64 f] 64)) := (Below.refl _ _).alloc (Nat.le_refl _) _
  have hb : Box (w.alloc (.cells #[.int .i64 a, .int .i64 b, .int .i64 f] 64)) w.heap.size 64 #[.int .i64 a, .int .i64 b, .int .i64 f] := Box.pen
  have c1 := rParts_c a (w.alloc (.cells #[.int .i64 a, .int .i64 b, .int .i64 f] 64)) i0
  have c2 := rParts_c b (w.alloc (.cells #[.int .i64 a, .int .i64 b, .int .i64 f] 64)) i1
  have e : decide (SaneN ⟨a, b, f⟩) = (((partsN a).1 != 3) && ((partsN b).1 != 3) && decide (0 ≤ f) && decide (f ≤ 511)) := by
    rw [Bool.eq_iff_iff]
    simp only [SaneN, col_parts, decide_eq_true_eq, Bool.and_eq_true, bne_iff_ne, and_assoc]
  simp only at e ⊢
  rw [e]
  clear e
  generalize (partsN a).1 = a0 at *
  generalize (partsN a).2.1 = a1 at *
  generalize (partsN a).2.2.1 = a2 at *
  generalize (partsN a).2.2.2 = a3 at *
  generalize (partsN b).1 = d0 at *
  generalize (partsN b).2.1 = d1 at *
  generalize (partsN b).2.2.1 = d2 at *
  generalize (partsN b).2.2.2 = d3 at *
  go_enter Try.func48, Try.ntmps48
  generalize hW : w.alloc (.cells #[.int .i64 a, .int .i64 b, .int .i64 f] 64) = W at *
  obtain ⟨⟨k0, k1, k2⟩, -⟩ := hb.three
  have HB := Lib.hid b1
  clear b1 hb
  go_wp2_with fail
  refine c1.mono ?_
  rintro e w' ⟨rfl, rfl⟩
  go_wp2_with fail
  refine c2.mono ?_
  rintro e w' ⟨rfl, rfl⟩
  clear c1 c2
  cases e1 : (a0 != 3) with
  | false =>
    go_wp2_with fail
    go_ret
    exact ⟨ret_bool (a := false) (by rw [e1]; rfl), HB.out⟩
  | true =>
    cases e2 : (d0 != 3) with
    | false =>
      go_wp2_with fail
      go_ret
      exact ⟨ret_bool (a := false) (by rw [e1, e2]; rfl), HB.out⟩
    | true =>
      rcases (show f < 0 ∨ (0 ≤ f ∧ f ≤ 511) ∨ (0 ≤ f ∧ 511 < f) by omega) with k | ⟨k, k'⟩ | ⟨k, k'⟩
      · have z : ¬ 0 ≤ f := by omega
        go_wp2_with fail
        go_ret
        exact ⟨ret_bool (by simp; omega), HB.out⟩
      · go_wp2_with fail
        go_ret
        exact ⟨ret_bool (by simp [bne_iff_ne.1 e1, bne_iff_ne.1 e2, k, k']), HB.out⟩
      · have z : ¬ f ≤ 511 := by omega
        go_wp2_with fail
        go_ret
        exact ⟨ret_bool (by simp; omega), HB.out⟩
end Go.Proofs.Ytinbdpfjpcgikaa

namespace Go.Proofs.Ytinbdpfjpcgikaa
open Go Go.RowKit
set_option linter.unusedVariables false
set_option linter.unusedSimpArgs false

def TailC (c : Cl) : Prop := (c.m0 ≠ 0 ∨ c.m1 = 0) ∧ (c.r ≠ 0 ∨ c.m0 = 0) ∧ (c.w ≠ 0 ∨ c.r = 0) ∧ (c.w ≠ 2 ∨ c.r ≠ 0)
set_option maxRecDepth 100000 in
set_option maxHeartbeats 1000000 in
theorem rOne_c (x : Cl) (w : World) (hok : ClOk x) : Calls Try.prog 38 #[.agg #[.int .i64 x.r, .int .i64 x.m0, .int .i64 x.m1, .int .i64 x.w, .int .i64 x.pen.fg, .int .i64 x.pen.bg, .int .i64 x.pen.fl]] w fun e w' => e = .returned (.bool (decide (OneC x))) ∧ Below w.heap.size w w' := by
  obtain ⟨r, m0, m1, cw, p⟩ := x
  obtain ⟨i0, i1, i2, i3, i4⟩ := hok
  simp only at i0 i1 i2 i3 i4 ⊢
  have hb1 : Below w.heap.size w (w.alloc (.cells #[.int .i64 r, .int .i64 m0, .int .i64 m1, .int .i64 cw, .int .i64 p.fg, .int .i64 p.bg, .int .i64 p.fl] 66)) := (Below.refl _ _).alloc (Nat.le_refl _) _
  have hbx : Box (w.alloc (.cells #[.int .i64 r, .int .i64 m0, .int .i64 m1, .int .i64 cw, .int .i64 p.fg, .int .i64 p.bg, .int .i64 p.fl] 66)) w.heap.size 66 #[.int .i64 r, .int .i64 m0, .int .i64 m1, .int .i64 cw, .int .i64 p.fg, .int .i64 p.bg, .int .i64 p.fl] := Box.new w _ _
  have c0 := fun V => rLetter_c r V
  have c1 := fun V => rLetter_c m0 V
  have c2 := fun V => rLetter_c m1 V
  have c3 := fun V => rPen_c p V i4
  generalize hR : decide (OneC ⟨r, m0, m1, cw, p⟩) = R
  have hF : ¬ ((0 ≤ cw ∧ cw ≤ 2) ∧ (LetC r ∧ LetC m0 ∧ LetC m1) ∧ SaneN p) → R = false := fun h => by
    rw [← hR]
    exact decide_eq_false fun k => h ⟨k.1, k.2.1, k.2.2.1⟩
  have hT : ((0 ≤ cw ∧ cw ≤ 2) ∧ (LetC r ∧ LetC m0 ∧ LetC m1) ∧ SaneN p) → R = decide ((m0 ≠ 0 ∨ m1 = 0) ∧ (r ≠ 0 ∨ m0 = 0) ∧ (cw ≠ 0 ∨ r = 0) ∧ (cw ≠ 2 ∨ r ≠ 0)) := fun h => by
    rw [← hR]
    exact decide_eq_decide.2 ⟨fun k => k.2.2.2, fun k => ⟨h.1, h.2.1, h.2.2, k⟩⟩
  have HF := Lib.hid hF
  have HT := Lib.hid hT
  have I4 := Lib.hid i4
  clear hR hF hT i0 i1 i2 i3 i4
  go_enter Try.func38, Try.ntmps38
  go_upto_region 1 with fail
  generalize hW : w.alloc (.cells #[.int .i64 r, .int .i64 m0, .int .i64 m1, .int .i64 cw, .int .i64 p.fg, .int .i64 p.bg, .int .i64 p.fl] 66) = W at *
  obtain ⟨k0, k1, k2, k3, k4, k5, k6⟩ : W.cell? ⟨w.heap.size, 0, none⟩ = some (.int .i64 r) ∧ W.cell? ⟨w.heap.size, 1, none⟩ = some (.int .i64 m0) ∧ W.cell? ⟨w.heap.size, 2, none⟩ = some (.int .i64 m1) ∧ W.cell? ⟨w.heap.size, 3, none⟩ = some (.int .i64 cw) ∧ W.cell? ⟨w.heap.size, 4, none⟩ = some (.int .i64 p.fg) ∧ W.cell? ⟨w.heap.size, 5, none⟩ = some (.int .i64 p.bg) ∧ W.cell? ⟨w.heap.size, 6, none⟩ = some (.int .i64 p.fl) := ⟨hbx.cell 0, hbx.cell 1, hbx.cell 2, hbx.cell 3, hbx.cell 4, hbx.cell 5, hbx.cell 6⟩
  have HB := Lib.hid hb1
  have HX := Lib.hid hbx
  clear hb1 hbx hW
  by_cases h1 : cw < 0
  · have HS := Lib.hid (HF.out fun k => by omega)
    go_wp2_with fail
    go_ret
    exact ⟨ret_bool HS.out.symm, HB.out⟩
  · by_cases h2 : cw > 2
    · have HS := Lib.hid (HF.out fun k => by omega)
      go_wp2_with fail
      go_ret
      exact ⟨ret_bool HS.out.symm, HB.out⟩
    · cases h3 : decide (LetC r) with
      | false =>
        have HS := Lib.hid (HF.out fun k => of_decide_eq_false h3 k.2.1.1)
        rw [h3] at c0
        clear h3
        go_wp2_with fail
        refine (c0 _).mono ?_
        rintro e w' ⟨rfl, rfl⟩
        clear c0
        go_wp2_with fail
        go_ret
        exact ⟨ret_bool HS.out.symm, HB.out⟩
      | true =>
        rw [h3] at c0
        have H3 := Lib.hid (of_decide_eq_true h3)
        clear h3
        go_wp2_with fail
        refine (c0 _).mono ?_
        rintro e w' ⟨rfl, rfl⟩
        clear c0
        cases h3 : decide (LetC m0) with
        | false =>
          have HS := Lib.hid (HF.out fun k => of_decide_eq_false h3 k.2.1.2.1)
          rw [h3] at c1
          clear h3
          go_wp2_with fail
          refine (c1 _).mono ?_
          rintro e w' ⟨rfl, rfl⟩
          clear c1
          go_wp2_with fail
          go_ret
          exact ⟨ret_bool HS.out.symm, HB.out⟩
        | true =>
          rw [h3] at c1
          have H4 := Lib.hid (of_decide_eq_true h3)
          clear h3
          go_wp2_with fail
          refine (c1 _).mono ?_
          rintro e w' ⟨rfl, rfl⟩
          clear c1
          cases h3 : decide (LetC m1) with
          | false =>
            have HS := Lib.hid (HF.out fun k => of_decide_eq_false h3 k.2.1.2.2)
            rw [h3] at c2
            clear h3
            go_wp2_with fail
            refine (c2 _).mono ?_
            rintro e w' ⟨rfl, rfl⟩
            clear c2
            go_wp2_with fail
            go_ret
            exact ⟨ret_bool HS.out.symm, HB.out⟩
          | true =>
            rw [h3] at c2
            have H5 := Lib.hid (of_decide_eq_true h3)
            clear h3
            go_wp2_with fail
            refine (c2 _).mono ?_
            rintro e w' ⟨rfl, rfl⟩
            clear c2
            cases h3 : decide (SaneN p) with
            | false =>
              have HS := Lib.hid (HF.out fun k => of_decide_eq_false h3 k.2.2)
              rw [h3] at c3
              clear h3
              go_wp2_with fail
              refine (c3 _).mono ?_
              rintro e w2 ⟨rfl, hb2⟩
              have HB2 := Lib.hid (HB.out.trans (hb2.mono HB.out.size))
              clear c3 hb2
              go_wp2_with fail
              go_ret
              exact ⟨ret_bool HS.out.symm, HB2.out⟩
            | true =>
              rw [h3] at c3
              have HS := Lib.hid (HT.out ⟨by omega, ⟨H3.out, H4.out, H5.out⟩, of_decide_eq_true h3⟩)
              clear h3 H3 H4 H5
              go_wp2_with fail
              refine (c3 _).mono ?_
              rintro e w2 ⟨rfl, hb2⟩
              have HB2 := Lib.hid (HB.out.trans (hb2.mono HB.out.size))
              have hx2 := HX.out.below hb2 HX.out.lt
              clear c3 hb2 k0 k1 k2 k3 k4 k5 k6
              obtain ⟨k0, k1, k2, k3⟩ : w2.cell? ⟨w.heap.size, 0, none⟩ = some (.int .i64 r) ∧ w2.cell? ⟨w.heap.size, 1, none⟩ = some (.int .i64 m0) ∧ w2.cell? ⟨w.heap.size, 2, none⟩ = some (.int .i64 m1) ∧ w2.cell? ⟨w.heap.size, 3, none⟩ = some (.int .i64 cw) := ⟨hx2.cell 0, hx2.cell 1, hx2.cell 2, hx2.cell 3⟩
              clear hx2 h1 h2
              generalize hR : decide ((m0 ≠ 0 ∨ m1 = 0) ∧ (r ≠ 0 ∨ m0 = 0) ∧ (cw ≠ 0 ∨ r = 0) ∧ (cw ≠ 2 ∨ r ≠ 0)) = R2 at HS
              have HR := Lib.hid hR
              clear hR
              go_wp2_with fail
              all_goals
                go_ret
                refine ⟨ret_bool ?_, HB2.out⟩
                rw [HS.out, ← HR.out]
                first
                  | exact (decide_eq_true (by omega)).symm
                  | exact (decide_eq_false (by omega)).symm
                  | (simp; omega)
                  | simp [*]
end Go.Proofs.Ytinbdpfjpcgikaa

namespace Go.Proofs.Ytinbdpfjpcgikaa
open Go Go.RowKit
set_option linter.unusedVariables false
set_option linter.unusedSimpArgs false

set_option maxRecDepth 100000 in
set_option maxHeartbeats 1000000 in
theorem rSane_c (r : Rw) (A : Option Addr) (c : Nat) (w : World) (hin : InC w A c r.cs) (hok : RwOk r) : Calls Try.prog 28 #[.agg #[.slice A r.cs.length c, .bool r.wrap, .int .i64 r.dir, .bool r.ex]] w fun e w' => e = .returned (.bool (decide (SaneR r))) ∧ Below w.heap.size w w' := by
  obtain ⟨l, y1, y2, y3⟩ := r
  obtain ⟨hd, hcs⟩ := hok
  have hlen := hin.len
  unfold maxLen at hlen
  simp only at hin hd hcs hlen ⊢
  have hY : Box (w.alloc (.cells #[.slice A l.length c, .bool y1, .int .i64 y2, .bool y3] 35)) w.heap.size 35 #[.slice A l.length c, .bool y1, .int .i64 y2, .bool y3] := Box.new w _ _
  have hb : Below w.heap.size w (w.alloc (.cells #[.slice A l.length c, .bool y1, .int .i64 y2, .bool y3] 35)) := (Below.refl _ _).alloc (Nat.le_refl _) _
  have hin1 := hin.on hb
  generalize hR : decide (SaneR ⟨l, y1, y2, y3⟩) = R
  have HR := Lib.hid hR
  have HC := Lib.hid hcs
  have HIN := Lib.hid hin1
  have HI0 := Lib.hid hin
  have HYB := Lib.hid (And.intro hY hb)
  have hcap := hin.cap
  have hmax := hin.max
  clear hR hcs hin hin1 hY hb
  go_enter Try.func28, Try.ntmps28
  go_upto_region 1 with fail
  generalize w.alloc (.cells #[.slice A l.length c, .bool y1, .int .i64 y2, .bool y3] 35) = W at *
  have hH : Below W.heap.size W W := Below.refl _ _
  go_wp2_with fail
  go_loopw [3] (fun u3 wr => ∃ i : Nat, i ≤ l.length ∧ u3 = .int .i64 (i : Int) ∧ Hid (∀ k y, k < i → l[k]? = some y → OneC y) ∧ Hid (Below W.heap.size W wr)) (fun u3 _ => l.length - (intOf u3).toNat)
  case atStart => exact ⟨0, Nat.zero_le _, rfl, Lib.hid (fun k y h => absurd h (Nat.not_lt_zero _)), Lib.hid hH⟩
  case round =>
    obtain ⟨i, hi, rfl, HT, HV⟩ := hrel
    clear hH
    have hY := HYB.out.1.below HV.out HYB.out.1.lt
    have hbl := HYB.out.2.trans (HV.out.mono HYB.out.2.size)
    obtain ⟨k0, k1, k2, k3⟩ : wr.cell? ⟨w.heap.size, 0, none⟩ = some (.slice A l.length c) ∧ wr.cell? ⟨w.heap.size, 1, none⟩ = some (.bool y1) ∧ wr.cell? ⟨w.heap.size, 2, none⟩ = some (.int .i64 y2) ∧ wr.cell? ⟨w.heap.size, 3, none⟩ = some (.bool y3) := ⟨hY.cell 0, hY.cell 1, hY.cell 2, hY.cell 3⟩
    have hYl := hY.lt
    have HBL := Lib.hid hbl
    clear hY hbl
    by_cases hlt : i < l.length
    · have z1 : (i : Int) < (l.length : Int) := by omega
      obtain ⟨x, hx⟩ : ∃ x, l[i]? = some x := ⟨_, List.getElem?_eq_getElem hlt⟩
      obtain ⟨g, o, rfl, -, p0, p1, p2, p3, p4, p5, p6⟩ := (HIN.out.on HV.out).at_ hx
      have hone := fun V => rOne_c x V (HC.out x (List.mem_of_getElem? hx))
      have HX := Lib.hid hx
      clear hx hYl
      cases hxo : decide (OneC x) with
      | true =>
        rw [hxo] at hone
        have HT2 : Hid (∀ k y, k < i + 1 → l[k]? = some y → OneC y) := Lib.hid fun k y hk hy => by
          rcases Nat.lt_succ_iff_lt_or_eq.1 hk with h | h
          · exact HT.out k y h hy
          · subst h
            have e := HX.out.symm.trans hy
            injection e with e
            subst e
            exact of_decide_eq_true hxo
        have HO := Lib.hid hone
        clear hxo hone
        go_wp2_with fail
        refine (HO.out wr).mono ?_
        rintro e v1 ⟨rfl, hv1⟩
        have HV2 := Lib.hid (HV.out.trans (hv1.mono HV.out.size))
        clear hv1 HO
        go_wp2_with fail
        exact ⟨⟨i + 1, by omega, by go_num, HT2, HV2⟩, by simp [intOf]; omega⟩
      | false =>
        rw [hxo] at hone
        have HS : Hid (R = false) := Lib.hid (by
          rw [← HR.out]
          exact decide_eq_false fun h => of_decide_eq_false hxo (h.2.1 x (List.mem_of_getElem? HX.out)))
        have HO := Lib.hid hone
        clear hxo hone
        go_wp2_with fail
        refine (HO.out wr).mono ?_
        rintro e v1 ⟨rfl, hv1⟩
        have HB2 := Lib.hid (HBL.out.trans (hv1.mono HBL.out.size))
        clear hv1 HO
        go_wp2_with fail
        go_ret
        exact ⟨ret_bool HS.out.symm, HB2.out⟩
    · obtain rfl : i = l.length := by omega
      have z1 : ¬ (l.length : Int) < (l.length : Int) := by omega
      have m0 := Ext.cell (w := wr) (B := wr.heap.size) (p := ⟨w.heap.size, 0, none⟩) hYl k0
      have m1 := Ext.cell (w := wr) (B := wr.heap.size) (p := ⟨w.heap.size, 1, none⟩) hYl k1
      have m2 := Ext.cell (w := wr) (B := wr.heap.size) (p := ⟨w.heap.size, 2, none⟩) hYl k2
      have m3 := Ext.cell (w := wr) (B := wr.heap.size) (p := ⟨w.heap.size, 3, none⟩) hYl k3
      have HALL : Hid (∀ y ∈ l, OneC y) := Lib.hid fun y hy => by
        obtain ⟨k, hk, rfl⟩ := List.getElem_of_mem hy
        exact HT.out k _ hk (List.getElem?_eq_getElem hk)
      clear HT hYl
      go_upto_region 6 with fail
      clear k0 k1 k2 k3
      rcases (show l.length < 1 ∨ (1 ≤ l.length ∧ 4096 < l.length) ∨ (1 ≤ l.length ∧ l.length ≤ 4096) by omega) with q | ⟨q, q'⟩ | ⟨q, q'⟩
      · have z2 : ¬ (l.length : Int) ≥ 1 := by omega
        have HS : Hid (R = false) := Lib.hid (by rw [← HR.out]; exact decide_eq_false fun h => by have := h.1.1; simp only at this; omega)
        refine region_plan [([0, 1, 2, 3, 4, 5, 6, 7, 8, 9, 10, 11, 12, 13, 14, 15, 16, 17, 18, 19, 20, 21, 23], [22, 24]), ([25, 26], [])] (fun w' => ∃ u : Ext wr wr.heap.size, w' = u.val) (by kernel_rfl) (by kernel_rfl) (fun _ _ _ _ _ h => h) ⟨⟨_, (Below.refl _ _).drew⟩, rfl⟩ ?_
        simp only [wpPlan, sel, List.take_succ_cons, List.take_zero, List.drop_succ_cons, List.drop_zero, List.cons_append, List.nil_append]
        repeat (go_big_quiet_step (fail))
        refine wpQuiet_nil ?_
        unfold wpChain
        go_wp2_with fail
        refine ⟨⟨⟨_, (Below.refl _ _).drew⟩, rfl⟩, ?_⟩
        unfold wpChain
        go_wp2_with fail
        refine ⟨⟨⟨_, (Below.refl _ _).drew⟩, rfl⟩, ?_⟩
        unfold wpChain
        repeat (go_big_quiet_step (fail))
        refine wpQuiet_nil ?_
        unfold wpChain
        go_wp2_with fail
        go_ret
        exact ⟨ret_bool HS.out.symm, HBL.out.drew⟩
      · have z2 : (l.length : Int) ≥ 1 := by omega
        have z3 : ¬ (l.length : Int) ≤ 4096 := by omega
        have HS : Hid (R = false) := Lib.hid (by rw [← HR.out]; exact decide_eq_false fun h => by have := h.1.2; simp only at this; omega)
        refine region_plan [([0, 1, 2, 3, 4, 5, 6, 7, 8, 9, 10, 11, 12, 13, 14, 15, 16, 17, 18, 19, 20, 21, 23], [22, 24]), ([25, 26], [])] (fun w' => ∃ u : Ext wr wr.heap.size, w' = u.val) (by kernel_rfl) (by kernel_rfl) (fun _ _ _ _ _ h => h) ⟨⟨_, (Below.refl _ _).drew⟩, rfl⟩ ?_
        simp only [wpPlan, sel, List.take_succ_cons, List.take_zero, List.drop_succ_cons, List.drop_zero, List.cons_append, List.nil_append]
        repeat (go_big_quiet_step (fail))
        refine wpQuiet_nil ?_
        unfold wpChain
        go_wp2_with fail
        refine ⟨⟨⟨_, (Below.refl _ _).drew⟩, rfl⟩, ?_⟩
        unfold wpChain
        go_wp2_with fail
        refine ⟨⟨⟨_, (Below.refl _ _).drew⟩, rfl⟩, ?_⟩
        unfold wpChain
        repeat (go_big_quiet_step (fail))
        refine wpQuiet_nil ?_
        unfold wpChain
        go_wp2_with fail
        go_ret
        exact ⟨ret_bool HS.out.symm, HBL.out.drew⟩
      · have z2 : (l.length : Int) ≥ 1 := by omega
        have z3 : (l.length : Int) ≤ 4096 := by omega
        rcases (show y2 < 0 ∨ (0 ≤ y2 ∧ 2 < y2) ∨ (0 ≤ y2 ∧ y2 ≤ 2) by omega) with qd | ⟨qd, qd'⟩ | ⟨qd, qd'⟩
        · have z4 : ¬ y2 ≥ 0 := by omega
          have HS : Hid (R = false) := Lib.hid (by rw [← HR.out]; exact decide_eq_false fun h => by have := h.2.2.2.1; simp only at this; omega)
          refine region_plan [([0, 1, 2, 3, 4, 5, 6, 7, 8, 9, 10, 11, 12, 13, 14, 15, 16, 17, 18, 19, 20, 21, 23], [22, 24]), ([25, 26], [])] (fun w' => ∃ u : Ext wr wr.heap.size, w' = u.val) (by kernel_rfl) (by kernel_rfl) (fun _ _ _ _ _ h => h) ⟨⟨_, (Below.refl _ _).drew⟩, rfl⟩ ?_
          simp only [wpPlan, sel, List.take_succ_cons, List.take_zero, List.drop_succ_cons, List.drop_zero, List.cons_append, List.nil_append]
          repeat (go_big_quiet_step (fail))
          refine wpQuiet_nil ?_
          unfold wpChain
          go_wp2_with fail
          refine ⟨⟨⟨_, (Below.refl _ _).drew⟩, rfl⟩, ?_⟩
          unfold wpChain
          go_wp2_with fail
          refine ⟨⟨⟨_, (Below.refl _ _).drew⟩, rfl⟩, ?_⟩
          unfold wpChain
          repeat (go_big_quiet_step (fail))
          refine wpQuiet_nil ?_
          unfold wpChain
          go_wp2_with fail
          go_ret
          exact ⟨ret_bool HS.out.symm, HBL.out.drew⟩
        · have z5 : ¬ y2 ≤ 2 := by omega
          have HS : Hid (R = false) := Lib.hid (by rw [← HR.out]; exact decide_eq_false fun h => by have := h.2.2.2.2; simp only at this; omega)
          refine region_plan [([0, 1, 2, 3, 4, 5, 6, 7, 8, 9, 10, 11, 12, 13, 14, 15, 16, 17, 18, 19, 20, 21, 23], [22, 24]), ([25, 26], [])] (fun w' => ∃ u : Ext wr wr.heap.size, w' = u.val) (by kernel_rfl) (by kernel_rfl) (fun _ _ _ _ _ h => h) ⟨⟨_, (Below.refl _ _).drew⟩, rfl⟩ ?_
          simp only [wpPlan, sel, List.take_succ_cons, List.take_zero, List.drop_succ_cons, List.drop_zero, List.cons_append, List.nil_append]
          repeat (go_big_quiet_step (fail))
          refine wpQuiet_nil ?_
          unfold wpChain
          go_wp2_with fail
          refine ⟨⟨⟨_, (Below.refl _ _).drew⟩, rfl⟩, ?_⟩
          unfold wpChain
          go_wp2_with fail
          refine ⟨⟨⟨_, (Below.refl _ _).drew⟩, rfl⟩, ?_⟩
          unfold wpChain
          repeat (go_big_quiet_step (fail))
          refine wpQuiet_nil ?_
          unfold wpChain
          go_wp2_with fail
          go_ret
          exact ⟨ret_bool HS.out.symm, HBL.out.drew⟩
        · have HS : Hid (R = decide ((⟨mendL l, y1, y2, y3⟩ : Rw) = ⟨l, y1, y2, y3⟩)) := Lib.hid (by
            rw [← HR.out]
            refine decide_eq_decide.2 ⟨fun h => ?_, fun h => ?_⟩
            · have := h.2.2.1; simp only at this; rw [this]
            · injection h with h; exact ⟨⟨q, q'⟩, HALL.out, h, qd, qd'⟩)
          have HM : Hid (∀ V, Below wr.heap.size wr V → Calls Try.prog 39 #[.agg #[.slice A l.length c, .bool y1, .int .i64 y2, .bool y3]] V (GivesRow ⟨mendL l, y1, y2, y3⟩ V)) := Lib.hid fun V hV => rMend_c ⟨l, y1, y2, y3⟩ A c V ((HIN.out.on HV.out).on hV) (by simp only; omega)
          have HSM : Hid (∀ V B d, Below wr.heap.size wr V → InC V B d (mendL l) → Calls Try.prog 17 #[.agg #[.slice B (mendL l).length d, .bool y1, .int .i64 y2, .bool y3], .agg #[.slice A l.length c, .bool y1, .int .i64 y2, .bool y3]] V fun e w' => e = .returned (.bool (decide ((⟨mendL l, y1, y2, y3⟩ : Rw) = ⟨l, y1, y2, y3⟩))) ∧ Below V.heap.size V w') := Lib.hid fun V B d hV hB => same_c ⟨mendL l, y1, y2, y3⟩ ⟨l, y1, y2, y3⟩ B A d c V hB ((HIN.out.on HV.out).on hV)
          refine region_plan [([0, 1, 2, 3, 4, 5, 6, 7, 8, 9, 10, 11, 12, 13, 14, 15, 16, 17, 18, 19, 20, 21, 23], [22, 24]), ([25, 26], [])] (fun w' => ∃ u : Ext wr wr.heap.size, w' = u.val) (by kernel_rfl) (by kernel_rfl) (fun _ _ _ _ _ h => h) ⟨⟨_, (Below.refl _ _).drew⟩, rfl⟩ ?_
          simp only [wpPlan, sel, List.take_succ_cons, List.take_zero, List.drop_succ_cons, List.drop_zero, List.cons_append, List.nil_append]
          repeat (go_big_quiet_step (fail))
          refine wpQuiet_nil ?_
          unfold wpChain
          go_wp2_with fail
          refine (HM.out _ (Below.refl wr.heap.size wr).drew).mono ?_
          rintro e v1 ⟨B, d, rfl, hB, hv1⟩
          have HV1 : Below wr.heap.size wr v1 := (Below.refl wr.heap.size wr).drew.trans hv1
          have HB1 := Lib.hid hB
          clear hv1 hB HM
          simp only [rwV_eq]
          go_wp2_with fail
          refine ⟨⟨⟨_, HV1⟩, rfl⟩, ?_⟩
          unfold wpChain
          go_wp2_with fail
          refine (HSM.out _ B d HV1 HB1.out).mono ?_
          rintro e v2 ⟨rfl, hv2⟩
          have HV2 : Below wr.heap.size wr v2 := HV1.trans (hv2.mono HV1.size)
          rw [← HS.out]
          clear hv2 HSM HV1
          go_wp2_with fail
          refine ⟨⟨⟨_, HV2⟩, rfl⟩, ?_⟩
          unfold wpChain
          repeat (go_big_quiet_step (fail))
          refine wpQuiet_nil ?_
          unfold wpChain
          go_wp2_with fail
          go_ret
          exact ⟨ret_bool rfl, HBL.out.trans (HV2.mono HBL.out.size)⟩
end Go.Proofs.Ytinbdpfjpcgikaa

namespace Go.Proofs.Ytinbdpfjpcgikaa
open Go Go.RowKit
set_option linter.unusedVariables false
set_option linter.unusedSimpArgs false

theorem ret_k {fn : Func} {p : Tmp} (h : fn.results = #[.cell p 24]) (A : Option Addr) (n c : Nat) (m : Int) (tmps : Array Value) (W : World) (g : Nat) (t : TypeId) (hp : tmps.getD p undef = .pointer (some ⟨g, 0, none⟩)) (hg : Box W g t #[.slice A n c, .int .i64 m]) :
    (results fn tmps).run Try.prog W = .ok (.agg #[.slice A n c, .int .i64 m]) W :=
  results_cell_row h tmps W g t #[.slice A n c, .int .i64 m] (0, 0) _ hp hg Try.underlying24 rfl (by kernel_rfl)
theorem ret_hk {fn : Func} {p : Tmp} (h : fn.results = #[.cell p 27]) (A : Option Addr) (n c : Nat) (m : Int) (tmps : Array Value) (W : World) (g : Nat) (t : TypeId) (hp : tmps.getD p undef = .pointer (some ⟨g, 0, none⟩)) (hg : Box W g t #[.slice A n c, .int .i64 m]) :
    (results fn tmps).run Try.prog W = .ok (.agg #[.slice A n c, .int .i64 m]) W :=
  results_cell_row h tmps W g t #[.slice A n c, .int .i64 m] (0, 0) _ hp hg Try.underlying27 rfl (by kernel_rfl)
set_option maxRecDepth 100000 in
set_option maxHeartbeats 1000000 in
theorem ours_c (A : Option Addr) (n c : Nat) (m : Int) (w : World) : Calls Try.prog 9 #[.agg #[.slice A n c, .int .i64 m]] w fun e w' => e = .returned (.agg #[.slice A n c, .int .i64 m]) ∧ Below w.heap.size w w' := by
  go_enter Try.func9, Try.ntmps9
  go_wp2_with fail
  exact bodyPost_ret (ret_hk rfl A n c m _ _ _ _ rfl (box_at1 w _ _ _)) rfl ⟨rfl, ((Below.refl _ _).alloc (Nat.le_refl _) _).alloc (by simp) _⟩
set_option maxRecDepth 100000 in
set_option maxHeartbeats 1000000 in
theorem theirs_c (A : Option Addr) (n c : Nat) (m : Int) (w : World) : Calls Try.prog 15 #[.agg #[.slice A n c, .int .i64 m]] w fun e w' => e = .returned (.agg #[.slice A n c, .int .i64 m]) ∧ Below w.heap.size w w' := by
  go_enter Try.func15, Try.ntmps15
  go_wp2_with fail
  exact bodyPost_ret (ret_k rfl A n c m _ _ _ _ rfl (box_at1 w _ _ _)) rfl ⟨rfl, ((Below.refl _ _).alloc (Nat.le_refl _) _).alloc (by simp) _⟩
def lineR (r : Int) : Rw := ⟨[⟨r, 0, 0, 1, zeroN⟩], false, 0, false⟩
set_option maxRecDepth 100000 in
set_option maxHeartbeats 1000000 in
theorem line_c (r : Int) (w : World) : Calls Try.prog 30 #[.int .i64 r] w (GivesRow (lineR r) w) := by
  go_enter Try.func30, Try.ntmps30
  go_wp2_with fail
  have hb : Below w.heap.size w ((w.alloc (.cells #[.slice (some ⟨w.heap.size + 1, 0, none⟩) 1 1, .bool false, .int .i64 0, .bool false] 35)).alloc (.cells #[.int .i64 r, .int .i64 0, .int .i64 0, .int .i64 1, .int .i64 0, .int .i64 0, .int .i64 0] 66)) := ((Below.refl _ _).alloc (Nat.le_refl _) _).alloc (by simp) _
  refine bodyPost_ret (ret_rw rfl (lineR r) (some ⟨w.heap.size + 1, 0, none⟩) 1 _ _ w.heap.size 35 rfl ((Box.new w _ _).alloc _)) rfl ⟨some ⟨w.heap.size + 1, 0, none⟩, 1, rfl, ?_, hb⟩
  exact one_in _ _ 66 ⟨r, 0, 0, 1, zeroN⟩ (box_at1 w _ _ _)
set_option maxRecDepth 100000 in
set_option maxHeartbeats 1000000 in
theorem rNewK_c (n : Int) (w : World) (hn : I64 n) : Calls Try.prog 27 #[.int .i64 n] w fun e w' => e = .returned (.agg #[.slice none 0 0, .int .i64 (newK n).cap]) ∧ Below w.heap.size w w' := by
  unfold I64 at hn
  obtain ⟨hn0, hn1⟩ := hn
  generalize hR : (newK n).cap = R
  have HR : Hid (R = max 0 (min n 200)) := Lib.hid (by rw [← hR]; rfl)
  clear hR
  have hb : Below w.heap.size w (w.alloc (.cells #[.slice none 0 0, .int .i64 R] 24)) := (Below.refl _ _).alloc (Nat.le_refl _) _
  have HB := Lib.hid (And.intro hb (Box.new w 24 #[.slice none 0 0, .int .i64 R]))
  clear hb
  go_enter Try.func27, Try.ntmps27
  go_wp2_with fail
  all_goals
    refine bodyPost_ret (ret_k rfl none 0 0 _ _ _ _ 24 rfl (Box.new w 24 _)) rfl ⟨?_, (Below.refl _ _).alloc (Nat.le_refl _) _⟩
    have e := HR.out
    exact congrArg (fun z => Ending.returned (.agg #[.slice none 0 0, .int .i64 z])) (by omega)
set_option maxRecDepth 100000 in
set_option maxHeartbeats 1000000 in
theorem sameK_c (A B : Option Addr) (c d : Nat) (a b : List Rl) (m n : Int) (w : World) (ha : InG w A c a) (hb : InG w B d b) :
    Calls Try.prog 14 #[.agg #[.slice A a.length c, .int .i64 m], .agg #[.slice B b.length d, .int .i64 n]] w fun e w' => e = .returned (.bool (decide ((⟨rws a, m⟩ : Kp) = ⟨rws b, n⟩))) ∧ Below w.heap.size w w' := by
  have hbl : Below w.heap.size w ((w.alloc (.cells #[.slice A a.length c, .int .i64 m] 24)).alloc (.cells #[.slice B b.length d, .int .i64 n] 24)) := ((Below.refl _ _).alloc (Nat.le_refl _) _).alloc (by simp) _
  have hX : Box ((w.alloc (.cells #[.slice A a.length c, .int .i64 m] 24)).alloc (.cells #[.slice B b.length d, .int .i64 n] 24)) w.heap.size 24 #[.slice A a.length c, .int .i64 m] := (Box.new w _ _).alloc _
  have hY : Box ((w.alloc (.cells #[.slice A a.length c, .int .i64 m] 24)).alloc (.cells #[.slice B b.length d, .int .i64 n] 24)) (w.heap.size + 1) 24 #[.slice B b.length d, .int .i64 n] := box_at1 w _ _ _
  have HH := Lib.hid (And.intro hbl (And.intro hX hY))
  have hs := same9_c A B a b c d _ (ha.on hbl) (hb.on hbl)
  by_cases hmn : m = n
  · have em : (m == n) = true := by rw [hmn]; simp
    have hD : decide ((⟨rws a, m⟩ : Kp) = ⟨rws b, n⟩) = decide (rws a = rws b) := decide_eq_decide.2 ⟨fun h => by injection h, fun h => by rw [h, hmn]⟩
    rw [hD]
    generalize decide (rws a = rws b) = R at *
    clear hbl hX hY hD hmn ha hb
    go_enter Try.func14, Try.ntmps14
    go_upto_region 1 with fail
    generalize (w.alloc (.cells #[.slice A a.length c, .int .i64 m] 24)).alloc (.cells #[.slice B b.length d, .int .i64 n] 24) = W at *
    obtain ⟨k0, k1, k2, k3⟩ : W.cell? ⟨w.heap.size, 0, none⟩ = some (.slice A a.length c) ∧ W.cell? ⟨w.heap.size, 1, none⟩ = some (.int .i64 m) ∧ W.cell? ⟨w.heap.size + 1, 0, none⟩ = some (.slice B b.length d) ∧ W.cell? ⟨w.heap.size + 1, 1, none⟩ = some (.int .i64 n) := ⟨HH.out.2.1.cell 0, HH.out.2.1.cell 1, HH.out.2.2.cell 0, HH.out.2.2.cell 1⟩
    go_wp2_with fail
    refine hs.mono ?_
    rintro e v1 ⟨rfl, hv1⟩
    have HV := Lib.hid (HH.out.1.trans (hv1.mono HH.out.1.size))
    clear hv1 hs k0 k1 k2 k3
    go_wp2_with fail
    go_ret
    exact ⟨rfl, HV.out⟩
  · have em : (m == n) = false := by simp [hmn]
    have hD : decide ((⟨rws a, m⟩ : Kp) = ⟨rws b, n⟩) = false := decide_eq_false fun h => hmn (by injection h)
    rw [hD]
    clear hbl hX hY hD hmn ha hb hs
    go_enter Try.func14, Try.ntmps14
    go_upto_region 1 with fail
    generalize (w.alloc (.cells #[.slice A a.length c, .int .i64 m] 24)).alloc (.cells #[.slice B b.length d, .int .i64 n] 24) = W at *
    obtain ⟨k1, k3⟩ : W.cell? ⟨w.heap.size, 1, none⟩ = some (.int .i64 m) ∧ W.cell? ⟨w.heap.size + 1, 1, none⟩ = some (.int .i64 n) := ⟨HH.out.2.1.cell 1, HH.out.2.2.cell 1⟩
    go_wp2_with fail
    go_ret
    exact ⟨rfl, HH.out.1⟩
theorem saneK_bad {es : List Rl} {m : Int} {k : Nat} {e : Rl} (he : es[k]? = some e) (h : ¬ SaneR e.r) : decide (SaneK ⟨rws es, m⟩) = false :=
  decide_eq_false fun q => h (q.1 e.r (List.mem_of_getElem? (rws_at he)))
theorem saneK_all {es : List Rl} {m : Int} (h : ∀ (k : Nat) e, k < es.length → es[k]? = some e → SaneR e.r) : SaneK ⟨rws es, m⟩ ↔ 0 ≤ m ∧ m ≤ 200 ∧ (es.length : Int) ≤ m := by
  have hall : ∀ r ∈ rws es, SaneR r := fun r hr => by
    obtain ⟨x, hx, rfl⟩ := List.mem_map.1 hr
    obtain ⟨k, hk, hk2⟩ := List.getElem_of_mem hx
    exact h k x hk (by rw [List.getElem?_eq_getElem hk, hk2])
  constructor
  · intro q
    have := q.2
    simp only [rws_length] at this
    exact this
  · intro q
    exact ⟨hall, q.1, q.2.1, by simp only [rws_length]; exact q.2.2⟩
set_option maxRecDepth 100000 in
set_option maxHeartbeats 1000000 in
theorem rSaneK_c (A : Option Addr) (c : Nat) (es : List Rl) (m : Int) (w : World) (hin : InG w A c es) (hok : RsOk (rws es)) (hm : I64 m) :
    Calls Try.prog 25 #[.agg #[.slice A es.length c, .int .i64 m]] w fun e w' => e = .returned (.bool (decide (SaneK ⟨rws es, m⟩))) ∧ Below w.heap.size w w' := by
  generalize hR : decide (SaneK ⟨rws es, m⟩) = R
  have hcap := hin.rows.cap
  have hmax := hin.rows.max
  unfold maxLen at hmax
  unfold I64 at hm
  obtain ⟨hm0, hm1⟩ := hm
  have hgb : Below w.heap.size w (w.alloc (.cells #[.slice A es.length c, .int .i64 m] 24)) := (Below.refl _ _).alloc (Nat.le_refl _) _
  have HG := Lib.hid (And.intro (Box.new w 24 #[.slice A es.length c, .int .i64 m]) (And.intro hgb (hin.on hgb)))
  have HR := Lib.hid hR
  have HOK := Lib.hid hok
  clear hR hok hgb hin
  go_enter Try.func25, Try.ntmps25
  go_upto_region 1 with fail
  generalize w.alloc (.cells #[.slice A es.length c, .int .i64 m] 24) = W at *
  have hW0 : Below W.heap.size W W := Below.refl _ _
  go_wp2_with fail
  go_loopw [3] (fun u3 wr => ∃ i : Nat, i ≤ es.length ∧ u3 = .int .i64 (i : Int) ∧ Hid (∀ (k : Nat) e, k < i → es[k]? = some e → SaneR e.r) ∧ Hid (Below W.heap.size W wr)) (fun u3 _ => es.length - (intOf u3).toNat)
  case atStart => exact ⟨0, Nat.zero_le _, rfl, Lib.hid (fun k y h => absurd h (Nat.not_lt_zero _)), Lib.hid hW0⟩
  case round =>
    obtain ⟨i, hi, rfl, HT, HV⟩ := hrel
    clear hW0
    have hbx := HG.out.1.below HV.out HG.out.1.lt
    obtain ⟨k0, k1⟩ : wr.cell? ⟨w.heap.size, 0, none⟩ = some (.slice A es.length c) ∧ wr.cell? ⟨w.heap.size, 1, none⟩ = some (.int .i64 m) := ⟨hbx.cell 0, hbx.cell 1⟩
    clear hbx
    by_cases hlt : i < es.length
    · obtain ⟨x, hx⟩ : ∃ x, es[i]? = some x := ⟨_, List.getElem?_eq_getElem hlt⟩
      have z1 : (i : Int) < (es.length : Int) := by omega
      have hI := HG.out.2.2.on HV.out
      obtain ⟨b, o, rfl, hB, p0, p1, p2, p3⟩ := hI.rows.at_ hx
      have hsn := rSane_c x.r x.A x.c wr (hI.els x (List.mem_of_getElem? hx)) (HOK.out x.r (List.mem_map.2 ⟨x, List.mem_of_getElem? hx, rfl⟩))
      have HX := Lib.hid hx
      clear hI hx hB
      cases hs : decide (SaneR x.r) with
      | false =>
        have HF : Hid (R = false) := Lib.hid (by rw [← HR.out]; exact saneK_bad HX.out (of_decide_eq_false hs))
        rw [hs] at hsn
        clear hs
        go_wp2_with fail
        refine hsn.mono ?_
        rintro e v1 ⟨rfl, hv1⟩
        have HV1 := Lib.hid (HV.out.trans (hv1.mono HV.out.size))
        clear hv1 hsn k0 k1 p0 p1 p2 p3
        go_wp2_with fail
        go_ret
        exact ⟨ret_bool HF.out.symm, HG.out.2.1.trans (HV1.out.mono HG.out.2.1.size)⟩
      | true =>
        rw [hs] at hsn
        have HT1 : Hid (∀ (k : Nat) e, k < i + 1 → es[k]? = some e → SaneR e.r) := Lib.hid (fun k e hk he => by
          rcases Nat.lt_or_ge k i with h | h
          · exact HT.out k e h he
          · obtain rfl : k = i := by omega
            have := HX.out
            rw [he] at this
            injection this with this
            subst this
            exact of_decide_eq_true hs)
        clear hs
        go_wp2_with fail
        refine hsn.mono ?_
        rintro e v1 ⟨rfl, hv1⟩
        have HV1 := Lib.hid (HV.out.trans (hv1.mono HV.out.size))
        clear hv1 hsn k0 k1 p0 p1 p2 p3
        go_wp2_with fail
        exact ⟨⟨i + 1, by omega, by simp, HT1, HV1⟩, by simp [intOf]; omega⟩
    · obtain rfl : i = es.length := by omega
      have z1 : ¬ (es.length : Int) < (es.length : Int) := by omega
      have HD : Hid (R = decide (0 ≤ m ∧ m ≤ 200 ∧ (es.length : Int) ≤ m)) := Lib.hid (by rw [← HR.out]; exact decide_eq_decide.2 (saneK_all HT.out))
      have HBL := Lib.hid (HG.out.2.1.trans (HV.out.mono HG.out.2.1.size))
      rcases (show m < 0 ∨ (0 ≤ m ∧ 200 < m) ∨ (0 ≤ m ∧ m ≤ 200 ∧ m < es.length) ∨ (0 ≤ m ∧ m ≤ 200 ∧ (es.length : Int) ≤ m) by omega) with q | ⟨q, q'⟩ | ⟨q, q', q2⟩ | ⟨q, q', q2⟩
      · have HF : Hid (R = false) := Lib.hid (by rw [HD.out]; exact decide_eq_false (by omega))
        have y1 : ¬ m ≥ 0 := by omega
        go_wp2_with fail
        go_ret
        exact ⟨ret_bool HF.out.symm, HBL.out⟩
      · have HF : Hid (R = false) := Lib.hid (by rw [HD.out]; exact decide_eq_false (by omega))
        have y1 : m ≥ 0 := by omega
        have y2 : ¬ m ≤ 200 := by omega
        go_wp2_with fail
        go_ret
        exact ⟨ret_bool HF.out.symm, HBL.out⟩
      · have HF : Hid (R = false) := Lib.hid (by rw [HD.out]; exact decide_eq_false (by omega))
        have y1 : m ≥ 0 := by omega
        have y3 : ¬ (es.length : Int) ≤ m := by omega
        go_wp2_with fail
        go_ret
        exact ⟨ret_bool HF.out.symm, HBL.out⟩
      · have HF : Hid (R = true) := Lib.hid (by rw [HD.out]; exact decide_eq_true (by omega))
        have y1 : m ≥ 0 := by omega
        go_wp2_with fail
        go_ret
        exact ⟨ret_bool HF.out.symm, HBL.out⟩
end Go.Proofs.Ytinbdpfjpcgikaa

namespace Go.Proofs.Ytinbdpfjpcgikaa
open Go Go.RowKit
set_option linter.unusedVariables false
set_option linter.unusedSimpArgs false

theorem lit_rows (w : World) (g : Nat) (t : TypeId) (l : List Rl) (hl : l.length ≤ maxLen) (h : Box w g t (flatG l).toArray) : RdG w (some ⟨g, 0, none⟩) l.length l := by
  refine ⟨fun _ => ⟨g, 0, rfl, h.lt, fun k e hk j u hu => ?_⟩, Nat.le_refl _, hl⟩
  have hj : j < 4 := (List.getElem?_eq_some_iff.1 hu).1
  have h1 := h.cell (0 + k * 4 + j)
  rw [h1, List.getElem?_toArray, Nat.zero_add, flatG_at hk j hj, hu]
theorem ex10_new : newK 2 = ⟨[], 2⟩ := by decide +kernel
theorem ex10_push : pushK ⟨[], 2⟩ [lineR 65, lineR 66, lineR 67] = ⟨[lineR 66, lineR 67], 2⟩ := by decide +kernel
theorem ex10_at : atK ⟨[lineR 66, lineR 67], 2⟩ 1 = lineR 66 := by decide +kernel
theorem ex10_At : AtK ⟨[lineR 66, lineR 67], 2⟩ 1 := by decide +kernel
theorem ex10_sane : SaneK ⟨[lineR 66, lineR 67], 2⟩ := by decide +kernel
theorem ex10_cells : cellsK ⟨[lineR 66, lineR 67], 2⟩ = 2 := by decide +kernel
theorem ex10_ok : RsOk [lineR 65, lineR 66, lineR 67] := fun r hr => (show SaneR r from by
  simp only [List.mem_cons, List.not_mem_nil, or_false] at hr
  rcases hr with rfl | rfl | rfl <;> decide +kernel).ok
theorem rws_two {es : List Rl} {a b : Rw} (h : rws es = [a, b]) : ∃ x y, es = [x, y] ∧ x.r = a ∧ y.r = b := by
  match es, h with
  | [x, y], h =>
    simp [rws] at h
    exact ⟨x, y, rfl, h.1, h.2⟩
set_option maxRecDepth 100000 in
set_option maxHeartbeats 1000000 in
theorem awake10_c (hn : New10C) (hpush : Push10C) (hat : At10C) (hs : Sane10C) (hc : Cells10C) (w : World) : Calls Try.prog 7 #[] w fun e w' => e = .returned (.bool true) ∧ Below w.heap.size w w' := by
  have h1 := hn 2 w (by unfold I64; decide)
  rw [ex10_new] at h1
  have h2 : ∀ (A : Option Addr) (c : Nat) (V : World) (B : Option Addr) (d : Nat) (fs : List Rl), InG V A c [] → InG V B d fs → rws fs = [lineR 65, lineR 66, lineR 67] → Calls Try.prog 18 #[.agg #[.slice A 0 c, .int .i64 2], .slice B 3 d] V (GivesK ⟨[lineR 66, lineR 67], 2⟩ V) := fun A c V B d fs hA hB hf => by
    have hl : fs.length = 3 := by rw [← rws_length, hf]; rfl
    have h := hpush A c [] 2 B d fs V hA (by simp [RsOk, rws]) (by unfold I64; decide) (by simp) hB (by rw [hf]; exact ex10_ok) (by omega)
    rw [hf, show rws ([] : List Rl) = [] from rfl, ex10_push, hl] at h
    exact h
  have h3 : ∀ (A : Option Addr) (c : Nat) (es : List Rl) (V : World), InG V A c es → rws es = [lineR 66, lineR 67] → Calls Try.prog 12 #[.agg #[.slice A 2 c, .int .i64 2], .int .i64 1] V fun e w' => ∃ (B : Option Addr) (d : Nat), e = .returned (.tuple #[.agg #[.slice B 1 d, .bool false, .int .i64 0, .bool false], .bool true]) ∧ InC w' B d (lineR 66).cs ∧ Below V.heap.size V w' := fun A c es V hA hr => by
    have hl : es.length = 2 := by rw [← rws_length, hr]; rfl
    have h := hat A c es 2 1 V hA (by rw [hr]; exact ex10_sane.ok) (by unfold I64; decide) (by omega) (by unfold I64; decide)
    rw [hr, hl, decide_eq_true ex10_At, ex10_at] at h
    refine h.mono fun e w' ⟨x, he, hx, hxr, hb⟩ => ⟨x.A, x.c, ?_, by rw [hxr] at hx; exact hx, hb⟩
    rw [hxr] at he
    exact he
  have h4 : ∀ (A : Option Addr) (c : Nat) (es : List Rl) (V : World), InG V A c es → rws es = [lineR 66, lineR 67] → Calls Try.prog 24 #[.agg #[.slice A 2 c, .int .i64 2]] V fun e w' => e = .returned (.bool true) ∧ Below V.heap.size V w' := fun A c es V hA hr => by
    have hl : es.length = 2 := by rw [← rws_length, hr]; rfl
    have h := hs A c es 2 V hA (by rw [hr]; exact ex10_sane.ok) (by unfold I64; decide) (by omega)
    rw [hr, hl, decide_eq_true ex10_sane] at h
    exact h
  have h5 : ∀ (A : Option Addr) (c : Nat) (es : List Rl) (V : World), InG V A c es → rws es = [lineR 66, lineR 67] → Calls Try.prog 22 #[.agg #[.slice A 2 c, .int .i64 2]] V fun e w' => e = .returned (.int .i64 2) ∧ Below V.heap.size V w' := fun A c es V hA hr => by
    have hl : es.length = 2 := by rw [← rws_length, hr]; rfl
    have h := hc A c es 2 V hA (by rw [hr]; exact ex10_sane.ok) (by unfold I64; decide) (by omega)
    rw [hr, hl, ex10_cells] at h
    exact h
  have H2 := Lib.hid h2
  have H3 := Lib.hid h3
  have H4 := Lib.hid h4
  have H5 := Lib.hid h5
  clear h2 h3 h4 h5 hn hpush hat hs hc
  go_enter Try.func7, Try.ntmps7
  go_wp2_with fail
  refine h1.mono ?_
  rintro e x1 ⟨A1, c1, es1, rfl, hc1, hr1, hb1⟩
  obtain rfl : es1 = [] := by
    cases es1 with
    | nil => rfl
    | cons x l => simp [rws] at hr1
  have HB1 := Lib.hid (And.intro hc1 hb1)
  clear h1 hc1 hr1 hb1
  go_wp2_with fail
  refine (line_c 65 x1).mono ?_
  rintro e x2 ⟨A2, c2, rfl, hI2, hb2⟩
  have HB2 := Lib.hid (And.intro (HB1.out.1.on hb2) (And.intro (HB1.out.2.trans (hb2.mono HB1.out.2.size)) hI2))
  clear hI2 hb2 HB1
  go_wp2_with fail
  refine (line_c 66 x2).mono ?_
  rintro e x3 ⟨A3, c3, rfl, hI3, hb3⟩
  have HB3 := Lib.hid (And.intro (HB2.out.1.on hb3) (And.intro (HB2.out.2.1.trans (hb3.mono HB2.out.2.1.size)) (And.intro (HB2.out.2.2.on hb3) hI3)))
  clear hI3 hb3 HB2
  go_wp2_with fail
  refine (line_c 67 x3).mono ?_
  rintro e x4 ⟨A4, c4, rfl, hI4, hb4⟩
  have hal : Below x4.heap.size x4 (x4.alloc (.cells (flatG [⟨A2, c2, lineR 65⟩, ⟨A3, c3, lineR 66⟩, ⟨A4, c4, lineR 67⟩]).toArray 35)) := (Below.refl _ _).alloc (Nat.le_refl _) _
  have hbb := hb4.trans (hal.mono hb4.size)
  have hrd := lit_rows _ x4.heap.size 35 [⟨A2, c2, lineR 65⟩, ⟨A3, c3, lineR 66⟩, ⟨A4, c4, lineR 67⟩] (by simp [maxLen]) (Box.new x4 35 _)
  have hIG : InG (x4.alloc (.cells (flatG [⟨A2, c2, lineR 65⟩, ⟨A3, c3, lineR 66⟩, ⟨A4, c4, lineR 67⟩]).toArray 35)) (some ⟨x4.heap.size, 0, none⟩) 3 [⟨A2, c2, lineR 65⟩, ⟨A3, c3, lineR 66⟩, ⟨A4, c4, lineR 67⟩] := ⟨hrd, fun e he => by
    simp only [List.mem_cons, List.not_mem_nil, or_false] at he
    rcases he with rfl | rfl | rfl
    · exact HB3.out.2.2.1.on hbb
    · exact HB3.out.2.2.2.on hbb
    · exact hI4.on hal⟩
  have h2 := H2.out A1 c1 _ (some ⟨x4.heap.size, 0, none⟩) 3 _ (HB3.out.1.on hbb) hIG rfl
  have HB4 := Lib.hid (HB3.out.2.1.trans (hbb.mono HB3.out.2.1.size))
  rw [show (flatG [⟨A2, c2, lineR 65⟩, ⟨A3, c3, lineR 66⟩, ⟨A4, c4, lineR 67⟩]).toArray = #[.slice A2 1 c2, .bool false, .int .i64 0, .bool false, .slice A3 1 c3, .bool false, .int .i64 0, .bool false, .slice A4 1 c4, .bool false, .int .i64 0, .bool false] from rfl] at h2 HB4
  clear hal hbb hrd hIG hI4 hb4 HB3 H2
  rw [show rwV (lineR 65) A2 c2 = .agg #[.slice A2 1 c2, .bool false, .int .i64 0, .bool false] from rfl, show rwV (lineR 66) A3 c3 = .agg #[.slice A3 1 c3, .bool false, .int .i64 0, .bool false] from rfl, show rwV (lineR 67) A4 c4 = .agg #[.slice A4 1 c4, .bool false, .int .i64 0, .bool false] from rfl]
  go_wp2_with fail
  refine h2.mono ?_
  rintro e x5 ⟨A5, c5, es5, rfl, hI5, hr5, hb5⟩
  have hl5 : es5.length = 2 := by rw [← rws_length, hr5]; rfl
  have hal : Below x5.heap.size x5 (x5.alloc (.cells #[.slice A5 2 c5, .int .i64 2] 27)) := (Below.refl _ _).alloc (Nat.le_refl _) _
  have hbq := HB4.out.trans (hb5.mono HB4.out.size)
  have HK := Lib.hid (And.intro (hI5.on hal) (And.intro (Box.new x5 27 #[.slice A5 2 c5, .int .i64 2]) (hbq.trans (hal.mono hbq.size))))
  have HR5 := Lib.hid hr5
  rw [hl5]
  simp only
  clear hI5 hr5 hb5 h2 HB4 hal hbq hl5
  go_upto_region 2 with fail
  generalize hkb : x5.heap.size = kb at *
  generalize x5.alloc (.cells #[.slice A5 2 c5, .int .i64 2] 27) = V at *
  clear hkb
  obtain ⟨k0, k1⟩ : V.cell? ⟨kb, 0, none⟩ = some (.slice A5 2 c5) ∧ V.cell? ⟨kb, 1, none⟩ = some (.int .i64 2) := ⟨HK.out.2.1.cell 0, HK.out.2.1.cell 1⟩
  have h3 := H3.out A5 c5 es5 V HK.out.1 HR5.out
  clear H3
  go_wp2_with fail
  refine h3.mono ?_
  rintro e x6 ⟨B, d, rfl, hI6, hb6⟩
  have hal : Below x6.heap.size x6 (x6.alloc (.cells #[.slice B 1 d, .bool false, .int .i64 0, .bool false] 35)) := (Below.refl _ _).alloc (Nat.le_refl _) _
  have hq := hb6.trans (hal.mono hb6.size)
  have HM := Lib.hid (And.intro (HK.out.1.on hq) (And.intro (HK.out.2.1.below hq HK.out.2.1.lt) (And.intro (HK.out.2.2.trans (hq.mono HK.out.2.2.size)) (And.intro (hI6.on hal) (Box.new x6 35 #[.slice B 1 d, .bool false, .int .i64 0, .bool false])))))
  clear hI6 hb6 h3 hal hq HK k0 k1
  go_upto_region 3 with fail
  generalize hrb : x6.heap.size = rb at *
  generalize x6.alloc (.cells #[.slice B 1 d, .bool false, .int .i64 0, .bool false] 35) = V2 at *
  clear hrb
  obtain ⟨k0, k1⟩ : V2.cell? ⟨kb, 0, none⟩ = some (.slice A5 2 c5) ∧ V2.cell? ⟨kb, 1, none⟩ = some (.int .i64 2) := ⟨HM.out.2.1.cell 0, HM.out.2.1.cell 1⟩
  have r0 : V2.cell? ⟨rb, 0, none⟩ = some (.slice B 1 d) := HM.out.2.2.2.2.cell 0
  obtain ⟨b, o, rfl, -, p0, -⟩ := HM.out.2.2.2.1.at_ (k := 0) (e := ⟨66, 0, 0, 1, zeroN⟩) rfl
  have hcap := HM.out.2.2.2.1.cap
  rw [show (lineR 66).cs.length = 1 from rfl] at hcap
  simp only [Nat.zero_mul, Nat.add_zero] at p0
  have h4 := H4.out A5 c5 es5 V2 HM.out.1 HR5.out
  clear H4
  go_wp2_with fail
  refine h4.mono ?_
  rintro e x7 ⟨rfl, hb7⟩
  have hx7 := HM.out.2.1.below hb7 HM.out.2.1.lt
  have h5 := H5.out A5 c5 es5 x7 (HM.out.1.on hb7) HR5.out
  have HV7 := Lib.hid (HM.out.2.2.1.trans (hb7.mono HM.out.2.2.1.size))
  clear h4 H5 k0 k1 r0 p0 hb7
  obtain ⟨k0, k1⟩ : x7.cell? ⟨kb, 0, none⟩ = some (.slice A5 2 c5) ∧ x7.cell? ⟨kb, 1, none⟩ = some (.int .i64 2) := ⟨hx7.cell 0, hx7.cell 1⟩
  clear hx7
  go_wp2_with fail
  refine h5.mono ?_
  rintro e x8 ⟨rfl, hb8⟩
  have HV8 := Lib.hid (HV7.out.trans (hb8.mono HV7.out.size))
  clear h5 hb8 k0 k1
  go_wp2_with fail
  go_ret
  exact ⟨rfl, HV8.out⟩
end Go.Proofs.Ytinbdpfjpcgikaa

namespace Go.Proofs.Ytinbdpfjpcgikaa
open Go Go.RowKit
set_option linter.unusedVariables false
set_option linter.unusedSimpArgs false

theorem rSaneG_row {es : List Rl} {e0 x : Rl} (h0 : es[0]? = some e0) {k : Nat} (hx : es[k]? = some x) (h : ¬ (SaneR x.r ∧ x.r.cs.length = e0.r.cs.length)) : decide (SaneG (rws es)) = false :=
  decide_eq_false fun q => h (by
    have h1 := q.row (rws_at hx)
    have e : widthG (rws es) = e0.r.cs.length := by unfold widthG; rw [rws_at h0]; rfl
    rw [e] at h1
    exact h1)
theorem rSaneG_all {es : List Rl} (h : ∀ (k : Nat) e, k < es.length → es[k]? = some e → SaneR e.r ∧ e.r.cs.length = widthG (rws es)) : SaneG (rws es) ↔ 1 ≤ es.length ∧ es.length ≤ 1000 := by
  constructor
  · intro q
    have := q.1
    rw [rws_length] at this
    exact this
  · intro q
    refine ⟨by rw [rws_length]; exact q, fun r hr => ?_⟩
    obtain ⟨x, hx, rfl⟩ := List.mem_map.1 hr
    obtain ⟨k, hk, hk2⟩ := List.getElem_of_mem hx
    exact h k x hk (by rw [List.getElem?_eq_getElem hk, hk2])
set_option maxRecDepth 100000 in
set_option maxHeartbeats 1000000 in
theorem rSaneG_c (A : Option Addr) (c : Nat) (es : List Rl) (w : World) (hin : InG w A c es) (hok : RsOk (rws es)) :
    Calls Try.prog 29 #[.agg #[.slice A es.length c]] w fun e w' => e = .returned (.bool (decide (SaneG (rws es)))) ∧ Below w.heap.size w w' := by
  generalize hR : decide (SaneG (rws es)) = R
  have hcap := hin.rows.cap
  have hmax := hin.rows.max
  unfold maxLen at hmax
  have hgb : Below w.heap.size w (w.alloc (.cells #[.slice A es.length c] 49)) := (Below.refl _ _).alloc (Nat.le_refl _) _
  have HG := Lib.hid (And.intro (Box.new w 49 #[.slice A es.length c]) (And.intro hgb (hin.on hgb)))
  have HR := Lib.hid hR
  have HOK := Lib.hid hok
  clear hR hok hgb hin
  go_enter Try.func29, Try.ntmps29
  go_upto_region 1 with fail
  generalize w.alloc (.cells #[.slice A es.length c] 49) = W at *
  have hW0 : Below W.heap.size W W := Below.refl _ _
  go_wp2_with fail
  go_loopw [3] (fun u3 wr => ∃ i : Nat, i ≤ es.length ∧ u3 = .int .i64 (i : Int) ∧ Hid (∀ (k : Nat) e, k < i → es[k]? = some e → SaneR e.r ∧ e.r.cs.length = widthG (rws es)) ∧ Hid (Below W.heap.size W wr)) (fun u3 _ => es.length - (intOf u3).toNat)
  case atStart => exact ⟨0, Nat.zero_le _, rfl, Lib.hid (fun k y h => absurd h (Nat.not_lt_zero _)), Lib.hid hW0⟩
  case round =>
    obtain ⟨i, hi, rfl, HT, HV⟩ := hrel
    clear hW0
    have hbx := HG.out.1.below HV.out HG.out.1.lt
    have k0 : wr.cell? ⟨w.heap.size, 0, none⟩ = some (.slice A es.length c) := hbx.cell 0
    by_cases hlt : i < es.length
    · obtain ⟨x, hx⟩ : ∃ x, es[i]? = some x := ⟨_, List.getElem?_eq_getElem hlt⟩
      obtain ⟨e0, he0⟩ : ∃ e0, es[0]? = some e0 := ⟨_, List.getElem?_eq_getElem (by omega)⟩
      have z1 : (i : Int) < (es.length : Int) := by omega
      have hI := HG.out.2.2.on HV.out
      obtain ⟨b, o, rfl, hB, p0, p1, p2, p3⟩ := hI.rows.at_ hx
      obtain ⟨-, q0, -, -, -⟩ := hI.rows.at2 he0
      simp only [Nat.zero_mul, Nat.add_zero] at q0
      have hsn := fun V (hV : Below wr.heap.size wr V) => rSane_c x.r x.A x.c V ((hI.els x (List.mem_of_getElem? hx)).on hV) (HOK.out x.r (List.mem_map.2 ⟨x, List.mem_of_getElem? hx, rfl⟩))
      have HX := Lib.hid (And.intro hx he0)
      have m0 := Ext.cell (w := wr) (B := wr.heap.size) (p := ⟨b, o + i * 4, none⟩) hB p0
      have m1 := Ext.cell (w := wr) (B := wr.heap.size) (p := ⟨b, o + i * 4 + 1, none⟩) hB p1
      have m2 := Ext.cell (w := wr) (B := wr.heap.size) (p := ⟨b, o + i * 4 + 2, none⟩) hB p2
      have m3 := Ext.cell (w := wr) (B := wr.heap.size) (p := ⟨b, o + i * 4 + 3, none⟩) hB p3
      have m4 := Ext.cell (w := wr) (B := wr.heap.size) (p := ⟨b, o, none⟩) hB q0
      have m5 := Ext.cell (w := wr) (B := wr.heap.size) hbx.lt (show wr.cell? ⟨w.heap.size, 0, none⟩ = some (.slice (some ⟨b, o, none⟩) es.length c) from hbx.cell 0)
      have z0 : (0 : Int) < (es.length : Int) := by omega
      clear hI hx he0 hB p0 p1 p2 p3 q0 hbx
      go_upto_region 4 with fail
      clear k0
      cases hs : decide (SaneR x.r) with
      | false =>
        have HF : Hid (R = false) := Lib.hid (by rw [← HR.out]; exact rSaneG_row HX.out.2 HX.out.1 (fun h => of_decide_eq_false hs h.1))
        rw [hs] at hsn
        have HSN := Lib.hid hsn
        clear hs hsn
        refine region_plan [([0, 1, 2, 3, 4], [5]), ([6, 7, 8, 9, 10, 11, 12, 13, 14, 15, 16, 17, 18, 19, 20, 21, 22], [])] (fun w' => ∃ u : Ext wr wr.heap.size, w' = u.val) (by kernel_rfl) (by kernel_rfl) (fun _ _ _ _ _ h => h) ⟨⟨_, (Below.refl _ _).drew⟩, rfl⟩ ?_
        simp only [wpPlan, sel, List.take_succ_cons, List.take_zero, List.drop_succ_cons, List.drop_zero, List.cons_append, List.nil_append]
        repeat (go_big_quiet_step (fail))
        refine wpQuiet_nil ?_
        unfold wpChain
        go_wp2_with fail
        refine (HSN.out _ (Below.refl _ _).drew).mono ?_
        rintro e v1 ⟨rfl, hv1⟩
        have HV1 : Hid (Below wr.heap.size wr v1) := Lib.hid ((Below.refl wr.heap.size wr).drew.trans hv1)
        clear hv1 HSN
        go_wp2_with fail
        refine ⟨⟨⟨_, HV1.out⟩, rfl⟩, ?_⟩
        unfold wpChain
        try simp only [Act.put, List.setIfInBounds_toArray, List.set_cons_succ, List.set_cons_zero]
        repeat (go_big_quiet_step (fail))
        refine wpQuiet_nil ?_
        unfold wpChain
        go_wp2_with fail
        go_ret
        exact ⟨ret_bool HF.out.symm, HG.out.2.1.trans ((HV.out.trans (HV1.out.mono HV.out.size)).mono HG.out.2.1.size)⟩
      | true =>
        rw [hs] at hsn
        have HSN := Lib.hid hsn
        have HSR := Lib.hid (of_decide_eq_true hs)
        clear hs hsn
        by_cases hw : x.r.cs.length = e0.r.cs.length
        · have ew : ((x.r.cs.length : Int) != (e0.r.cs.length : Int)) = false := by rw [hw]; simp
          have HT1 : Hid (∀ (k : Nat) e, k < i + 1 → es[k]? = some e → SaneR e.r ∧ e.r.cs.length = widthG (rws es)) := Lib.hid (fun k e hk he => by
            rcases Nat.lt_or_ge k i with h | h
            · exact HT.out k e h he
            · obtain rfl : k = i := by omega
              have := HX.out.1
              rw [he] at this
              injection this with this
              subst this
              refine ⟨HSR.out, ?_⟩
              have e : widthG (rws es) = e0.r.cs.length := by unfold widthG; rw [rws_at HX.out.2]; rfl
              rw [e, hw])
          clear hw
          refine region_plan [([0, 1, 2, 3, 4], [5]), ([6, 7, 8, 9, 10, 11, 12, 13, 14, 15, 16, 17, 18, 19, 20, 21, 22], [])] (fun w' => ∃ u : Ext wr wr.heap.size, w' = u.val) (by kernel_rfl) (by kernel_rfl) (fun _ _ _ _ _ h => h) ⟨⟨_, (Below.refl _ _).drew⟩, rfl⟩ ?_
          simp only [wpPlan, sel, List.take_succ_cons, List.take_zero, List.drop_succ_cons, List.drop_zero, List.cons_append, List.nil_append]
          repeat (go_big_quiet_step (fail))
          refine wpQuiet_nil ?_
          unfold wpChain
          go_wp2_with fail
          refine (HSN.out _ (Below.refl _ _).drew).mono ?_
          rintro e v1 ⟨rfl, hv1⟩
          have HV1 : Hid (Below wr.heap.size wr v1) := Lib.hid ((Below.refl wr.heap.size wr).drew.trans hv1)
          clear hv1 HSN
          go_wp2_with fail
          refine ⟨⟨⟨_, HV1.out⟩, rfl⟩, ?_⟩
          unfold wpChain
          try simp only [Act.put, List.setIfInBounds_toArray, List.set_cons_succ, List.set_cons_zero]
          repeat (go_big_quiet_step (fail))
          refine wpQuiet_nil ?_
          unfold wpChain
          have HV2 : Hid (Below W.heap.size W v1) := Lib.hid (HV.out.trans (HV1.out.mono HV.out.size))
          go_wp2_with fail
          exact ⟨⟨i + 1, by omega, by simp, HT1, HV2⟩, by simp [intOf]; omega⟩
        · have ew : ((x.r.cs.length : Int) != (e0.r.cs.length : Int)) = true := by simp; omega
          have HF : Hid (R = false) := Lib.hid (by rw [← HR.out]; exact rSaneG_row HX.out.2 HX.out.1 (fun h => hw h.2))
          clear hw
          refine region_plan [([0, 1, 2, 3, 4], [5]), ([6, 7, 8, 9, 10, 11, 12, 13, 14, 15, 16, 17, 18, 19, 20, 21, 22], [])] (fun w' => ∃ u : Ext wr wr.heap.size, w' = u.val) (by kernel_rfl) (by kernel_rfl) (fun _ _ _ _ _ h => h) ⟨⟨_, (Below.refl _ _).drew⟩, rfl⟩ ?_
          simp only [wpPlan, sel, List.take_succ_cons, List.take_zero, List.drop_succ_cons, List.drop_zero, List.cons_append, List.nil_append]
          repeat (go_big_quiet_step (fail))
          refine wpQuiet_nil ?_
          unfold wpChain
          go_wp2_with fail
          refine (HSN.out _ (Below.refl _ _).drew).mono ?_
          rintro e v1 ⟨rfl, hv1⟩
          have HV1 : Hid (Below wr.heap.size wr v1) := Lib.hid ((Below.refl wr.heap.size wr).drew.trans hv1)
          clear hv1 HSN
          go_wp2_with fail
          refine ⟨⟨⟨_, HV1.out⟩, rfl⟩, ?_⟩
          unfold wpChain
          try simp only [Act.put, List.setIfInBounds_toArray, List.set_cons_succ, List.set_cons_zero]
          repeat (go_big_quiet_step (fail))
          refine wpQuiet_nil ?_
          unfold wpChain
          go_wp2_with fail
          go_ret
          exact ⟨ret_bool HF.out.symm, HG.out.2.1.trans ((HV.out.trans (HV1.out.mono HV.out.size)).mono HG.out.2.1.size)⟩
    · obtain rfl : i = es.length := by omega
      have z1 : ¬ (es.length : Int) < (es.length : Int) := by omega
      have HD : Hid (R = decide (1 ≤ es.length ∧ es.length ≤ 1000)) := Lib.hid (by rw [← HR.out]; exact decide_eq_decide.2 (rSaneG_all HT.out))
      have HBL := Lib.hid (HG.out.2.1.trans (HV.out.mono HG.out.2.1.size))
      clear hbx
      rcases (show es.length < 1 ∨ (1 ≤ es.length ∧ 1000 < es.length) ∨ (1 ≤ es.length ∧ es.length ≤ 1000) by omega) with q | ⟨q, q'⟩ | ⟨q, q'⟩
      · have HF : Hid (R = false) := Lib.hid (by rw [HD.out]; exact decide_eq_false (by omega))
        have y1 : ¬ (es.length : Int) ≥ 1 := by omega
        go_wp2_with fail
        go_ret
        exact ⟨ret_bool HF.out.symm, HBL.out⟩
      · have HF : Hid (R = false) := Lib.hid (by rw [HD.out]; exact decide_eq_false (by omega))
        have y1 : (es.length : Int) ≥ 1 := by omega
        have y2 : ¬ (es.length : Int) ≤ 1000 := by omega
        go_wp2_with fail
        go_ret
        exact ⟨ret_bool HF.out.symm, HBL.out⟩
      · have HF : Hid (R = true) := Lib.hid (by rw [HD.out]; exact decide_eq_true (by omega))
        have y1 : (es.length : Int) ≥ 1 := by omega
        have y2 : (es.length : Int) ≤ 1000 := by omega
        go_wp2_with fail
        go_ret
        exact ⟨ret_bool HF.out.symm, HBL.out⟩
end Go.Proofs.Ytinbdpfjpcgikaa

namespace Go.Proofs.Ytinbdpfjpcgikaa
open Go Go.RowKit
set_option linter.unusedVariables false
set_option linter.unusedSimpArgs false

structure Hk (w V : World) (A : Option Addr) (c : Nat) (es : List Rl) (m : Int) (B : Option Addr) (d : Nat) (fs : List Rl) : Prop where
  bk : Box V w.heap.size 24 #[.slice A es.length c, .int .i64 m]
  ik : InG V A c es
  il : InG V B d fs
  bl : Below w.heap.size w V
theorem Hk.on {w V V' : World} {A : Option Addr} {c : Nat} {es : List Rl} {m : Int} {B : Option Addr} {d : Nat} {fs : List Rl} (h : Hk w V A c es m B d fs) (hb : Below V.heap.size V V') : Hk w V' A c es m B d fs :=
  ⟨h.bk.below hb h.bk.lt, h.ik.on hb, h.il.on hb, h.bl.trans (hb.mono h.bl.size)⟩
theorem Hk.cells {w V : World} {A : Option Addr} {c : Nat} {es : List Rl} {m : Int} {B : Option Addr} {d : Nat} {fs : List Rl} (h : Hk w V A c es m B d fs) : V.cell? ⟨w.heap.size, 0, none⟩ = some (.slice A es.length c) ∧ V.cell? ⟨w.heap.size, 1, none⟩ = some (.int .i64 m) := ⟨h.bk.cell 0, h.bk.cell 1⟩
theorem few_len {l : List Rl} (h : FewR (rws l)) : l.length ≤ 60 := by have := h.1; rw [rws_length] at this; exact this
end Go.Proofs.Ytinbdpfjpcgikaa
