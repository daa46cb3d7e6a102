/- Whether a row may be, as the document says, walked. -/
import Derived.Test.YtcadbapccdclaaaRefMend
import Derived.Test.YtcadbapccdclaaaRefOne
import Derived.Test.YtcadbapccdclaaaRef08
namespace Go.Proofs.Ytcadbapccdclaaa
open Go Go.RowKit
set_option linter.unusedVariables false
set_option linter.unusedSimpArgs false

set_option maxRecDepth 100000 in
set_option maxHeartbeats 1000000 in
theorem rSane_c (r : Rw) (A : Option Addr) (c : Nat) (w : World) (hin : InC w A c r.cs) (hok : RwOk r) : Calls Try.prog 14 #[.agg #[.slice A r.cs.length c, .bool r.wrap, .int .i64 r.dir, .bool r.ex]] w fun e w' => e = .returned (.bool (decide (SaneR r))) ∧ Below w.heap.size w w' := by
  obtain ⟨l, y1, y2, y3⟩ := r
  obtain ⟨hd, hcs⟩ := hok
  have hlen := hin.len
  unfold maxLen at hlen
  simp only at hin hd hcs hlen ⊢
  have hY : Box (w.alloc (.cells #[.slice A l.length c, .bool y1, .int .i64 y2, .bool y3] 35)) w.heap.size 35 #[.slice A l.length c, .bool y1, .int .i64 y2, .bool y3] := Box.new w _ _
  have hb : Below w.heap.size w (w.alloc (.cells #[.slice A l.length c, .bool y1, .int .i64 y2, .bool y3] 35)) := (Below.refl _ _).alloc (Nat.le_refl _) _
  have hin1 := hin.on hb
  generalize hR : decide (SaneR ⟨l, y1, y2, y3⟩) = R
  have HR := Lib.hid hR
  have HC := Lib.hid hcs
  have HIN := Lib.hid hin1
  have HI0 := Lib.hid hin
  have HYB := Lib.hid (And.intro hY hb)
  have hcap := hin.cap
  have hmax := hin.max
  clear hR hcs hin hin1 hY hb
  go_enter Try.func14, Try.ntmps14
  go_upto_region 1 with fail
  generalize w.alloc (.cells #[.slice A l.length c, .bool y1, .int .i64 y2, .bool y3] 35) = W at *
  have hH : Below W.heap.size W W := Below.refl _ _
  go_wp2_with fail
  go_loopw [3] (fun u3 wr => ∃ i : Nat, i ≤ l.length ∧ u3 = .int .i64 (i : Int) ∧ Hid (∀ k y, k < i → l[k]? = some y → OneC y) ∧ Hid (Below W.heap.size W wr)) (fun u3 _ => l.length - (intOf u3).toNat)
  case atStart => exact ⟨0, Nat.zero_le _, rfl, Lib.hid (fun k y h => absurd h (Nat.not_lt_zero _)), Lib.hid hH⟩
  case round =>
    obtain ⟨i, hi, rfl, HT, HV⟩ := hrel
    clear hH
    have hY := HYB.out.1.below HV.out HYB.out.1.lt
    have hbl := HYB.out.2.trans (HV.out.mono HYB.out.2.size)
    obtain ⟨k0, k1, k2, k3⟩ : wr.cell? ⟨w.heap.size, 0, none⟩ = some (.slice A l.length c) ∧ wr.cell? ⟨w.heap.size, 1, none⟩ = some (.bool y1) ∧ wr.cell? ⟨w.heap.size, 2, none⟩ = some (.int .i64 y2) ∧ wr.cell? ⟨w.heap.size, 3, none⟩ = some (.bool y3) := ⟨hY.cell 0, hY.cell 1, hY.cell 2, hY.cell 3⟩
    have hYl := hY.lt
    have HBL := Lib.hid hbl
    clear hY hbl
    by_cases hlt : i < l.length
    · have z1 : (i : Int) < (l.length : Int) := by omega
      obtain ⟨x, hx⟩ : ∃ x, l[i]? = some x := ⟨_, List.getElem?_eq_getElem hlt⟩
      obtain ⟨g, o, rfl, -, p0, p1, p2, p3, p4, p5, p6⟩ := (HIN.out.on HV.out).at_ hx
      have hone := fun V => rOne_c x V (HC.out x (List.mem_of_getElem? hx))
      have HX := Lib.hid hx
      clear hx hYl
      cases hxo : decide (OneC x) with
      | true =>
        rw [hxo] at hone
        have HT2 : Hid (∀ k y, k < i + 1 → l[k]? = some y → OneC y) := Lib.hid fun k y hk hy => by
          rcases Nat.lt_succ_iff_lt_or_eq.1 hk with h | h
          · exact HT.out k y h hy
          · subst h
            have e := HX.out.symm.trans hy
            injection e with e
            subst e
            exact of_decide_eq_true hxo
        have HO := Lib.hid hone
        clear hxo hone
        go_wp2_with fail
        refine (HO.out wr).mono ?_
        rintro e v1 ⟨rfl, hv1⟩
        have HV2 := Lib.hid (HV.out.trans (hv1.mono HV.out.size))
        clear hv1 HO
        go_wp2_with fail
        exact ⟨⟨i + 1, by omega, by go_num, HT2, HV2⟩, by simp [intOf]; omega⟩
      | false =>
        rw [hxo] at hone
        have HS : Hid (R = false) := Lib.hid (by
          rw [← HR.out]
          exact decide_eq_false fun h => of_decide_eq_false hxo (h.2.1 x (List.mem_of_getElem? HX.out)))
        have HO := Lib.hid hone
        clear hxo hone
        go_wp2_with fail
        refine (HO.out wr).mono ?_
        rintro e v1 ⟨rfl, hv1⟩
        have HB2 := Lib.hid (HBL.out.trans (hv1.mono HBL.out.size))
        clear hv1 HO
        go_wp2_with fail
        go_ret
        exact ⟨ret_bool HS.out.symm, HB2.out⟩
    · obtain rfl : i = l.length := by omega
      have z1 : ¬ (l.length : Int) < (l.length : Int) := by omega
      have m0 := Ext.cell (w := wr) (B := wr.heap.size) (p := ⟨w.heap.size, 0, none⟩) hYl k0
      have m1 := Ext.cell (w := wr) (B := wr.heap.size) (p := ⟨w.heap.size, 1, none⟩) hYl k1
      have m2 := Ext.cell (w := wr) (B := wr.heap.size) (p := ⟨w.heap.size, 2, none⟩) hYl k2
      have m3 := Ext.cell (w := wr) (B := wr.heap.size) (p := ⟨w.heap.size, 3, none⟩) hYl k3
      have HALL : Hid (∀ y ∈ l, OneC y) := Lib.hid fun y hy => by
        obtain ⟨k, hk, rfl⟩ := List.getElem_of_mem hy
        exact HT.out k _ hk (List.getElem?_eq_getElem hk)
      clear HT hYl
      go_upto_region 6 with fail
      clear k0 k1 k2 k3
      rcases (show l.length < 1 ∨ (1 ≤ l.length ∧ 4096 < l.length) ∨ (1 ≤ l.length ∧ l.length ≤ 4096) by omega) with q | ⟨q, q'⟩ | ⟨q, q'⟩
      · have z2 : ¬ (l.length : Int) ≥ 1 := by omega
        have HS : Hid (R = false) := Lib.hid (by rw [← HR.out]; exact decide_eq_false fun h => by have := h.1.1; simp only at this; omega)
        refine region_plan [([0, 1, 2, 3, 4, 5, 6, 7, 8, 9, 10, 11, 12, 13, 14, 15, 16, 17, 18, 19, 20, 21, 23], [22, 24]), ([25, 26], [])] (fun w' => ∃ u : Ext wr wr.heap.size, w' = u.val) (by kernel_rfl) (by kernel_rfl) (fun _ _ _ _ _ h => h) ⟨⟨_, (Below.refl _ _).drew⟩, rfl⟩ ?_
        simp only [wpPlan, sel, List.take_succ_cons, List.take_zero, List.drop_succ_cons, List.drop_zero, List.cons_append, List.nil_append]
        repeat (go_big_quiet_step (fail))
        refine wpQuiet_nil ?_
        unfold wpChain
        go_wp2_with fail
        refine ⟨⟨⟨_, (Below.refl _ _).drew⟩, rfl⟩, ?_⟩
        unfold wpChain
        go_wp2_with fail
        refine ⟨⟨⟨_, (Below.refl _ _).drew⟩, rfl⟩, ?_⟩
        unfold wpChain
        repeat (go_big_quiet_step (fail))
        refine wpQuiet_nil ?_
        unfold wpChain
        go_wp2_with fail
        go_ret
        exact ⟨ret_bool HS.out.symm, HBL.out.drew⟩
      · have z2 : (l.length : Int) ≥ 1 := by omega
        have z3 : ¬ (l.length : Int) ≤ 4096 := by omega
        have HS : Hid (R = false) := Lib.hid (by rw [← HR.out]; exact decide_eq_false fun h => by have := h.1.2; simp only at this; omega)
        refine region_plan [([0, 1, 2, 3, 4, 5, 6, 7, 8, 9, 10, 11, 12, 13, 14, 15, 16, 17, 18, 19, 20, 21, 23], [22, 24]), ([25, 26], [])] (fun w' => ∃ u : Ext wr wr.heap.size, w' = u.val) (by kernel_rfl) (by kernel_rfl) (fun _ _ _ _ _ h => h) ⟨⟨_, (Below.refl _ _).drew⟩, rfl⟩ ?_
        simp only [wpPlan, sel, List.take_succ_cons, List.take_zero, List.drop_succ_cons, List.drop_zero, List.cons_append, List.nil_append]
        repeat (go_big_quiet_step (fail))
        refine wpQuiet_nil ?_
        unfold wpChain
        go_wp2_with fail
        refine ⟨⟨⟨_, (Below.refl _ _).drew⟩, rfl⟩, ?_⟩
        unfold wpChain
        go_wp2_with fail
        refine ⟨⟨⟨_, (Below.refl _ _).drew⟩, rfl⟩, ?_⟩
        unfold wpChain
        repeat (go_big_quiet_step (fail))
        refine wpQuiet_nil ?_
        unfold wpChain
        go_wp2_with fail
        go_ret
        exact ⟨ret_bool HS.out.symm, HBL.out.drew⟩
      · have z2 : (l.length : Int) ≥ 1 := by omega
        have z3 : (l.length : Int) ≤ 4096 := by omega
        rcases (show y2 < 0 ∨ (0 ≤ y2 ∧ 2 < y2) ∨ (0 ≤ y2 ∧ y2 ≤ 2) by omega) with qd | ⟨qd, qd'⟩ | ⟨qd, qd'⟩
        · have z4 : ¬ y2 ≥ 0 := by omega
          have HS : Hid (R = false) := Lib.hid (by rw [← HR.out]; exact decide_eq_false fun h => by have := h.2.2.2.1; simp only at this; omega)
          refine region_plan [([0, 1, 2, 3, 4, 5, 6, 7, 8, 9, 10, 11, 12, 13, 14, 15, 16, 17, 18, 19, 20, 21, 23], [22, 24]), ([25, 26], [])] (fun w' => ∃ u : Ext wr wr.heap.size, w' = u.val) (by kernel_rfl) (by kernel_rfl) (fun _ _ _ _ _ h => h) ⟨⟨_, (Below.refl _ _).drew⟩, rfl⟩ ?_
          simp only [wpPlan, sel, List.take_succ_cons, List.take_zero, List.drop_succ_cons, List.drop_zero, List.cons_append, List.nil_append]
          repeat (go_big_quiet_step (fail))
          refine wpQuiet_nil ?_
          unfold wpChain
          go_wp2_with fail
          refine ⟨⟨⟨_, (Below.refl _ _).drew⟩, rfl⟩, ?_⟩
          unfold wpChain
          go_wp2_with fail
          refine ⟨⟨⟨_, (Below.refl _ _).drew⟩, rfl⟩, ?_⟩
          unfold wpChain
          repeat (go_big_quiet_step (fail))
          refine wpQuiet_nil ?_
          unfold wpChain
          go_wp2_with fail
          go_ret
          exact ⟨ret_bool HS.out.symm, HBL.out.drew⟩
        · have z5 : ¬ y2 ≤ 2 := by omega
          have HS : Hid (R = false) := Lib.hid (by rw [← HR.out]; exact decide_eq_false fun h => by have := h.2.2.2.2; simp only at this; omega)
          refine region_plan [([0, 1, 2, 3, 4, 5, 6, 7, 8, 9, 10, 11, 12, 13, 14, 15, 16, 17, 18, 19, 20, 21, 23], [22, 24]), ([25, 26], [])] (fun w' => ∃ u : Ext wr wr.heap.size, w' = u.val) (by kernel_rfl) (by kernel_rfl) (fun _ _ _ _ _ h => h) ⟨⟨_, (Below.refl _ _).drew⟩, rfl⟩ ?_
          simp only [wpPlan, sel, List.take_succ_cons, List.take_zero, List.drop_succ_cons, List.drop_zero, List.cons_append, List.nil_append]
          repeat (go_big_quiet_step (fail))
          refine wpQuiet_nil ?_
          unfold wpChain
          go_wp2_with fail
          refine ⟨⟨⟨_, (Below.refl _ _).drew⟩, rfl⟩, ?_⟩
          unfold wpChain
          go_wp2_with fail
          refine ⟨⟨⟨_, (Below.refl _ _).drew⟩, rfl⟩, ?_⟩
          unfold wpChain
          repeat (go_big_quiet_step (fail))
          refine wpQuiet_nil ?_
          unfold wpChain
          go_wp2_with fail
          go_ret
          exact ⟨ret_bool HS.out.symm, HBL.out.drew⟩
        · have HS : Hid (R = decide ((⟨mendL l, y1, y2, y3⟩ : Rw) = ⟨l, y1, y2, y3⟩)) := Lib.hid (by
            rw [← HR.out]
            refine decide_eq_decide.2 ⟨fun h => ?_, fun h => ?_⟩
            · have := h.2.2.1; simp only at this; rw [this]
            · injection h with h; exact ⟨⟨q, q'⟩, HALL.out, h, qd, qd'⟩)
          have HM : Hid (∀ V, Below wr.heap.size wr V → Calls Try.prog 30 #[.agg #[.slice A l.length c, .bool y1, .int .i64 y2, .bool y3]] V (GivesRow ⟨mendL l, y1, y2, y3⟩ V)) := Lib.hid fun V hV => rMend_c ⟨l, y1, y2, y3⟩ A c V ((HIN.out.on HV.out).on hV) (by simp only; omega)
          have HSM : Hid (∀ V B d, Below wr.heap.size wr V → InC V B d (mendL l) → Calls Try.prog 12 #[.agg #[.slice B (mendL l).length d, .bool y1, .int .i64 y2, .bool y3], .agg #[.slice A l.length c, .bool y1, .int .i64 y2, .bool y3]] V fun e w' => e = .returned (.bool (decide ((⟨mendL l, y1, y2, y3⟩ : Rw) = ⟨l, y1, y2, y3⟩))) ∧ Below V.heap.size V w') := Lib.hid fun V B d hV hB => same_c ⟨mendL l, y1, y2, y3⟩ ⟨l, y1, y2, y3⟩ B A d c V hB ((HIN.out.on HV.out).on hV)
          refine region_plan [([0, 1, 2, 3, 4, 5, 6, 7, 8, 9, 10, 11, 12, 13, 14, 15, 16, 17, 18, 19, 20, 21, 23], [22, 24]), ([25, 26], [])] (fun w' => ∃ u : Ext wr wr.heap.size, w' = u.val) (by kernel_rfl) (by kernel_rfl) (fun _ _ _ _ _ h => h) ⟨⟨_, (Below.refl _ _).drew⟩, rfl⟩ ?_
          simp only [wpPlan, sel, List.take_succ_cons, List.take_zero, List.drop_succ_cons, List.drop_zero, List.cons_append, List.nil_append]
          repeat (go_big_quiet_step (fail))
          refine wpQuiet_nil ?_
          unfold wpChain
          go_wp2_with fail
          refine (HM.out _ (Below.refl wr.heap.size wr).drew).mono ?_
          rintro e v1 ⟨B, d, rfl, hB, hv1⟩
          have HV1 : Below wr.heap.size wr v1 := (Below.refl wr.heap.size wr).drew.trans hv1
          have HB1 := Lib.hid hB
          clear hv1 hB HM
          simp only [rwV_eq]
          go_wp2_with fail
          refine ⟨⟨⟨_, HV1⟩, rfl⟩, ?_⟩
          unfold wpChain
          go_wp2_with fail
          refine (HSM.out _ B d HV1 HB1.out).mono ?_
          rintro e v2 ⟨rfl, hv2⟩
          have HV2 : Below wr.heap.size wr v2 := HV1.trans (hv2.mono HV1.size)
          rw [← HS.out]
          clear hv2 HSM HV1
          go_wp2_with fail
          refine ⟨⟨⟨_, HV2⟩, rfl⟩, ?_⟩
          unfold wpChain
          repeat (go_big_quiet_step (fail))
          refine wpQuiet_nil ?_
          unfold wpChain
          go_wp2_with fail
          go_ret
          exact ⟨ret_bool rfl, HBL.out.trans (HV2.mono HBL.out.size)⟩
end Go.Proofs.Ytcadbapccdclaaa
