/- PenBack over the contracts. -/
import Derived.Test.YtlcnlfjjglcobaaDoorAwake07
namespace Go.Proofs.YtlcnlfjjglcobaaDoor
open Go Go.RowKit
set_option linter.unusedVariables false
set_option linter.unusedSimpArgs false

theorem and_both_all : allF (fun f => decide (bits .and .i64 f 264 = 264) == bothN f) = true := by decide +kernel
theorem and_both {f : Int} (hf : Fl f) : (bits .and .i64 f 264 == 264) = bothN f := by
  have h := allF_spec and_both_all hf
  have h2 := eq_of_beq h
  rw [← h2]
  by_cases e : bits .and .i64 f 264 = 264
  · rw [decide_eq_true e, e]; rfl
  · rw [decide_eq_false e]; exact beq_eq_false_iff_ne.2 e
theorem both_ge_all : allF (fun f => !bothN f || decide (8 ≤ f)) = true := by decide +kernel
theorem both_ge {f : Int} (hf : Fl f) (h : bothN f = true) : 8 ≤ f := by
  have := allF_spec both_ge_all hf
  rw [h] at this
  simpa using this
/-- Two pens in the law's own variables. -/
structure TwoP (w W : World) (p q : Pn) : Prop where
  b1 : Box W w.heap.size 23 #[.int .i64 p.fg, .int .i64 p.bg, .int .i64 p.fl]
  b2 : Box W (w.heap.size + 1) 23 #[.int .i64 q.fg, .int .i64 q.bg, .int .i64 q.fl]
  bel : Below w.heap.size w W
theorem TwoP.new (w : World) (p q : Pn) : TwoP w ((w.alloc (.cells #[.int .i64 p.fg, .int .i64 p.bg, .int .i64 p.fl] 23)).alloc (.cells #[.int .i64 q.fg, .int .i64 q.bg, .int .i64 q.fl] 23)) p q := by
  refine ⟨Box.pen.alloc _, ?_, ((Below.refl _ _).alloc (Nat.le_refl _) _).alloc (by simp) _⟩
  have := Box.new (w.alloc (.cells #[.int .i64 p.fg, .int .i64 p.bg, .int .i64 p.fl] 23)) 23 #[.int .i64 q.fg, .int .i64 q.bg, .int .i64 q.fl]
  simpa using this
theorem TwoP.on {w W W' : World} {p q : Pn} (h : TwoP w W p q) (hb : Below W.heap.size W W') : TwoP w W' p q :=
  ⟨h.b1.below hb h.b1.lt, h.b2.below hb h.b2.lt, h.bel.trans (hb.mono h.bel.size)⟩
theorem TwoP.less {w W : World} {p q : Pn} (h : TwoP w W p q) (n : Int) : TwoP w (W.setCell ⟨w.heap.size, 2, none⟩ (.int .i64 n)) ⟨p.fg, p.bg, n⟩ q := by
  refine ⟨?_, h.b2.far (by simp) _, h.bel.setCell (by simp) _⟩
  have := h.b1.set_ 2 (.int .i64 n)
  simpa using this
set_option maxRecDepth 100000 in
set_option maxHeartbeats 4000000 in
theorem pback_law (hp : ParseC) (hs : Sane7C) (ha : Apply7C) (hpr : Print7C) (p q : Pn) (hp1 : PnOk p) (hq1 : PnOk q) (w : World) (hT : Tog w) :
    Calls Tryd.prog 3 #[pnV p, pnV q] w fun e w' => e = .returned (.bool true) ∧ Below w.heap.size w w' := by
  have HE0 := TwoP.new w p q
  obtain ⟨fg, bg, fl⟩ := p
  obtain ⟨gg, hg, gl⟩ := q
  have v1 : pnV ⟨fg, bg, fl⟩ = .agg #[.int .i64 fg, .int .i64 bg, .int .i64 fl] := rfl
  have v2 : pnV ⟨gg, hg, gl⟩ = .agg #[.int .i64 gg, .int .i64 hg, .int .i64 gl] := rfl
  rw [v1, v2]
  have hawake := awake7_c hp hs ha hpr ((w.alloc (.cells #[.int .i64 fg, .int .i64 bg, .int .i64 fl] 23)).alloc (.cells #[.int .i64 gg, .int .i64 hg, .int .i64 gl] 23)) (hT.on HE0.bel)
  have hsp := fun V => hs ⟨fg, bg, fl⟩ V hp1
  have hsq := fun V => hs ⟨gg, hg, gl⟩ V hq1
  have hprp := fun V => hpr ⟨fg, bg, fl⟩ V hp1
  rw [v1] at hsp hprp
  rw [v2] at hsq
  have HS := Lib.hid (And.intro hsp (And.intro hsq hprp))
  have HE := Lib.hid HE0
  clear hsp hsq hprp HE0
  go_enter Tryd.func3, Tryd.ntmps3
  go_wp2_with fail
  refine hawake.mono ?_
  rintro e w1 ⟨rfl, hb1⟩
  have hE := HE.out.on hb1
  clear hawake HE hb1
  obtain ⟨⟨k0, k1, k2⟩, -⟩ := hE.b1.three
  have h1 := HS.out.1 w1
  by_cases hsane : SaneN ⟨fg, bg, fl⟩
  · rw [decide_eq_true hsane] at h1
    have HE := Lib.hid hE
    clear hE
    go_wp2_with fail
    refine h1.mono ?_
    rintro e w2 ⟨rfl, hb2⟩
    have hE := HE.out.on hb2
    clear h1 k0 k1 k2 HE hb2
    obtain ⟨⟨k0, k1, k2⟩, -⟩ := hE.b2.three
    have h1 := HS.out.2.1 w2
    by_cases hsane2 : SaneN ⟨gg, hg, gl⟩
    · rw [decide_eq_true hsane2] at h1
      have HE := Lib.hid hE
      clear hE
      go_wp2_with fail
      refine h1.mono ?_
      rintro e w3 ⟨rfl, hb3⟩
      have hE := HE.out.on hb3
      clear h1 k0 k1 k2 HE hb3
      obtain ⟨⟨k0, k1, k2⟩, -⟩ := hE.b1.three
      have h1 := HS.out.2.2 w3 (hT.on hE.bel)
      unfold GivesM at h1
      have HE := Lib.hid hE
      clear hE
      go_wp2_with fail
      refine h1.mono ?_
      rintro e w4 ⟨A, c, es, rfl, hin, hq, hoff, hb4⟩
      have hlt := HE.out.b1.lt
      have hoff := hoff _ hlt
      have hE := HE.out.on hb4
      clear h1 k0 k1 k2 HE hb4
      obtain ⟨⟨k0, k1, k2⟩, -, -, f2⟩ := hE.b1.three
      have hand := and_both ⟨hsane.2.2.1, hsane.2.2.2⟩
      have hpos : 1 ≤ es.length := by rw [← qs_length, hq]; exact print_pos hsane
      simp only at hand
      have hap := fun V => ha ⟨gg, hg, gl⟩ A c es V hq1
      have hap0 := fun V => ha zeroN A c es V zero_ok
      have v0 : pnV zeroN = .agg #[.int .i64 0, .int .i64 0, .int .i64 0] := rfl
      rw [hq, apply_print hsane hsane2, v2] at hap
      rw [hq, apply_print hsane zeroN_sane, v0] at hap0
      have hnums := print_nums ⟨fg, bg, fl⟩
      have hnums := print_nums ⟨fg, bg, fl⟩
      by_cases hboth : bothN fl = true
      · have h8 := both_ge ⟨hsane.2.2.1, hsane.2.2.2⟩ hboth
        have h511 := hsane.2.2.2
        simp only at h8 h511
        rw [hboth] at hand
        have hdrop : pnV (dropN ⟨fg, bg, fl⟩) = .agg #[.int .i64 fg, .int .i64 bg, .int .i64 (fl - 8)] := by
          unfold dropN; rw [if_pos hboth]; rfl
        have hwr : wrap64 (fl - 8) = fl - 8 := by unfold wrap64; omega
        rw [hdrop] at hap hap0
        have HA := Lib.hid (And.intro hap (And.intro hap0 (And.intro hin (And.intro hE (And.intro hoff hnums)))))
        clear hap hap0 hin hE hoff hnums hdrop hboth hlt hq
        go_wp2_with fail
        obtain ⟨hap, hap0, hin, hE, hoff, hnums⟩ := HA.out
        have hE2 := hE.less (fl - 8)
        have hin2 := hin.off hoff ⟨w.heap.size, 2, none⟩ rfl (.int .i64 (fl - 8))
        clear HA
        generalize w4.setCell ⟨w.heap.size, 2, none⟩ (.int .i64 (fl - 8)) = W5 at *
        have p0 := Ext.cell (w := W5) (B := W5.heap.size) hE2.b1.lt (show W5.cell? ⟨w.heap.size, 0, none⟩ = some (.int .i64 fg) from hE2.b1.cell 0)
        have p1 := Ext.cell (w := W5) (B := W5.heap.size) hE2.b1.lt (show W5.cell? ⟨w.heap.size, 1, none⟩ = some (.int .i64 bg) from hE2.b1.cell 1)
        have p2 := Ext.cell (w := W5) (B := W5.heap.size) hE2.b1.lt (show W5.cell? ⟨w.heap.size, 2, none⟩ = some (.int .i64 (fl - 8)) from hE2.b1.cell 2)
        have q0 := Ext.cell (w := W5) (B := W5.heap.size) hE2.b2.lt (show W5.cell? ⟨w.heap.size + 1, 0, none⟩ = some (.int .i64 gg) from hE2.b2.cell 0)
        have q1 := Ext.cell (w := W5) (B := W5.heap.size) hE2.b2.lt (show W5.cell? ⟨w.heap.size + 1, 1, none⟩ = some (.int .i64 hg) from hE2.b2.cell 1)
        have q2 := Ext.cell (w := W5) (B := W5.heap.size) hE2.b2.lt (show W5.cell? ⟨w.heap.size + 1, 2, none⟩ = some (.int .i64 gl) from hE2.b2.cell 2)
        have hT5 := hT.on hE2.bel
        have HC1 := Lib.hid (fun (V : World) (hV : Below W5.heap.size W5 V) => hap V (hin2.on hV) hnums (hT5.on hV))
        have HC2 := Lib.hid (fun (V : World) (hV : Below W5.heap.size W5 V) => hap0 V (hin2.on hV) hnums (hT5.on hV))
        have HE2 := Lib.hid hE2.bel
        clear hT5 hin hap hap0 hnums hE hin2 hE2 hoff k0 k1 k2 f2 HS
        refine region_plan [([0, 1, 2, 3, 5], [4]), ([6, 7, 8, 9, 10, 12], [11]), ([13, 14, 15, 16, 17, 18, 19, 20], [])] (fun w' => ∃ u : Ext W5 W5.heap.size, w' = u.val) (by kernel_rfl) (by kernel_rfl) (fun _ _ _ _ _ h => h) ⟨⟨_, (Below.refl _ _).drew⟩, rfl⟩ ?_
        simp only [wpPlan, sel, List.take_succ_cons, List.take_zero, List.drop_succ_cons, List.drop_zero, List.cons_append, List.nil_append]
        repeat (go_big_quiet_step (fail))
        refine wpQuiet_nil ?_
        unfold wpChain
        go_wp2_with fail
        refine (HC1.out _ (Below.refl W5.heap.size W5).drew).mono ?_
        rintro e v1 ⟨rfl, hv1⟩
        have HV1 : Below W5.heap.size W5 v1 := (Below.refl W5.heap.size W5).drew.trans hv1
        clear hv1 HC1
        go_wp2_with fail
        refine ⟨⟨⟨_, HV1⟩, rfl⟩, ?_⟩
        unfold wpChain
        repeat (go_big_quiet_step (fail))
        refine wpQuiet_nil ?_
        unfold wpChain
        go_wp2_with fail
        refine (HC2.out _ HV1).mono ?_
        rintro e v2 ⟨rfl, hv2⟩
        have HV2 : Below W5.heap.size W5 v2 := HV1.trans (hv2.mono HV1.size)
        clear hv2 HC2 HV1
        go_wp2_with fail
        refine ⟨⟨⟨_, HV2⟩, rfl⟩, ?_⟩
        unfold wpChain
        repeat (go_big_quiet_step (fail))
        refine wpQuiet_nil ?_
        unfold wpChain
        go_wp2_with fail
        go_ret
        exact ⟨ret_bool (decide_eq_true (by omega)), HE2.out.trans (HV2.mono HE2.out.size)⟩
      · have hdrop : pnV (dropN ⟨fg, bg, fl⟩) = .agg #[.int .i64 fg, .int .i64 bg, .int .i64 fl] := by
          unfold dropN; rw [if_neg hboth]; rfl
        rw [Bool.not_eq_true _ |>.mp hboth] at hand
        rw [hdrop] at hap hap0
        have HA := Lib.hid (And.intro hap (And.intro hap0 (And.intro hin (And.intro hE hnums))))
        clear hap hap0 hin hE hoff hnums hdrop hboth hlt hq
        go_wp2_with fail
        obtain ⟨hap, hap0, hin2, hE2, hnums⟩ := HA.out
        clear HA
        have p0 := Ext.cell (w := w4) (B := w4.heap.size) hE2.b1.lt (show w4.cell? ⟨w.heap.size, 0, none⟩ = some (.int .i64 fg) from hE2.b1.cell 0)
        have p1 := Ext.cell (w := w4) (B := w4.heap.size) hE2.b1.lt (show w4.cell? ⟨w.heap.size, 1, none⟩ = some (.int .i64 bg) from hE2.b1.cell 1)
        have p2 := Ext.cell (w := w4) (B := w4.heap.size) hE2.b1.lt (show w4.cell? ⟨w.heap.size, 2, none⟩ = some (.int .i64 fl) from hE2.b1.cell 2)
        have q0 := Ext.cell (w := w4) (B := w4.heap.size) hE2.b2.lt (show w4.cell? ⟨w.heap.size + 1, 0, none⟩ = some (.int .i64 gg) from hE2.b2.cell 0)
        have q1 := Ext.cell (w := w4) (B := w4.heap.size) hE2.b2.lt (show w4.cell? ⟨w.heap.size + 1, 1, none⟩ = some (.int .i64 hg) from hE2.b2.cell 1)
        have q2 := Ext.cell (w := w4) (B := w4.heap.size) hE2.b2.lt (show w4.cell? ⟨w.heap.size + 1, 2, none⟩ = some (.int .i64 gl) from hE2.b2.cell 2)
        have hT5 := hT.on hE2.bel
        have HC1 := Lib.hid (fun (V : World) (hV : Below w4.heap.size w4 V) => hap V (hin2.on hV) hnums (hT5.on hV))
        have HC2 := Lib.hid (fun (V : World) (hV : Below w4.heap.size w4 V) => hap0 V (hin2.on hV) hnums (hT5.on hV))
        have HE2 := Lib.hid hE2.bel
        clear hT5 hap hap0 hnums hin2 hE2 k0 k1 k2 f2 HS
        refine region_plan [([0, 1, 2, 3, 5], [4]), ([6, 7, 8, 9, 10, 12], [11]), ([13, 14, 15, 16, 17, 18, 19, 20], [])] (fun w' => ∃ u : Ext w4 w4.heap.size, w' = u.val) (by kernel_rfl) (by kernel_rfl) (fun _ _ _ _ _ h => h) ⟨⟨_, (Below.refl _ _).drew⟩, rfl⟩ ?_
        simp only [wpPlan, sel, List.take_succ_cons, List.take_zero, List.drop_succ_cons, List.drop_zero, List.cons_append, List.nil_append]
        repeat (go_big_quiet_step (fail))
        refine wpQuiet_nil ?_
        unfold wpChain
        go_wp2_with fail
        refine (HC1.out _ (Below.refl w4.heap.size w4).drew).mono ?_
        rintro e v1 ⟨rfl, hv1⟩
        have HV1 : Below w4.heap.size w4 v1 := (Below.refl w4.heap.size w4).drew.trans hv1
        clear hv1 HC1
        go_wp2_with fail
        refine ⟨⟨⟨_, HV1⟩, rfl⟩, ?_⟩
        unfold wpChain
        repeat (go_big_quiet_step (fail))
        refine wpQuiet_nil ?_
        unfold wpChain
        go_wp2_with fail
        refine (HC2.out _ HV1).mono ?_
        rintro e v2 ⟨rfl, hv2⟩
        have HV2 : Below w4.heap.size w4 v2 := HV1.trans (hv2.mono HV1.size)
        clear hv2 HC2 HV1
        go_wp2_with fail
        refine ⟨⟨⟨_, HV2⟩, rfl⟩, ?_⟩
        unfold wpChain
        repeat (go_big_quiet_step (fail))
        refine wpQuiet_nil ?_
        unfold wpChain
        go_wp2_with fail
        go_ret
        exact ⟨ret_bool (decide_eq_true (by omega)), HE2.out.trans (HV2.mono HE2.out.size)⟩
    · rw [decide_eq_false hsane2] at h1
      have HE := Lib.hid hE
      clear hE
      go_wp2_with fail
      refine h1.mono ?_
      rintro e w3 ⟨rfl, hb3⟩
      have hE := HE.out.on hb3
      clear h1 k0 k1 k2 HE hb3
      obtain ⟨⟨k0, k1, k2⟩, -⟩ := hE.b1.three
      have h1 := HS.out.1 w3
      rw [decide_eq_true hsane] at h1
      have HE := Lib.hid hE
      clear hE
      go_wp2_with fail
      refine h1.mono ?_
      rintro e w4 ⟨rfl, hb4⟩
      have hE := HE.out.on hb4
      clear h1 k0 k1 k2 HE hb4
      go_wp2_with fail
      go_ret
      exact ⟨rfl, hE.bel⟩
  · rw [decide_eq_false hsane] at h1
    have HE := Lib.hid hE
    clear hE
    go_wp2_with fail
    refine h1.mono ?_
    rintro e w2 ⟨rfl, hb2⟩
    have hE := HE.out.on hb2
    clear h1 k0 k1 k2 HE hb2
    obtain ⟨⟨k0, k1, k2⟩, -⟩ := hE.b1.three
    have h1 := HS.out.1 w2
    rw [decide_eq_false hsane] at h1
    have HE := Lib.hid hE
    clear hE
    go_wp2_with fail
    refine h1.mono ?_
    rintro e w3 ⟨rfl, hb3⟩
    have hE := HE.out.on hb3
    clear h1 k0 k1 k2 HE hb3
    obtain ⟨⟨k0, k1, k2⟩, -⟩ := hE.b1.three
    have h1 := HS.out.2.2 w3 (hT.on hE.bel)
    have e0 : printN ⟨fg, bg, fl⟩ = [] := by unfold printN; rw [if_neg hsane]
    rw [e0] at h1
    unfold GivesM at h1
    have HE := Lib.hid hE
    clear hE e0
    go_wp2_with fail
    refine h1.mono ?_
    rintro e w4 ⟨A, c, es, rfl, hin, hq, -, hb4⟩
    have hl : es.length = 0 := by rw [← qs_length, hq]; rfl
    rw [hl]
    have hE := HE.out.on hb4
    clear h1 k0 k1 k2 HE hb4 hin hl hq
    go_wp2_with fail
    go_ret
    exact ⟨rfl, hE.bel⟩
end Go.Proofs.YtlcnlfjjglcobaaDoor
