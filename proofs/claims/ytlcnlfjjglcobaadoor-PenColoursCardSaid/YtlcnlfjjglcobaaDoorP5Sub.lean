/- The maker's sub. -/
import Derived.Test.YtlcnlfjjglcobaaDoorP5Dig
namespace Go.Proofs.YtlcnlfjjglcobaaDoor
open Go Go.RowKit
set_option linter.unusedVariables false
set_option linter.unusedSimpArgs false

theorem lastLen_snoc (l : List (List Int)) (q : List Int) : lastLen (l ++ [q]) = q.length := by simp [lastLen]
set_option maxRecDepth 100000 in
set_option maxHeartbeats 4000000 in
theorem sub_m (w : World) (base G : Nat) (A : Option Addr) (c : Nat) (es : List El) (o : Bool) (x : Int) (h : Mk w base G A c es o) (hs : SaneP ⟨qs es, o⟩) :
    Calls Tryd.prog 30 #[.pointer (some ⟨G, 0, none⟩), .int .u8 x] w (MkGives base G (rSub ⟨qs es, o⟩) w) := by
  obtain ⟨i0, hi, hz0, hz1, hz2⟩ := info_parts infoInt
  have hlen := hs.few
  simp only [qs_length] at hlen
  have hb := begin_c w base G A c es o h (by omega)
  have hbs := begin_sane hs
  have hbn := begin_ne ⟨qs es, o⟩
  have hr : rSub ⟨qs es, o⟩ = if (beginP ⟨qs es, o⟩).o = true ∧ lastLen (beginP ⟨qs es, o⟩).l < 6 then ⟨lastMod (fun q => q ++ [-1]) (beginP ⟨qs es, o⟩).l, true⟩ else ⟨(beginP ⟨qs es, o⟩).l, false⟩ := rfl
  generalize rSub ⟨qs es, o⟩ = r at *
  generalize beginP ⟨qs es, o⟩ = p at *
  obtain ⟨l, q, hl⟩ := snoc_of hbn
  obtain ⟨pl, po⟩ := p
  simp only at hl
  subst hl
  have hone := hbs.each q (by simp)
  have hql := hone.1
  have hql2 := hone.2.1
  have hll : l.length ≤ 15 := by have := hbs.few; simp at this; omega
  simp only [lastMod_snoc, lastLen_snoc] at hr
  have HR := Lib.hid hr
  clear hr h hs hbs hbn hlen hone
  go_enter Tryd.func30, Tryd.ntmps30
  go_wp2_with fail
  refine hb.mono ?_
  rintro e w1 ⟨rfl, A1, c1, es1, h1, hq, hbel⟩
  simp only at hq h1
  obtain ⟨init, el, rfl, hqi, hqe⟩ := qs_snoc hq
  obtain ⟨eA, ec, eq⟩ := el
  simp only at hqe
  subst hqe
  have hil : init.length ≤ 15 := by rw [← qs_length, hqi]; exact hll
  clear hq hll hb
  have hcap := h1.cap
  have hcapE := h1.capE (e := ⟨eA, ec, eq⟩) (by simp)
  have h1own := h1.own
  have h1el : w1.ownsRow base 3 1 (.slice eA eq.length ec) eq.length (eq.map intV) := h1.els ⟨eA, ec, eq⟩ (by simp)
  obtain ⟨gA, rfl, hgA, hcA, hfA⟩ := own_at h1own (by simp)
  obtain ⟨gE, rfl, hgE, -, -⟩ := own_at h1el (by omega)
  have d1 : w1.cell? ⟨gA, init.length, none⟩ = some (.slice (some ⟨gE, 0, none⟩) eq.length ec) := hcA init.length (elV ⟨some ⟨gE, 0, none⟩, ec, eq⟩) (by simp)
  have c0 : w1.cell? ⟨G, 0, none⟩ = some (.slice (some ⟨gA, 0, none⟩) (init.length + 1) c1) := by
    have := h1.box.cell 0
    simpa using this
  have c1' : w1.cell? ⟨G, 1, none⟩ = some (.bool po) := h1.box.cell 1
  have f1 := h1.box.free 1
  simp only [List.length_append, List.length_cons, List.length_nil, Nat.zero_add] at hcap
  unfold maxLen at hcap hcapE
  simp only at hcapE
  obtain ⟨hcap1, hcap2⟩ := hcap
  obtain ⟨hcapE1, hcapE2⟩ := hcapE
  have HH := Lib.hid h1
  have HQ := Lib.hid hqi
  have hc1f : (w1.setCell ⟨G, 1, none⟩ (.bool false)).cell? ⟨G, 1, none⟩ = some (.bool false) := (h1.setO false).box.cell 1
  have hc1t : (w1.setCell ⟨G, 1, none⟩ (.bool true)).cell? ⟨G, 1, none⟩ = some (.bool true) := (h1.setO true).box.cell 1
  clear h1 h1own h1el hcA hfA hqi
  by_cases hgo : po = true ∧ eq.length < 6
  · obtain ⟨rfl, h6⟩ := hgo
    have hlt : ((eq.length : Int) < 6) := by omega
    go_upto_region 4 with fail
    have hbelW : Below base w (w1.setCell ⟨G, 1, none⟩ (.bool true)) := hbel.trans (setO_below _ HH.out.hG _ 1)
    have hmW := HH.out.setO true
    clear c0 c1' f1 d1 hc1f hc1t HH hbel
    generalize w1.setCell ⟨G, 1, none⟩ (.bool true) = W at *
    have hown : W.ownsRow base 3 1 (.slice (some ⟨gE, 0, none⟩) eq.length ec) eq.length (eq.map intV) := hmW.els ⟨some ⟨gE, 0, none⟩, ec, eq⟩ (by simp)
    obtain ⟨gA', ea, hgA', hcA, hfA⟩ := own_at hmW.own (by simp)
    injection ea with ea; injection ea with ea; subst ea
    have c0 : W.cell? ⟨G, 0, none⟩ = some (.slice (some ⟨gA, 0, none⟩) (init.length + 1) c1) := by
      have := hmW.box.cell 0
      simpa using this
    have d1 : W.cell? ⟨gA, init.length, none⟩ = some (.slice (some ⟨gE, 0, none⟩) eq.length ec) := hcA init.length (elV ⟨some ⟨gE, 0, none⟩, ec, eq⟩) (by simp)
    have g0 : ∀ u : Has (fun V => V.cell? ⟨G, 0, none⟩ = some (.slice (some ⟨gA, 0, none⟩) (init.length + 1) c1)), u.val.cell? ⟨G, 0, none⟩ = some (.slice (some ⟨gA, 0, none⟩) (init.length + 1) c1) := fun u => u.ok
    have hne : Nonempty (Has (fun V => V.cell? ⟨G, 0, none⟩ = some (.slice (some ⟨gA, 0, none⟩) (init.length + 1) c1))) := ⟨⟨W, c0⟩⟩
    have hb1 : Below W.heap.size W ((W.alloc (.cells #[.int .i64 (-1)] 3)).drew) := ((Below.refl _ _).alloc (Nat.le_refl _) _).drew
    have d1d : W.drew.cell? ⟨gA, init.length, none⟩ = some (.slice (some ⟨gE, 0, none⟩) eq.length ec) := d1
    have d1a := (hb1.cell (p := ⟨gA, init.length, none⟩) hgA').trans d1
    have c0a := (hb1.cell (p := ⟨G, 0, none⟩) hmW.box.lt).trans c0
    have HC0 := Lib.hid c0
    have HC0a := Lib.hid c0a
    have hm1 := hmW.below hb1
    have hown1 := own_below hown hb1
    have hR : Rd intV (W.alloc (.cells #[.int .i64 (-1)] 3)).drew (W.alloc (.cells #[.int .i64 (-1)] 3)).drew.heap.size (some ⟨W.heap.size, 0, none⟩) [(-1 : Int)] := Rd.of_box (f := intV) (Box.new W _ #[.int .i64 (-1)]).drew
    have hbase : base ≤ (W.alloc (.cells #[.int .i64 (-1)] 3)).drew.heap.size := hm1.base_le
    have HM := Lib.hid hmW
    have HM1 := Lib.hid hm1
    have HB := Lib.hid hbelW
    have HB1 := Lib.hid hb1
    have HR1 := Lib.hid hR
    have HO1 := Lib.hid hown1
    clear hmW hm1 hbelW hb1 hown d1 hcA hfA c0 c0a hR hown1
    refine region_plan2 [([0, 1, 2, 3, 4, 5, 6, 7, 8, 9, 10, 11, 12], [])] 4 13 14 [([], [14, 15]), ([16], [17])] [([], [13, 15]), ([16], [17])] (fun w' => ∃ u : Has (fun V => V.cell? ⟨G, 0, none⟩ = some (.slice (some ⟨gA, 0, none⟩) (init.length + 1) c1)), w' = u.val) (by kernel_rfl) (by kernel_rfl) (fun _ _ _ _ _ h => h) ⟨⟨W.drew, HC0.out⟩, rfl⟩ ?_
    simp only [wpPlanK, sel, List.take_succ_cons, List.take_zero, List.drop_succ_cons, List.drop_zero, List.cons_append, List.nil_append]
    repeat (go_big_quiet_step (fail))
    refine wpQuiet_nil ?_
    simp only [wpChain, wpPlanK]
    clear g0
    refine ⟨?_, ?_⟩
    · go_wp2_with fail
      refine ⟨⟨⟨W.drew, HC0.out⟩, rfl⟩, ?_⟩
      simp only [wpPlan, sel, List.take_succ_cons, List.take_zero, List.drop_succ_cons, List.drop_zero, List.cons_append, List.nil_append]
      refine wpQuiet_nil ?_
      unfold wpChain
      go_wp2_with fail
      refine ⟨⟨⟨(W.alloc (.cells #[.int .i64 (-1)] 3)).drew, HC0a.out⟩, rfl⟩, ?_⟩
      unfold wpChain
      clear d1d d1a
      have hown1 := HO1.out
      go_wp2_with (at_builtin; refine wpList_append_rd (f := intV) (fun _ => rfl) rfl _ _ 34 rfl base 3 i0 _ 8 Tryd.underlying34 hi hz0 hz1 hz2 rfl _ eq.length (eq.map intV) rfl hown1 (some ⟨W.heap.size, 0, none⟩) 1 _ [(-1 : Int)] rfl HR1.out (by unfold maxLen; simp; omega) (by simp; omega) hbase ?_)
      intro v' w2 hown2 hO
      obtain ⟨A', c', rfl⟩ := nil_slice hown2
      have hbox2 := hO.box HM1.out.box (HM1.out.ne (e := ⟨some ⟨gE, 0, none⟩, ec, eq⟩) (by simp))
      have hout2 := hO.keep HM1.out.own (Apart.symm (HM1.out.off (e := ⟨some ⟨gE, 0, none⟩, ec, eq⟩) (by simp)))
      obtain ⟨gA'', ea, hgA'', hcA, hfA⟩ := own_at hout2 (by simp)
      injection ea with ea; injection ea with ea; subst ea
      have c0 : w2.cell? ⟨G, 0, none⟩ = some (.slice (some ⟨gA, 0, none⟩) (init.length + 1) c1) := by
        have := hbox2.cell 0
        simpa using this
      have hf1 := hfA init.length
      have d2 : w2.cell? ⟨gA, init.length, none⟩ = some (.slice (some ⟨gE, 0, none⟩) eq.length ec) := hcA init.length (elV ⟨some ⟨gE, 0, none⟩, ec, eq⟩) (by simp)
      have hgr := HM.out.grow HB1.out (-1) (by simp) hO hown2 rfl
      have hbelO := hO.belowBase hbase (fun g hg => (own_block hown1 hg).1)
      have hgb : base ≤ gA := (own_block HM.out.own (g := gA) rfl).1
      have hGA : G ≠ gA := fun e => HM.out.ne0 (by rw [e]; rfl)
      have HG := Lib.hid hgr
      have HO := Lib.hid hbelO
      have HC := Lib.hid c0
      clear hgr hbelO hO hown2 hown1 hbox2 hout2 hcA hfA c0
      go_wp2_with fail
      refine ⟨⟨⟨w2, HC.out⟩, rfl⟩, ?_⟩
      unfold wpChain
      repeat (go_big_quiet_step (fail))
      refine wpQuiet_nil ?_
      unfold wpChain
      go_wp2_with fail
      refine ⟨⟨⟨_, (World.cell?_setCell_other w2 _ _ _ (fun e => hGA (congrArg Addr.block e).symm)).trans HC.out⟩, rfl⟩, ?_⟩
      unfold wpChain
      go_end0
      refine ⟨rfl, ?_⟩
      rw [HR.out, if_pos ⟨trivial, h6⟩]
      refine ⟨some ⟨gA, 0, none⟩, c1, _, HG.out, ?_, ?_⟩
      · rw [qs_append, HQ.out]; rfl
      · exact ((HB.out.trans (HB1.out.mono HM.out.base_le)).trans HO.out).trans (Below.setCell (Below.refl _ _) hgb _)
    · go_wp2_with fail
      refine ⟨⟨⟨(W.alloc (.cells #[.int .i64 (-1)] 3)).drew, HC0a.out⟩, rfl⟩, ?_⟩
      simp only [wpPlan, sel, List.take_succ_cons, List.take_zero, List.drop_succ_cons, List.drop_zero, List.cons_append, List.nil_append]
      refine wpQuiet_nil ?_
      unfold wpChain
      go_wp2_with fail
      refine ⟨⟨⟨(W.alloc (.cells #[.int .i64 (-1)] 3)).drew, HC0a.out⟩, rfl⟩, ?_⟩
      unfold wpChain
      clear d1d d1a
      have hown1 := HO1.out
      go_wp2_with (at_builtin; refine wpList_append_rd (f := intV) (fun _ => rfl) rfl _ _ 34 rfl base 3 i0 _ 8 Tryd.underlying34 hi hz0 hz1 hz2 rfl _ eq.length (eq.map intV) rfl hown1 (some ⟨W.heap.size, 0, none⟩) 1 _ [(-1 : Int)] rfl HR1.out (by unfold maxLen; simp; omega) (by simp; omega) hbase ?_)
      intro v' w2 hown2 hO
      obtain ⟨A', c', rfl⟩ := nil_slice hown2
      have hbox2 := hO.box HM1.out.box (HM1.out.ne (e := ⟨some ⟨gE, 0, none⟩, ec, eq⟩) (by simp))
      have hout2 := hO.keep HM1.out.own (Apart.symm (HM1.out.off (e := ⟨some ⟨gE, 0, none⟩, ec, eq⟩) (by simp)))
      obtain ⟨gA'', ea, hgA'', hcA, hfA⟩ := own_at hout2 (by simp)
      injection ea with ea; injection ea with ea; subst ea
      have c0 : w2.cell? ⟨G, 0, none⟩ = some (.slice (some ⟨gA, 0, none⟩) (init.length + 1) c1) := by
        have := hbox2.cell 0
        simpa using this
      have hf1 := hfA init.length
      have d2 : w2.cell? ⟨gA, init.length, none⟩ = some (.slice (some ⟨gE, 0, none⟩) eq.length ec) := hcA init.length (elV ⟨some ⟨gE, 0, none⟩, ec, eq⟩) (by simp)
      have hgr := HM.out.grow HB1.out (-1) (by simp) hO hown2 rfl
      have hbelO := hO.belowBase hbase (fun g hg => (own_block hown1 hg).1)
      have hgb : base ≤ gA := (own_block HM.out.own (g := gA) rfl).1
      have hGA : G ≠ gA := fun e => HM.out.ne0 (by rw [e]; rfl)
      have HG := Lib.hid hgr
      have HO := Lib.hid hbelO
      have HC := Lib.hid c0
      clear hgr hbelO hO hown2 hown1 hbox2 hout2 hcA hfA c0
      go_wp2_with fail
      refine ⟨⟨⟨w2, HC.out⟩, rfl⟩, ?_⟩
      unfold wpChain
      repeat (go_big_quiet_step (fail))
      refine wpQuiet_nil ?_
      unfold wpChain
      go_wp2_with fail
      refine ⟨⟨⟨_, (World.cell?_setCell_other w2 _ _ _ (fun e => hGA (congrArg Addr.block e).symm)).trans HC.out⟩, rfl⟩, ?_⟩
      unfold wpChain
      go_end0
      refine ⟨rfl, ?_⟩
      rw [HR.out, if_pos ⟨trivial, h6⟩]
      refine ⟨some ⟨gA, 0, none⟩, c1, _, HG.out, ?_, ?_⟩
      · rw [qs_append, HQ.out]; rfl
      · exact ((HB.out.trans (HB1.out.mono HM.out.base_le)).trans HO.out).trans (Below.setCell (Below.refl _ _) hgb _)
  · have hst : Hid (r = ⟨l ++ [eq], false⟩) := Lib.hid (by rw [HR.out, if_neg hgo])
    have hcase : po = false ∨ (po = true ∧ decide ((eq.length : Int) < 6) = false) := by
      cases po
      · exact .inl rfl
      · right; exact ⟨rfl, decide_eq_false fun h => hgo ⟨rfl, by omega⟩⟩
    have HM := HH.out.setO false
    have HM2 := Lib.hid HM
    have hbelW : Below base w (w1.setCell ⟨G, 1, none⟩ (.bool false)) := hbel.trans (setO_below _ HH.out.hG _ 1)
    clear hgo HR hbel HM
    rcases hcase with rfl | ⟨rfl, h6⟩
    all_goals
      go_wp2_with fail
      go_end0
      refine ⟨rfl, ?_⟩
      rw [hst.out]
      exact ⟨some ⟨gA, 0, none⟩, c1, init ++ [⟨some ⟨gE, 0, none⟩, ec, eq⟩], HM2.out, by rw [qs_append, HQ.out]; rfl, hbelW⟩
end Go.Proofs.YtlcnlfjjglcobaaDoor
