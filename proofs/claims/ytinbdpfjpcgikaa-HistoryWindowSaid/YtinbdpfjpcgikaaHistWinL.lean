/- HistoryWindow over the contracts. -/
import Derived.Test.YtinbdpfjpcgikaaBase6
namespace Go.Proofs.Ytinbdpfjpcgikaa
open Go Go.RowKit
set_option linter.unusedVariables false
set_option linter.unusedSimpArgs false

theorem and10_255 (r : Int) : bits .and .i64 r 255 = r % 256 := and_low r 8 (by decide)
set_option maxRecDepth 100000 in
set_option maxHeartbeats 4000000 in
theorem window_law10 (hn : New10C) (hpush : Push10C) (hat : At10C) (hs : Sane10C) (hc : Cells10C) (hwin : Window10C) (A : Option Addr) (c : Nat) (es : List Rl) (m : Int) (B : Option Addr) (d : Nat) (fs : List Rl) (kn : Int) (w : World) (hin : InG w A c es) (hok : RsOk (rws es)) (hm : I64 m) (hl : InG w B d fs) (hlk : RsOk (rws fs)) :
    Calls Try.prog 5 #[.agg #[.slice A es.length c, .int .i64 m], .slice B fs.length d, .int .i64 kn] w fun e w' => e = .returned (.bool true) ∧ Below w.heap.size w w' := by
  have hb0 : Below w.heap.size w (w.alloc (.cells #[.slice A es.length c, .int .i64 m] 24)) := (Below.refl _ _).alloc (Nat.le_refl _) _
  have HG0 : Hid (Hk w (w.alloc (.cells #[.slice A es.length c, .int .i64 m] 24)) A c es m B d fs) := Lib.hid ⟨Box.new w _ _, hin.on hb0, hl.on hb0, hb0⟩
  have HOK := Lib.hid (And.intro hok (And.intro hlk hm))
  have a1 := and_65535 kn
  have a2 := and10_255 kn
  have hawake := awake10_c hn hpush hat hs hc (w.alloc (.cells #[.slice A es.length c, .int .i64 m] 24))
  have hce := hin.rows.cap
  have hcf := hl.rows.cap
  clear hb0 hin hl hok hlk
  go_enter Try.func5, Try.ntmps5
  go_wp2_with fail
  refine hawake.mono ?_
  rintro e v1 ⟨rfl, hb⟩
  have HG1 := Lib.hid (HG0.out.on hb)
  clear hb hawake HG0
  obtain ⟨k0, k1⟩ := HG1.out.cells
  have hf1 := few_c A c es v1 HG1.out.ik
  cases hq1 : decide (FewR (rws es)) with
  | false =>
    rw [hq1] at hf1
    clear hq1
    go_wp2_with fail
    refine hf1.mono ?_
    rintro e vX ⟨rfl, hb⟩
    have hbl := HG1.out.bl.trans (hb.mono HG1.out.bl.size)
    clear hb hf1 k0 k1
    go_wp2_with fail
    go_ret
    exact ⟨rfl, hbl⟩
  | true =>
  rw [hq1] at hf1
  have HF1 := Lib.hid (few_len (of_decide_eq_true hq1))
  clear hq1
  go_wp2_with fail
  refine hf1.mono ?_
  rintro e v2 ⟨rfl, hb⟩
  have HG2 := Lib.hid (HG1.out.on hb)
  clear hb hf1 k0 k1 HG1
  obtain ⟨k0, k1⟩ := HG2.out.cells
  have hf2 := few_c B d fs v2 HG2.out.il
  cases hq2 : decide (FewR (rws fs)) with
  | false =>
    rw [hq2] at hf2
    clear hq2
    go_wp2_with fail
    refine hf2.mono ?_
    rintro e vX ⟨rfl, hb⟩
    have hbl := HG2.out.bl.trans (hb.mono HG2.out.bl.size)
    clear hb hf2 k0 k1
    go_wp2_with fail
    go_ret
    exact ⟨rfl, hbl⟩
  | true =>
  rw [hq2] at hf2
  have HF2 := Lib.hid (few_len (of_decide_eq_true hq2))
  clear hq2
  go_wp2_with fail
  refine hf2.mono ?_
  rintro e v3 ⟨rfl, hb⟩
  have HG3 := Lib.hid (HG2.out.on hb)
  clear hb hf2 k0 k1 HG2
  obtain ⟨k0, k1⟩ := HG3.out.cells
  go_wp2_with fail
  refine (ours_c A es.length c m v3).mono ?_
  rintro e v4 ⟨rfl, hb⟩
  have HG4 := Lib.hid (HG3.out.on hb)
  clear hb k0 k1 HG3
  have hs4 := hs A c es m v4 HG4.out.ik HOK.out.1 HOK.out.2.2 (by have := HF1.out; omega)
  cases hq3 : decide (SaneK ⟨rws es, m⟩) with
  | false =>
    rw [hq3] at hs4
    clear hq3
    go_wp2_with fail
    refine hs4.mono ?_
    rintro e vX ⟨rfl, hb⟩
    have hbl := HG4.out.bl.trans (hb.mono HG4.out.bl.size)
    clear hb hs4
    go_wp2_with fail
    go_ret
    exact ⟨rfl, hbl⟩
  | true =>
  rw [hq3] at hs4
  have HS := Lib.hid (of_decide_eq_true hq3)
  clear hq3
  go_wp2_with fail
  refine hs4.mono ?_
  rintro e v5 ⟨rfl, hb⟩
  have HG5 := Lib.hid (HG4.out.on hb)
  clear hb hs4 HG4
  have he60 : es.length ≤ 60 := HF1.out
  have hf60 : fs.length ≤ 60 := HF2.out
  have hsg := rSaneG_c B d fs v5 HG5.out.il HOK.out.2.1
  cases hq4 : decide (SaneG (rws fs)) with
  | false =>
    rw [hq4] at hsg
    clear hq4
    go_wp2_with fail
    refine hsg.mono ?_
    rintro e vX ⟨rfl, hb⟩
    have hbl := HG5.out.bl.trans (hb.mono HG5.out.bl.size)
    clear hb hsg
    go_wp2_with fail
    go_ret
    exact ⟨rfl, hbl⟩
  | true =>
  rw [hq4] at hsg
  have HSG := Lib.hid (of_decide_eq_true hq4)
  clear hq4
  go_wp2_with fail
  refine hsg.mono ?_
  rintro e v6 ⟨rfl, hb⟩
  have HG6 := Lib.hid (HG5.out.on hb)
  clear hb hsg HG5
  obtain ⟨k0, k1⟩ := HG6.out.cells
  go_wp2_with fail
  refine (ours_c A es.length c m v6).mono ?_
  rintro e v7 ⟨rfl, hb⟩
  have HG7 := Lib.hid (HG6.out.on hb)
  clear hb k0 k1 HG6
  go_upto_region 6 with fail
  have hal : Below v7.heap.size v7 ((v7.alloc (.cells #[.slice A es.length c, .int .i64 m] 27)).alloc (.cells #[.slice B fs.length d] 47)) := ((Below.refl _ _).alloc (Nat.le_refl _) _).alloc (by simp) _
  have HG8 := Lib.hid (And.intro (HG7.out.on hal) (And.intro ((Box.new v7 27 #[.slice A es.length c, .int .i64 m]).alloc (.cells #[.slice B fs.length d] 47)) (box_at1 v7 (.cells #[.slice A es.length c, .int .i64 m] 27) 47 #[.slice B fs.length d])))
  clear hal HG7
  generalize hob : v7.heap.size = ob at *
  generalize (v7.alloc (.cells #[.slice A es.length c, .int .i64 m] 27)).alloc (.cells #[.slice B fs.length d] 47) = V at *
  clear hob
  obtain ⟨hm0, hm1⟩ : 0 ≤ m ∧ m ≤ 200 := ⟨HS.out.2.1, HS.out.2.2.1⟩
  obtain ⟨q, hq⟩ : ∃ q, kn % 256 = q := ⟨_, rfl⟩
  rw [hq] at a2
  have hq0 : 0 ≤ q := by omega
  have hq1 : q ≤ 255 := by omega
  clear hq
  have HW := Lib.hid (windows_said HS.out HSG.out)
  have HWIN : Hid (∀ (z : Int) V', I64 z → Below V.heap.size V V' → Calls Try.prog 20 #[.agg #[.slice A es.length c, .int .i64 m], .agg #[.slice B fs.length d], .int .i64 z] V' (GivesG (windowK ⟨rws es, m⟩ (rws fs) z) V')) := Lib.hid fun z V' hz hV => hwin A c es m B d fs z V' (HG8.out.1.ik.on hV) HOK.out.1 HOK.out.2.2 (by omega) (HG8.out.1.il.on hV) HOK.out.2.1 (by omega) hz
  have n0 := Ext.cell (w := V) (B := V.heap.size) HG8.out.1.bk.lt (show V.cell? ⟨w.heap.size, 0, none⟩ = some (.slice A es.length c) from HG8.out.1.bk.cell 0)
  have n1 := Ext.cell (w := V) (B := V.heap.size) HG8.out.2.1.lt (show V.cell? ⟨ob, 0, none⟩ = some (.slice A es.length c) from HG8.out.2.1.cell 0)
  have n2 := Ext.cell (w := V) (B := V.heap.size) HG8.out.2.1.lt (show V.cell? ⟨ob, 1, none⟩ = some (.int .i64 m) from HG8.out.2.1.cell 1)
  have n3 := Ext.cell (w := V) (B := V.heap.size) HG8.out.2.2.lt (show V.cell? ⟨ob + 1, 0, none⟩ = some (.slice B fs.length d) from HG8.out.2.2.cell 0)
  refine region_plan [([0, 1, 3], [2, 4]), ([5, 6, 7, 8, 9, 10, 11, 12, 13, 14, 16, 17, 18, 19, 20], [15, 21, 22]), ([23, 24], [])] (fun w' => ∃ u : Ext V V.heap.size, w' = u.val) (by kernel_rfl) (by kernel_rfl) (fun _ _ _ _ _ h => h) ⟨⟨_, (Below.refl _ _).drew⟩, rfl⟩ ?_
  simp only [wpPlan, sel, List.take_succ_cons, List.take_zero, List.drop_succ_cons, List.drop_zero, List.cons_append, List.nil_append]
  repeat (go_big_quiet_step (fail))
  refine wpQuiet_nil ?_
  unfold wpChain
  go_wp2_with fail
  refine (HWIN.out _ _ (by unfold I64; omega) (Below.refl _ _).drew).mono ?_
  rintro e y1 ⟨A1, c1, e1, rfl, hI1, hr1, hb⟩
  have Hy1 : Hid (Below V.heap.size V y1) := Lib.hid ((Below.refl V.heap.size V).drew.trans hb)
  have hs1 := same9_c A1 B e1 fs c1 d y1 hI1 (HG8.out.1.il.on Hy1.out)
  rw [decide_eq_true (hr1.trans HW.out.1)] at hs1
  clear hb hI1 hr1
  go_wp2_with fail
  refine ⟨⟨⟨_, Hy1.out⟩, rfl⟩, ?_⟩
  unfold wpChain
  go_wp2_with fail
  refine hs1.mono ?_
  rintro e y2 ⟨rfl, hb⟩
  have Hy2 : Hid (Below V.heap.size V y2) := Lib.hid (Hy1.out.trans (hb.mono Hy1.out.size))
  clear hb hs1
  go_wp2_with fail
  refine ⟨⟨⟨_, Hy2.out⟩, rfl⟩, ?_⟩
  unfold wpChain
  try simp only [Act.put, List.setIfInBounds_toArray, List.set_cons_succ, List.set_cons_zero]
  repeat (go_big_quiet_step (fail))
  refine wpQuiet_nil ?_
  unfold wpChain
  go_wp2_with fail
  refine (HWIN.out _ _ (by unfold I64; omega) Hy2.out).mono ?_
  rintro e y3 ⟨A3, c3, e3, rfl, hI3, hr3, hb⟩
  have Hy3 : Hid (Below V.heap.size V y3) := Lib.hid (Hy2.out.trans (hb.mono Hy2.out.size))
  have HI3 := Lib.hid (And.intro hI3 hr3)
  clear hb hI3 hr3
  go_wp2_with fail
  refine ⟨⟨⟨_, Hy3.out⟩, rfl⟩, ?_⟩
  unfold wpChain
  go_wp2_with fail
  refine (HWIN.out _ _ (by unfold I64; omega) Hy3.out).mono ?_
  rintro e y4 ⟨A4, c4, e4, rfl, hI4, hr4, hb⟩
  have Hy4 : Hid (Below V.heap.size V y4) := Lib.hid (Hy3.out.trans (hb.mono Hy3.out.size))
  have hs1 := same9_c A3 A4 e3 e4 c3 c4 y4 (HI3.out.1.on hb) hI4
  rw [decide_eq_true (by rw [HI3.out.2, hr4]; have h5 := HW.out.2.1 ((es.length : Int) + q) (by simp only [rws_length]; omega); simp only [rws_length] at h5; exact h5)] at hs1
  clear hb hI4 hr4
  go_wp2_with fail
  refine ⟨⟨⟨_, Hy4.out⟩, rfl⟩, ?_⟩
  unfold wpChain
  go_wp2_with fail
  refine hs1.mono ?_
  rintro e y5 ⟨rfl, hb⟩
  have Hy5 : Hid (Below V.heap.size V y5) := Lib.hid (Hy4.out.trans (hb.mono Hy4.out.size))
  clear hb hs1 HI3
  go_wp2_with fail
  refine ⟨⟨⟨_, Hy5.out⟩, rfl⟩, ?_⟩
  unfold wpChain
  try simp only [Act.put, List.setIfInBounds_toArray, List.set_cons_succ, List.set_cons_zero]
  repeat (go_big_quiet_step (fail))
  refine wpQuiet_nil ?_
  unfold wpChain
  clear n0 n1 n2 n3 a2 hq0 hq1 Hy1 Hy2 Hy3 Hy4
  have HE := Lib.hid (And.intro (HG8.out.1.on Hy5.out) (And.intro (HG8.out.2.1.below Hy5.out HG8.out.2.1.lt) (HG8.out.2.2.below Hy5.out HG8.out.2.2.lt)))
  obtain ⟨k0, k1⟩ := HE.out.1.cells
  by_cases hz : es.length = 0
  · have ez : ((es.length : Int) == 0) = true := by rw [hz]; rfl
    have hbl := HE.out.1.bl
    clear hz a1
    go_wp2_with fail
    go_ret
    exact ⟨rfl, hbl⟩
  have ez : ((es.length : Int) == 0) = false := beq_eq_false_iff_ne.2 (by omega)
  obtain ⟨z, hzz⟩ : ∃ z, kn % 65536 = z := ⟨_, rfl⟩
  rw [hzz] at a1
  have hz0 : 0 ≤ z := by omega
  have hz2 : z ≤ 65535 := by omega
  clear hzz
  have q1 := Int.emod_nonneg z (show (es.length : Int) ≠ 0 by omega)
  have q2 := Int.emod_lt_of_pos z (show (0 : Int) < (es.length : Int) by omega)
  obtain ⟨b, hb'⟩ : ∃ b : Nat, z % (es.length : Int) = (b : Int) := Int.eq_ofNat_of_zero_le q1
  have hbb : z.tmod (es.length : Int) = (b : Int) := by rw [Int.tmod_eq_emod_of_nonneg hz0]; exact hb'
  have hbl : b < es.length := by omega
  have zn : ¬ (es.length : Int) = 0 := by omega
  have HWB := Lib.hid (HW.out.2.2 b (by simp only [rws_length]; exact hbl))
  clear q1 q2 hb' HW
  go_upto_region 11 with fail
  clear a1 hbb zn hz0 hz2 ez k0 k1
  have HWIN2 : Hid (∀ (z : Int) V', I64 z → Below y5.heap.size y5 V' → Calls Try.prog 20 #[.agg #[.slice A es.length c, .int .i64 m], .agg #[.slice B fs.length d], .int .i64 z] V' (GivesG (windowK ⟨rws es, m⟩ (rws fs) z) V')) := Lib.hid fun z V' hz hV => HWIN.out z V' hz (Hy5.out.trans (hV.mono Hy5.out.size))
  obtain ⟨j0, j1, j2⟩ : y5.cell? ⟨ob, 0, none⟩ = some (.slice A es.length c) ∧ y5.cell? ⟨ob, 1, none⟩ = some (.int .i64 m) ∧ y5.cell? ⟨ob + 1, 0, none⟩ = some (.slice B fs.length d) := ⟨HE.out.2.1.cell 0, HE.out.2.1.cell 1, HE.out.2.2.cell 0⟩
  go_wp2_with fail
  refine (HWIN2.out _ _ (by unfold I64; omega) (Below.refl _ _)).mono ?_
  rintro e y6 ⟨A1, c1, e1, rfl, hI1, hr1, hb⟩
  have HE1 := Lib.hid (And.intro (HE.out.1.on hb) (And.intro (HE.out.2.1.below hb HE.out.2.1.lt) (And.intro (HE.out.2.2.below hb HE.out.2.2.lt) (And.intro hI1 hb))))
  have HR1 := Lib.hid hr1
  clear hI1 hr1 hb j0 j1 j2 HE
  obtain ⟨j0, j1, j2⟩ : y6.cell? ⟨ob, 0, none⟩ = some (.slice A es.length c) ∧ y6.cell? ⟨ob, 1, none⟩ = some (.int .i64 m) ∧ y6.cell? ⟨ob + 1, 0, none⟩ = some (.slice B fs.length d) := ⟨HE1.out.2.1.cell 0, HE1.out.2.1.cell 1, HE1.out.2.2.1.cell 0⟩
  go_wp2_with fail
  refine (HWIN2.out ((b : Int) + 1) _ (by unfold I64; omega) HE1.out.2.2.2.2).mono ?_
  rintro e y7 ⟨A2, c2, e2, rfl, hI2, hr2, hb⟩
  have HE2 := Lib.hid (And.intro (HE1.out.1.on hb) (And.intro (HE1.out.2.1.below hb HE1.out.2.1.lt) (And.intro (HE1.out.2.2.2.1.on hb) hI2)))
  have HR2 := Lib.hid hr2
  clear hI2 hr2 hb j0 j1 j2 HE1 HWIN HWIN2
  obtain ⟨j0, j1⟩ : y7.cell? ⟨ob, 0, none⟩ = some (.slice A es.length c) ∧ y7.cell? ⟨ob, 1, none⟩ = some (.int .i64 m) := ⟨HE2.out.2.1.cell 0, HE2.out.2.1.cell 1⟩
  have h3 := hat A c es m (b : Int) y7 HE2.out.1.ik HOK.out.1 HOK.out.2.2 (by omega) (by unfold I64; omega)
  rw [decide_eq_true HWB.out.2.2.1] at h3
  go_wp2_with fail
  refine h3.mono ?_
  rintro e y8 ⟨x, rfl, hIx, hrx, hb⟩
  have hal : Below y8.heap.size y8 (y8.alloc (.cells #[.slice x.A x.r.cs.length x.c, .bool x.r.wrap, .int .i64 x.r.dir, .bool x.r.ex] 35)) := (Below.refl _ _).alloc (Nat.le_refl _) _
  have hq := hb.trans (hal.mono hb.size)
  have HE3 := Lib.hid (And.intro (HE2.out.1.on hq) (And.intro (HE2.out.2.2.1.on hq) (And.intro (HE2.out.2.2.2.on hq) (And.intro (hIx.on hal) (Box.new y8 35 #[.slice x.A x.r.cs.length x.c, .bool x.r.wrap, .int .i64 x.r.dir, .bool x.r.ex])))))
  have HRX := Lib.hid hrx
  clear hal hq hIx hrx hb h3 j0 j1 HE2
  go_upto_region 14 with fail
  generalize hxb : y8.heap.size = xb at *
  generalize y8.alloc (.cells #[.slice x.A x.r.cs.length x.c, .bool x.r.wrap, .int .i64 x.r.dir, .bool x.r.ex] 35) = X at *
  clear hxb
  have hl1 : e1.length = fs.length := by have := HWB.out.1; rw [← HR1.out] at this; simp only [rws_length] at this; exact this
  have hl2 : e2.length = fs.length := by have := HWB.out.2.1; rw [← HR2.out] at this; simp only [rws_length] at this; exact this
  have hg1 : 1 ≤ fs.length := by have := HSG.out.1.1; rw [rws_length] at this; exact this
  have en1 : ((e1.length : Int) != (fs.length : Int)) = false := by rw [hl1]; simp
  have en2 : ((e2.length : Int) != (fs.length : Int)) = false := by rw [hl2]; simp
  have HL := Lib.hid (And.intro hl1 hl2)
  clear hl1 hl2
  go_upto_region 16 with fail
  clear en1 en2
  obtain ⟨x0, hx0⟩ : ∃ x0, e2[0]? = some x0 := ⟨_, List.getElem?_eq_getElem (by have := HL.out.2; omega)⟩
  have hx0r : x0.r = x.r := by
    have h4 := HWB.out.2.2.2.1
    rw [← HR2.out, rws_at hx0, ← HRX.out] at h4
    injection h4
  obtain ⟨g2, o2, rfl, hB2, p0, p1, p2, p3⟩ := HE3.out.2.2.1.rows.at_ hx0
  simp only [Nat.zero_mul, Nat.add_zero] at p0 p1 p2 p3
  have hc2 := HE3.out.2.2.1.rows.cap
  obtain ⟨a, ha⟩ : ∃ a : Nat, e1.length - 1 = a := ⟨_, rfl⟩
  have hsa : (e1.length : Int) - 1 = (a : Int) := by have := HL.out.1; omega
  obtain ⟨B4, d4, hcf, hI4⟩ := HE3.out.2.2.1.from_ (a := 1) (by have := HL.out.2; omega)
  have hcf1 : ∀ V, (Instr.sliceAt 22 (.slice (some ⟨g2, o2, none⟩) e2.length c2) (some (.int .i64 1)) none none).run Try.prog V = .ok (.slice B4 (e2.drop 1).length d4) V := hcf
  obtain ⟨hcu, hI5⟩ := HE3.out.2.1.upto (b := a) (by omega)
  have hreq : rws (e2.drop 1) = rws (e1.take a) := by
    have h5 := HWB.out.2.2.2.2
    rw [← HR1.out, ← HR2.out] at h5
    rw [rws_drop, rws_take, h5]
    congr 1
    simp only [rws_length]
    have := HL.out.1
    omega
  have HS1 : Hid (∀ V', Below X.heap.size X V' → Calls Try.prog 17 #[.agg #[.slice x0.A x0.r.cs.length x0.c, .bool x0.r.wrap, .int .i64 x0.r.dir, .bool x0.r.ex], .agg #[.slice x.A x.r.cs.length x.c, .bool x.r.wrap, .int .i64 x.r.dir, .bool x.r.ex]] V' fun e w' => e = .returned (.bool true) ∧ Below V'.heap.size V' w') := Lib.hid fun V' hV => by
    have h := same_c x0.r x.r x0.A x.A x0.c x.c V' ((HE3.out.2.2.1.els x0 (List.mem_of_getElem? hx0)).on hV) (HE3.out.2.2.2.1.on hV)
    rw [decide_eq_true hx0r] at h
    exact h
  have HS2 : Hid (∀ V', Below X.heap.size X V' → Calls Try.prog 16 #[.slice B4 (e2.drop 1).length d4, .slice A1 (e1.take a).length c1] V' fun e w' => e = .returned (.bool true) ∧ Below V'.heap.size V' w') := Lib.hid fun V' hV => by
    have h := same9_c B4 A1 (e2.drop 1) (e1.take a) d4 c1 V' (hI4.on hV) (hI5.on hV)
    rw [decide_eq_true hreq] at h
    exact h
  have n0 := Ext.cell (w := X) (B := X.heap.size) (p := ⟨g2, o2, none⟩) hB2 p0
  have n1 := Ext.cell (w := X) (B := X.heap.size) (p := ⟨g2, o2 + 1, none⟩) hB2 p1
  have n2 := Ext.cell (w := X) (B := X.heap.size) (p := ⟨g2, o2 + 2, none⟩) hB2 p2
  have n3 := Ext.cell (w := X) (B := X.heap.size) (p := ⟨g2, o2 + 3, none⟩) hB2 p3
  have l0 := Ext.cell (w := X) (B := X.heap.size) HE3.out.2.2.2.2.lt (show X.cell? ⟨xb, 0, none⟩ = some (.slice x.A x.r.cs.length x.c) from HE3.out.2.2.2.2.cell 0)
  have l1 := Ext.cell (w := X) (B := X.heap.size) HE3.out.2.2.2.2.lt (show X.cell? ⟨xb, 1, none⟩ = some (.bool x.r.wrap) from HE3.out.2.2.2.2.cell 1)
  have l2 := Ext.cell (w := X) (B := X.heap.size) HE3.out.2.2.2.2.lt (show X.cell? ⟨xb, 2, none⟩ = some (.int .i64 x.r.dir) from HE3.out.2.2.2.2.cell 2)
  have l3 := Ext.cell (w := X) (B := X.heap.size) HE3.out.2.2.2.2.lt (show X.cell? ⟨xb, 3, none⟩ = some (.bool x.r.ex) from HE3.out.2.2.2.2.cell 3)
  have hz2 : (0 : Int) < (e2.length : Int) := by have := HL.out.2; omega
  have he1m : e1.length ≤ 60 := by have := HL.out.1; omega
  have he2m : e2.length ≤ 60 := by have := HL.out.2; omega
  clear hx0 hx0r hB2 p0 p1 p2 p3 hcf hI4 hI5 hreq ha
  generalize (e2.drop 1).length = la at *
  generalize (e1.take a).length = lb at *
  refine region_plan [([0, 1, 2, 3, 4, 5], [6]), ([7, 8, 9, 10, 11, 12, 13, 14, 15], [16]), ([17, 18], [])] (fun w' => ∃ u : Ext X X.heap.size, w' = u.val) (by kernel_rfl) (by kernel_rfl) (fun _ _ _ _ _ h => h) ⟨⟨_, (Below.refl _ _).drew⟩, rfl⟩ ?_
  simp only [wpPlan, sel, List.take_succ_cons, List.take_zero, List.drop_succ_cons, List.drop_zero, List.cons_append, List.nil_append]
  repeat (go_big_quiet_step (fail))
  refine wpQuiet_nil ?_
  unfold wpChain
  go_wp2_with fail
  refine (HS1.out _ (Below.refl _ _).drew).mono ?_
  rintro e z1 ⟨rfl, hb⟩
  have Hz1 : Hid (Below X.heap.size X z1) := Lib.hid ((Below.refl X.heap.size X).drew.trans hb)
  clear hb
  go_wp2_with fail
  refine ⟨⟨⟨_, Hz1.out⟩, rfl⟩, ?_⟩
  unfold wpChain
  try simp only [Act.put, List.setIfInBounds_toArray, List.set_cons_succ, List.set_cons_zero]
  repeat (go_big_quiet_step (fail))
  refine wpQuiet_nil ?_
  unfold wpChain
  go_wp2_with fail
  refine (HS2.out _ Hz1.out).mono ?_
  rintro e z2 ⟨rfl, hb⟩
  have Hz2 : Hid (Below X.heap.size X z2) := Lib.hid (Hz1.out.trans (hb.mono Hz1.out.size))
  clear hb
  go_wp2_with fail
  refine ⟨⟨⟨_, Hz2.out⟩, rfl⟩, ?_⟩
  unfold wpChain
  try simp only [Act.put, List.setIfInBounds_toArray, List.set_cons_succ, List.set_cons_zero]
  repeat (go_big_quiet_step (fail))
  refine wpQuiet_nil ?_
  unfold wpChain
  go_wp2_with fail
  go_ret
  exact ⟨rfl, HE3.out.1.bl.trans (Hz2.out.mono HE3.out.1.bl.size)⟩
end Go.Proofs.Ytinbdpfjpcgikaa
