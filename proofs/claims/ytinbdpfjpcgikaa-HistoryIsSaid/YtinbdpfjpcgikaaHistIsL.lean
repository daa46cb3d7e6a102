/- HistoryIs over the contracts. -/
import Derived.Test.YtinbdpfjpcgikaaBase6
import Derived.Test.YtinbdpfjpcgikaaBag10
import Derived.Test.YtinbdpfjpcgikaaRef10b
import Derived.Test.YtinbdpfjpcgikaaRef10c
import Derived.Test.YtinbdpfjpcgikaaRef10d
import Derived.Test.YtinbdpfjpcgikaaRef10e
namespace Go.Proofs.Ytinbdpfjpcgikaa
open Go Go.RowKit
set_option linter.unusedVariables false
set_option linter.unusedSimpArgs false

set_option maxRecDepth 100000 in
set_option maxHeartbeats 4000000 in
theorem is_law10 (hn : New10C) (hpush : Push10C) (hat : At10C) (hs : Sane10C) (hc : Cells10C) (htake : Take10C) (hwin : Window10C) (A : Option Addr) (c : Nat) (es : List Rl) (m : Int) (B : Option Addr) (d : Nat) (fs : List Rl) (G : Option Addr) (gd : Nat) (gs : List Rl) (n : Int) (w : World) (hin : InG w A c es) (hok : RsOk (rws es)) (hm : I64 m) (hl : InG w B d fs) (hlk : RsOk (rws fs)) (hg : InG w G gd gs) (hgk : RsOk (rws gs)) (hnn : I64 n) :
    Calls Try.prog 3 #[.agg #[.slice A es.length c, .int .i64 m], .slice B fs.length d, .slice G gs.length gd, .int .i64 n] w fun e w' => e = .returned (.bool true) ∧ Below w.heap.size w w' := by
  have HG0 : Hid (Bag w (w.alloc (.cells #[.slice A es.length c, .int .i64 m] 24)) [(w.heap.size, 24, #[.slice A es.length c, .int .i64 m])] [(A, c, es), (B, d, fs), (G, gd, gs)] []) := Lib.hid (((((⟨by simp, by simp, by simp, Below.refl _ _⟩ : Bag w w [] [] []).addR hg).addR hl).addR hin).addB 24 #[.slice A es.length c, .int .i64 m])
  have HOK := Lib.hid (And.intro hok (And.intro hlk (And.intro hgk (And.intro hm hnn))))
  have hawake := awake10_c hn hpush hat hs hc (w.alloc (.cells #[.slice A es.length c, .int .i64 m] 24))
  clear hin hl hg hok hlk hgk hm hnn
  go_enter Try.func3, Try.ntmps3
  go_wp2_with fail
  refine hawake.mono ?_
  rintro e v1 ⟨rfl, hb⟩
  have HG1 := Lib.hid (HG0.out.on hb)
  clear hb hawake HG0
  have hkb := HG1.out.bx (w.heap.size, 24, #[.slice A es.length c, .int .i64 m]) (by simp)
  obtain ⟨k0, k1⟩ : v1.cell? ⟨w.heap.size, 0, none⟩ = some (.slice A es.length c) ∧ v1.cell? ⟨w.heap.size, 1, none⟩ = some (.int .i64 m) := ⟨hkb.cell 0, hkb.cell 1⟩
  have hf1 := few_c A c es v1 (HG1.out.rx (A, c, es) (by simp))
  clear hkb
  cases hq1 : decide (FewR (rws es)) with
  | false =>
    rw [hq1] at hf1
    clear hq1
    go_wp2_with fail
    refine hf1.mono ?_
    rintro e vX ⟨rfl, hb⟩
    have hbl := HG1.out.bl.trans (hb.mono HG1.out.bl.size)
    clear hb hf1 k0 k1
    go_wp2_with fail
    go_ret
    exact ⟨rfl, hbl⟩
  | true =>
  rw [hq1] at hf1
  have he60 := few_len (of_decide_eq_true hq1)
  clear hq1
  go_wp2_with fail
  refine hf1.mono ?_
  rintro e v2 ⟨rfl, hb⟩
  have HG2 := Lib.hid (HG1.out.on hb)
  clear hb hf1 k0 k1 HG1
  have hf2 := few_c B d fs v2 (HG2.out.rx (B, d, fs) (by simp))
  cases hq2 : decide (FewR (rws fs)) with
  | false =>
    rw [hq2] at hf2
    clear hq2
    go_wp2_with fail
    refine hf2.mono ?_
    rintro e vX ⟨rfl, hb⟩
    have hbl := HG2.out.bl.trans (hb.mono HG2.out.bl.size)
    clear hb hf2
    go_wp2_with fail
    go_ret
    exact ⟨rfl, hbl⟩
  | true =>
  rw [hq2] at hf2
  have hf60 := few_len (of_decide_eq_true hq2)
  clear hq2
  go_wp2_with fail
  refine hf2.mono ?_
  rintro e v3 ⟨rfl, hb⟩
  have HG3 := Lib.hid (HG2.out.on hb)
  clear hb hf2 HG2
  have hf3 := few_c G gd gs v3 (HG3.out.rx (G, gd, gs) (by simp))
  cases hq3 : decide (FewR (rws gs)) with
  | false =>
    rw [hq3] at hf3
    clear hq3
    go_wp2_with fail
    refine hf3.mono ?_
    rintro e vX ⟨rfl, hb⟩
    have hbl := HG3.out.bl.trans (hb.mono HG3.out.bl.size)
    clear hb hf3
    go_wp2_with fail
    go_ret
    exact ⟨rfl, hbl⟩
  | true =>
  rw [hq3] at hf3
  have hg60 := few_len (of_decide_eq_true hq3)
  clear hq3
  go_wp2_with fail
  refine hf3.mono ?_
  rintro e v4 ⟨rfl, hb⟩
  have HG4 := Lib.hid (HG3.out.on hb)
  clear hb hf3 HG3
  have hkb := HG4.out.bx (w.heap.size, 24, #[.slice A es.length c, .int .i64 m]) (by simp)
  obtain ⟨k0, k1⟩ : v4.cell? ⟨w.heap.size, 0, none⟩ = some (.slice A es.length c) ∧ v4.cell? ⟨w.heap.size, 1, none⟩ = some (.int .i64 m) := ⟨hkb.cell 0, hkb.cell 1⟩
  clear hkb
  go_wp2_with fail
  refine (ours_c A es.length c m v4).mono ?_
  rintro e v5 ⟨rfl, hb⟩
  have HG5 := Lib.hid (HG4.out.on hb)
  clear hb k0 k1 HG4
  have HG6 := Lib.hid (HG5.out.addB 27 #[.slice A es.length c, .int .i64 m])
  clear HG5
  go_upto_region 5 with fail
  generalize hob : v5.heap.size = ob at *
  generalize v5.alloc (.cells #[.slice A es.length c, .int .i64 m] 27) = v6 at *
  clear hob
  have hkb := HG6.out.bx (ob, 27, #[.slice A es.length c, .int .i64 m]) (by simp)
  obtain ⟨k0, k1⟩ : v6.cell? ⟨ob, 0, none⟩ = some (.slice A es.length c) ∧ v6.cell? ⟨ob, 1, none⟩ = some (.int .i64 m) := ⟨hkb.cell 0, hkb.cell 1⟩
  have h1 := htake A c es m n v6 (HG6.out.rx (A, c, es) (by simp)) HOK.out.1 HOK.out.2.2.2.1 (by omega) HOK.out.2.2.2.2
  have hrt := fun V hI => rTakeK_c A c es m n V hI HOK.out.1 HOK.out.2.2.2.1 (by omega) HOK.out.2.2.2.2
  unfold GivesT10 at hrt
  generalize takeK ⟨rws es, m⟩ n = TK at *
  generalize tookK ⟨rws es, m⟩ n = TQ at *
  have HRT := Lib.hid hrt
  clear hrt hkb
  go_wp2_with fail
  refine h1.mono ?_
  rintro e v7 ⟨A1, c1, e1, A2, c2, e2, rfl, hI1, hr1, hI2, hr2, hb⟩
  have HG7 := Lib.hid ((((HG6.out.on hb).addR hI1).addR hI2).addB 27 #[.slice A1 e1.length c1, .int .i64 TK.cap])
  have HR1 := Lib.hid (And.intro hr1 hr2)
  clear h1 hI1 hr1 hI2 hr2 hb k0 k1 HG6
  go_upto_region 6 with fail
  generalize hab : v7.heap.size = ab at *
  generalize v7.alloc (.cells #[.slice A1 e1.length c1, .int .i64 TK.cap] 27) = v8 at *
  clear hab
  have hkb := HG7.out.bx (w.heap.size, 24, #[.slice A es.length c, .int .i64 m]) (by simp)
  obtain ⟨k0, k1⟩ : v8.cell? ⟨w.heap.size, 0, none⟩ = some (.slice A es.length c) ∧ v8.cell? ⟨w.heap.size, 1, none⟩ = some (.int .i64 m) := ⟨hkb.cell 0, hkb.cell 1⟩
  have h1 := HRT.out v8 (HG7.out.rx (A, c, es) (by simp))
  clear hkb HRT
  go_wp2_with fail
  refine h1.mono ?_
  rintro e v9 ⟨A3, c3, e3, A4, c4, e4, rfl, hI3, hr3, hI4, hr4, hb⟩
  have HG9 := Lib.hid ((((HG7.out.on hb).addR hI3).addR hI4).addB 24 #[.slice A3 e3.length c3, .int .i64 TK.cap])
  have HR3 := Lib.hid (And.intro hr3 hr4)
  clear h1 hI3 hr3 hI4 hr4 hb k0 k1 HG7
  go_upto_region 7 with fail
  generalize hbb : v9.heap.size = bb at *
  generalize v9.alloc (.cells #[.slice A3 e3.length c3, .int .i64 TK.cap] 24) = v10 at *
  clear hbb
  have hkb := HG9.out.bx (ob, 27, #[.slice A es.length c, .int .i64 m]) (by simp)
  obtain ⟨k0, k1⟩ : v10.cell? ⟨ob, 0, none⟩ = some (.slice A es.length c) ∧ v10.cell? ⟨ob, 1, none⟩ = some (.int .i64 m) := ⟨hkb.cell 0, hkb.cell 1⟩
  have h1 := hat A c es m n v10 (HG9.out.rx (A, c, es) (by simp)) HOK.out.1 HOK.out.2.2.2.1 (by omega) HOK.out.2.2.2.2
  have hra := fun V hI => rAtK_c A c es m n V hI HOK.out.1 HOK.out.2.2.2.1 HOK.out.2.2.2.2
  generalize decide (AtK ⟨rws es, m⟩ n) = D at *
  generalize atK ⟨rws es, m⟩ n = AR at *
  have HRA := Lib.hid hra
  clear hra hkb
  go_wp2_with fail
  refine h1.mono ?_
  rintro e v11 ⟨x, rfl, hIx, hrx, hb⟩
  have HG11 := Lib.hid (((HG9.out.on hb).addC hIx).addB 35 #[.slice x.A x.r.cs.length x.c, .bool x.r.wrap, .int .i64 x.r.dir, .bool x.r.ex])
  have HRX := Lib.hid hrx
  clear h1 hIx hrx hb k0 k1 HG9
  go_upto_region 8 with fail
  generalize hcb : v11.heap.size = cb at *
  generalize v11.alloc (.cells #[.slice x.A x.r.cs.length x.c, .bool x.r.wrap, .int .i64 x.r.dir, .bool x.r.ex] 35) = v12 at *
  clear hcb
  have hkb := HG11.out.bx (w.heap.size, 24, #[.slice A es.length c, .int .i64 m]) (by simp)
  obtain ⟨k0, k1⟩ : v12.cell? ⟨w.heap.size, 0, none⟩ = some (.slice A es.length c) ∧ v12.cell? ⟨w.heap.size, 1, none⟩ = some (.int .i64 m) := ⟨hkb.cell 0, hkb.cell 1⟩
  have h1 := HRA.out v12 (HG11.out.rx (A, c, es) (by simp))
  clear hkb HRA
  go_wp2_with fail
  refine h1.mono ?_
  rintro e v13 ⟨y, rfl, hIy, hry, hb⟩
  have HG13 := Lib.hid (((HG11.out.on hb).addC hIy).addB 35 #[.slice y.A y.r.cs.length y.c, .bool y.r.wrap, .int .i64 y.r.dir, .bool y.r.ex])
  have HRY := Lib.hid hry
  clear h1 hIy hry hb k0 k1 HG11
  go_upto_region 9 with fail
  generalize hdb : v13.heap.size = db at *
  generalize v13.alloc (.cells #[.slice y.A y.r.cs.length y.c, .bool y.r.wrap, .int .i64 y.r.dir, .bool y.r.ex] 35) = V at *
  clear hdb
  have hkb := HG13.out.bx (ab, 27, #[.slice A1 e1.length c1, .int .i64 TK.cap]) (by simp)
  have n0 := Ext.cell (w := V) (B := V.heap.size) hkb.lt (show V.cell? ⟨ab, 0, none⟩ = some (.slice A1 e1.length c1) from hkb.cell 0)
  have n1 := Ext.cell (w := V) (B := V.heap.size) hkb.lt (show V.cell? ⟨ab, 1, none⟩ = some (.int .i64 TK.cap) from hkb.cell 1)
  clear hkb
  have hkb := HG13.out.bx (bb, 24, #[.slice A3 e3.length c3, .int .i64 TK.cap]) (by simp)
  have p0 := Ext.cell (w := V) (B := V.heap.size) hkb.lt (show V.cell? ⟨bb, 0, none⟩ = some (.slice A3 e3.length c3) from hkb.cell 0)
  have p1 := Ext.cell (w := V) (B := V.heap.size) hkb.lt (show V.cell? ⟨bb, 1, none⟩ = some (.int .i64 TK.cap) from hkb.cell 1)
  clear hkb
  have hkb := HG13.out.bx (cb, 35, #[.slice x.A x.r.cs.length x.c, .bool x.r.wrap, .int .i64 x.r.dir, .bool x.r.ex]) (by simp)
  have q0 := Ext.cell (w := V) (B := V.heap.size) hkb.lt (show V.cell? ⟨cb, 0, none⟩ = some (.slice x.A x.r.cs.length x.c) from hkb.cell 0)
  have q1 := Ext.cell (w := V) (B := V.heap.size) hkb.lt (show V.cell? ⟨cb, 1, none⟩ = some (.bool x.r.wrap) from hkb.cell 1)
  have q2 := Ext.cell (w := V) (B := V.heap.size) hkb.lt (show V.cell? ⟨cb, 2, none⟩ = some (.int .i64 x.r.dir) from hkb.cell 2)
  have q3 := Ext.cell (w := V) (B := V.heap.size) hkb.lt (show V.cell? ⟨cb, 3, none⟩ = some (.bool x.r.ex) from hkb.cell 3)
  clear hkb
  have hkb := HG13.out.bx (db, 35, #[.slice y.A y.r.cs.length y.c, .bool y.r.wrap, .int .i64 y.r.dir, .bool y.r.ex]) (by simp)
  have r0 := Ext.cell (w := V) (B := V.heap.size) hkb.lt (show V.cell? ⟨db, 0, none⟩ = some (.slice y.A y.r.cs.length y.c) from hkb.cell 0)
  have r1 := Ext.cell (w := V) (B := V.heap.size) hkb.lt (show V.cell? ⟨db, 1, none⟩ = some (.bool y.r.wrap) from hkb.cell 1)
  have r2 := Ext.cell (w := V) (B := V.heap.size) hkb.lt (show V.cell? ⟨db, 2, none⟩ = some (.int .i64 y.r.dir) from hkb.cell 2)
  have r3 := Ext.cell (w := V) (B := V.heap.size) hkb.lt (show V.cell? ⟨db, 3, none⟩ = some (.bool y.r.ex) from hkb.cell 3)
  clear hkb
  have HC1 : Hid (∀ V', Below V.heap.size V V' → Calls Try.prog 14 #[.agg #[.slice A1 e1.length c1, .int .i64 TK.cap], .agg #[.slice A3 e3.length c3, .int .i64 TK.cap]] V' fun e w' => e = .returned (.bool true) ∧ Below V'.heap.size V' w') := Lib.hid fun V' hV => by
    have h := sameK_c A1 A3 c1 c3 e1 e3 TK.cap TK.cap V' ((HG13.out.rx (A1, c1, e1) (by simp)).on hV) ((HG13.out.rx (A3, c3, e3) (by simp)).on hV)
    rw [decide_eq_true (by rw [HR1.out.1, HR3.out.1])] at h
    exact h
  have HC2 : Hid (∀ V', Below V.heap.size V V' → Calls Try.prog 16 #[.slice A2 e2.length c2, .slice A4 e4.length c4] V' fun e w' => e = .returned (.bool true) ∧ Below V'.heap.size V' w') := Lib.hid fun V' hV => by
    have h := same9_c A2 A4 e2 e4 c2 c4 V' ((HG13.out.rx (A2, c2, e2) (by simp)).on hV) ((HG13.out.rx (A4, c4, e4) (by simp)).on hV)
    rw [decide_eq_true (by rw [HR1.out.2, HR3.out.2])] at h
    exact h
  have HC3 : Hid (∀ V', Below V.heap.size V V' → Calls Try.prog 17 #[.agg #[.slice x.A x.r.cs.length x.c, .bool x.r.wrap, .int .i64 x.r.dir, .bool x.r.ex], .agg #[.slice y.A y.r.cs.length y.c, .bool y.r.wrap, .int .i64 y.r.dir, .bool y.r.ex]] V' fun e w' => e = .returned (.bool true) ∧ Below V'.heap.size V' w') := Lib.hid fun V' hV => by
    have h := same_c x.r y.r x.A y.A x.c y.c V' ((HG13.out.cx (x.A, x.c, x.r.cs) (by simp)).on hV) ((HG13.out.cx (y.A, y.c, y.r.cs) (by simp)).on hV)
    rw [decide_eq_true (by rw [HRX.out, HRY.out])] at h
    exact h
  clear HR1 HR3 HRX HRY
  have hDD : (D != D) = false := by cases D <;> rfl
  refine region_plan [([0, 2], [1, 3]), ([4, 5, 6, 7], [8]), ([9, 10, 11, 12, 13], [14]), ([15, 16, 17, 18, 19, 20, 21], [])] (fun w' => ∃ u : Ext V V.heap.size, w' = u.val) (by kernel_rfl) (by kernel_rfl) (fun _ _ _ _ _ h => h) ⟨⟨_, (Below.refl _ _).drew⟩, rfl⟩ ?_
  simp only [wpPlan, sel, List.take_succ_cons, List.take_zero, List.drop_succ_cons, List.drop_zero, List.cons_append, List.nil_append]
  repeat (go_big_quiet_step (fail))
  refine wpQuiet_nil ?_
  unfold wpChain
  go_wp2_with fail
  refine (theirs_c A1 e1.length c1 TK.cap _).mono ?_
  rintro e y1 ⟨rfl, hb⟩
  have Hy1 : Hid (Below V.heap.size V y1) := Lib.hid ((Below.refl V.heap.size V).drew.trans hb)
  clear hb
  go_wp2_with fail
  refine ⟨⟨⟨_, Hy1.out⟩, rfl⟩, ?_⟩
  unfold wpChain
  go_wp2_with fail
  refine (HC1.out _ Hy1.out).mono ?_
  rintro e y2 ⟨rfl, hb⟩
  have Hy2 : Hid (Below V.heap.size V y2) := Lib.hid (Hy1.out.trans (hb.mono Hy1.out.size))
  clear hb
  go_wp2_with fail
  refine ⟨⟨⟨_, Hy2.out⟩, rfl⟩, ?_⟩
  unfold wpChain
  clear HC1
  try simp only [Act.put, List.setIfInBounds_toArray, List.set_cons_succ, List.set_cons_zero]
  repeat (go_big_quiet_step (fail))
  refine wpQuiet_nil ?_
  unfold wpChain
  go_wp2_with fail
  refine (HC2.out _ Hy2.out).mono ?_
  rintro e y3 ⟨rfl, hb⟩
  have Hy3 : Hid (Below V.heap.size V y3) := Lib.hid (Hy2.out.trans (hb.mono Hy2.out.size))
  clear hb
  go_wp2_with fail
  refine ⟨⟨⟨_, Hy3.out⟩, rfl⟩, ?_⟩
  unfold wpChain
  clear HC2
  try simp only [Act.put, List.setIfInBounds_toArray, List.set_cons_succ, List.set_cons_zero]
  repeat (go_big_quiet_step (fail))
  refine wpQuiet_nil ?_
  unfold wpChain
  go_wp2_with fail
  refine (HC3.out _ Hy3.out).mono ?_
  rintro e y4 ⟨rfl, hb⟩
  have Hy4 : Hid (Below V.heap.size V y4) := Lib.hid (Hy3.out.trans (hb.mono Hy3.out.size))
  clear hb
  go_wp2_with fail
  refine ⟨⟨⟨_, Hy4.out⟩, rfl⟩, ?_⟩
  unfold wpChain
  clear HC3
  try simp only [Act.put, List.setIfInBounds_toArray, List.set_cons_succ, List.set_cons_zero]
  repeat (go_big_quiet_step (fail))
  refine wpQuiet_nil ?_
  unfold wpChain
  try unfold wpPlan
  clear n0 n1 p0 p1 q0 q1 q2 q3 r0 r1 r2 r3 hDD
  have HGU := Lib.hid (HG13.out.on Hy4.out)
  clear Hy1 Hy2 Hy3 Hy4 HG13
  go_upto_region 11 with fail
  generalize y4 = U at *
  have h1 : ∀ V', Below U.heap.size U V' → Calls Try.prog 18 #[.agg #[.slice A es.length c, .int .i64 m], .slice B fs.length d] V' (GivesK (pushK ⟨rws es, m⟩ (rws fs)) V') := fun V' hV => hpush A c es m B d fs V' ((HGU.out.rx (A, c, es) (by simp)).on hV) HOK.out.1 HOK.out.2.2.2.1 (by omega) ((HGU.out.rx (B, d, fs) (by simp)).on hV) HOK.out.2.1 (by omega)
  have h2 : ∀ V', Below U.heap.size U V' → Calls Try.prog 19 #[.agg #[.slice A es.length c, .int .i64 m], .slice B fs.length d] V' (GivesK (pushK ⟨rws es, m⟩ (rws fs)) V') := fun V' hV => rPushK_c A c es m B d fs V' ((HGU.out.rx (A, c, es) (by simp)).on hV) HOK.out.1 HOK.out.2.2.2.1 ((HGU.out.rx (B, d, fs) (by simp)).on hV) HOK.out.2.1 (by omega) (by omega)
  have h3 : ∀ V', Below U.heap.size U V' → Calls Try.prog 20 #[.agg #[.slice A es.length c, .int .i64 m], .agg #[.slice G gs.length gd], .int .i64 n] V' (GivesG (windowK ⟨rws es, m⟩ (rws gs) n) V') := fun V' hV => hwin A c es m G gd gs n V' ((HGU.out.rx (A, c, es) (by simp)).on hV) HOK.out.1 HOK.out.2.2.2.1 (by omega) ((HGU.out.rx (G, gd, gs) (by simp)).on hV) HOK.out.2.2.1 (by omega) HOK.out.2.2.2.2
  have h4 : ∀ V', Below U.heap.size U V' → Calls Try.prog 21 #[.agg #[.slice A es.length c, .int .i64 m], .agg #[.slice G gs.length gd], .int .i64 n] V' (GivesG (windowK ⟨rws es, m⟩ (rws gs) n) V') := fun V' hV => rWindowK_c A c es m G gd gs n V' ((HGU.out.rx (A, c, es) (by simp)).on hV) HOK.out.1 HOK.out.2.2.2.1 ((HGU.out.rx (G, gd, gs) (by simp)).on hV) HOK.out.2.2.1 HOK.out.2.2.2.2 (by omega) (by omega)
  have h5 : ∀ V', Below U.heap.size U V' → Calls Try.prog 22 #[.agg #[.slice A es.length c, .int .i64 m]] V' fun e w' => e = .returned (.int .i64 (cellsK ⟨rws es, m⟩ : Int)) ∧ Below V'.heap.size V' w' := fun V' hV => hc A c es m V' ((HGU.out.rx (A, c, es) (by simp)).on hV) HOK.out.1 HOK.out.2.2.2.1 (by omega)
  have h6 : ∀ V', Below U.heap.size U V' → Calls Try.prog 23 #[.agg #[.slice A es.length c, .int .i64 m]] V' fun e w' => e = .returned (.int .i64 (cellsK ⟨rws es, m⟩ : Int)) ∧ Below V'.heap.size V' w' := fun V' hV => rCellsK_c A c es m V' ((HGU.out.rx (A, c, es) (by simp)).on hV) HOK.out.1 HOK.out.2.2.2.1
  have h7 : ∀ V', Below U.heap.size U V' → Calls Try.prog 24 #[.agg #[.slice A es.length c, .int .i64 m]] V' fun e w' => e = .returned (.bool (decide (SaneK ⟨rws es, m⟩))) ∧ Below V'.heap.size V' w' := fun V' hV => hs A c es m V' ((HGU.out.rx (A, c, es) (by simp)).on hV) HOK.out.1 HOK.out.2.2.2.1 (by omega)
  have h8 : ∀ V', Below U.heap.size U V' → Calls Try.prog 25 #[.agg #[.slice A es.length c, .int .i64 m]] V' fun e w' => e = .returned (.bool (decide (SaneK ⟨rws es, m⟩))) ∧ Below V'.heap.size V' w' := fun V' hV => rSaneK_c A c es m V' ((HGU.out.rx (A, c, es) (by simp)).on hV) HOK.out.1 HOK.out.2.2.2.1
  have h9 : ∀ V', Calls Try.prog 26 #[.int .i64 n] V' (GivesK (newK n) V') := fun V' => hn n V' HOK.out.2.2.2.2
  have h10 := fun V' => rNewK_c n V' HOK.out.2.2.2.2
  have hnr : (newK n).rs = [] := rfl
  have HNR := Lib.hid hnr
  unfold GivesK at h1 h2 h9
  unfold GivesG at h3 h4
  generalize pushK ⟨rws es, m⟩ (rws fs) = PK at *
  generalize windowK ⟨rws es, m⟩ (rws gs) n = WK at *
  generalize ((cellsK ⟨rws es, m⟩ : Nat) : Int) = CK at *
  generalize decide (SaneK ⟨rws es, m⟩) = SK at *
  generalize newK n = NK at *
  have H1 := Lib.hid h1
  have H2 := Lib.hid h2
  have H3 := Lib.hid h3
  have H4 := Lib.hid h4
  have H5 := Lib.hid h5
  have H6 := Lib.hid h6
  have H7 := Lib.hid h7
  have H8 := Lib.hid h8
  have H9 := Lib.hid h9
  have H10 := Lib.hid h10
  clear h1 h2 h3 h4 h5 h6 h7 h8 h9 h10 hnr HOK
  have hck : (CK == CK) = true := beq_self_eq_true _
  have hsk : (SK == SK) = true := beq_self_eq_true _
  have hkb := HGU.out.bx (ob, 27, #[.slice A es.length c, .int .i64 m]) (by simp)
  have n0 := Ext.cell (w := U) (B := U.heap.size) hkb.lt (show U.cell? ⟨ob, 0, none⟩ = some (.slice A es.length c) from hkb.cell 0)
  have n1 := Ext.cell (w := U) (B := U.heap.size) hkb.lt (show U.cell? ⟨ob, 1, none⟩ = some (.int .i64 m) from hkb.cell 1)
  clear hkb
  have hkb := HGU.out.bx (w.heap.size, 24, #[.slice A es.length c, .int .i64 m]) (by simp)
  have p0 := Ext.cell (w := U) (B := U.heap.size) hkb.lt (show U.cell? ⟨w.heap.size, 0, none⟩ = some (.slice A es.length c) from hkb.cell 0)
  have p1 := Ext.cell (w := U) (B := U.heap.size) hkb.lt (show U.cell? ⟨w.heap.size, 1, none⟩ = some (.int .i64 m) from hkb.cell 1)
  clear hkb
  refine region_plan [([0, 1, 2, 3, 6, 7], [4, 5, 8, 9]), ([10, 11, 12, 13, 14, 15, 17, 18, 19, 20], [16, 21, 22]), ([23, 24, 25, 27], [26, 28]), ([29, 30, 31, 32, 34], [33, 35]), ([36, 37, 38, 39, 42], [40, 41, 43, 44]), ([45, 46], [])] (fun w' => ∃ u : Ext U U.heap.size, w' = u.val) (by kernel_rfl) (by kernel_rfl) (fun _ _ _ _ _ h => h) ⟨⟨_, (Below.refl _ _).drew⟩, rfl⟩ ?_
  simp only [wpPlan, sel, List.take_succ_cons, List.take_zero, List.drop_succ_cons, List.drop_zero, List.cons_append, List.nil_append]
  repeat (go_big_quiet_step (fail))
  refine wpQuiet_nil ?_
  unfold wpChain
  go_wp2_with fail
  refine (H1.out _ (Below.refl _ _).drew).mono ?_
  rintro e u1 ⟨Xa, ka, fa, rfl, hI, hr, hb⟩
  have Hu1 : Hid (Below U.heap.size U u1) := Lib.hid ((Below.refl U.heap.size U).drew.trans hb)
  have HIa := Lib.hid (And.intro hI hr)
  clear hI hr
  clear hb
  go_wp2_with fail
  refine ⟨⟨⟨_, Hu1.out⟩, rfl⟩, ?_⟩
  unfold wpChain
  go_wp2_with fail
  refine (theirs_c Xa (List.length fa) ka PK.cap _).mono ?_
  rintro e u2 ⟨rfl, hb⟩
  have Hu2 : Hid (Below U.heap.size U u2) := Lib.hid (Hu1.out.trans (hb.mono Hu1.out.size))
  have HIan := Lib.hid (And.intro (HIa.out.1.on hb) HIa.out.2)
  clear HIa
  have HIa := HIan
  clear HIan
  clear hb
  go_wp2_with fail
  refine ⟨⟨⟨_, Hu2.out⟩, rfl⟩, ?_⟩
  unfold wpChain
  go_wp2_with fail
  refine (H2.out _ Hu2.out).mono ?_
  rintro e u3 ⟨Xb, kb, fb, rfl, hI, hr, hb⟩
  have Hu3 : Hid (Below U.heap.size U u3) := Lib.hid (Hu2.out.trans (hb.mono Hu2.out.size))
  have HIb := Lib.hid (And.intro hI hr)
  clear hI hr
  have HIan := Lib.hid (And.intro (HIa.out.1.on hb) HIa.out.2)
  clear HIa
  have HIa := HIan
  clear HIan
  have hs1 := sameK_c Xa Xb ka kb fa fb PK.cap PK.cap u3 HIa.out.1 HIb.out.1
  rw [decide_eq_true (by rw [HIa.out.2, HIb.out.2])] at hs1
  clear HIa HIb
  clear hb
  go_wp2_with fail
  refine ⟨⟨⟨_, Hu3.out⟩, rfl⟩, ?_⟩
  unfold wpChain
  go_wp2_with fail
  refine (hs1).mono ?_
  rintro e u4 ⟨rfl, hb⟩
  have Hu4 : Hid (Below U.heap.size U u4) := Lib.hid (Hu3.out.trans (hb.mono Hu3.out.size))
  clear hb
  go_wp2_with fail
  refine ⟨⟨⟨_, Hu4.out⟩, rfl⟩, ?_⟩
  unfold wpChain
  clear hs1 H1 H2
  try simp only [Act.put, List.setIfInBounds_toArray, List.set_cons_succ, List.set_cons_zero]
  repeat (go_big_quiet_step (fail))
  refine wpQuiet_nil ?_
  unfold wpChain
  go_wp2_with fail
  refine (H3.out _ Hu4.out).mono ?_
  rintro e u5 ⟨Xa, ka, fa, rfl, hI, hr, hb⟩
  have Hu5 : Hid (Below U.heap.size U u5) := Lib.hid (Hu4.out.trans (hb.mono Hu4.out.size))
  have HIa := Lib.hid (And.intro hI hr)
  clear hI hr
  clear hb
  go_wp2_with fail
  refine ⟨⟨⟨_, Hu5.out⟩, rfl⟩, ?_⟩
  unfold wpChain
  go_wp2_with fail
  refine (H4.out _ Hu5.out).mono ?_
  rintro e u6 ⟨Xb, kb, fb, rfl, hI, hr, hb⟩
  have Hu6 : Hid (Below U.heap.size U u6) := Lib.hid (Hu5.out.trans (hb.mono Hu5.out.size))
  have HIb := Lib.hid (And.intro hI hr)
  clear hI hr
  have HIan := Lib.hid (And.intro (HIa.out.1.on hb) HIa.out.2)
  clear HIa
  have HIa := HIan
  clear HIan
  have hs1 := same9_c Xa Xb fa fb ka kb u6 HIa.out.1 HIb.out.1
  rw [decide_eq_true (by rw [HIa.out.2, HIb.out.2])] at hs1
  clear HIa HIb
  clear hb
  go_wp2_with fail
  refine ⟨⟨⟨_, Hu6.out⟩, rfl⟩, ?_⟩
  unfold wpChain
  go_wp2_with fail
  refine (hs1).mono ?_
  rintro e u7 ⟨rfl, hb⟩
  have Hu7 : Hid (Below U.heap.size U u7) := Lib.hid (Hu6.out.trans (hb.mono Hu6.out.size))
  clear hb
  go_wp2_with fail
  refine ⟨⟨⟨_, Hu7.out⟩, rfl⟩, ?_⟩
  unfold wpChain
  clear hs1 H3 H4
  try simp only [Act.put, List.setIfInBounds_toArray, List.set_cons_succ, List.set_cons_zero]
  repeat (go_big_quiet_step (fail))
  refine wpQuiet_nil ?_
  unfold wpChain
  go_wp2_with fail
  refine (H5.out _ Hu7.out).mono ?_
  rintro e u8 ⟨rfl, hb⟩
  have Hu8 : Hid (Below U.heap.size U u8) := Lib.hid (Hu7.out.trans (hb.mono Hu7.out.size))
  clear hb
  go_wp2_with fail
  refine ⟨⟨⟨_, Hu8.out⟩, rfl⟩, ?_⟩
  unfold wpChain
  clear H5
  go_wp2_with fail
  refine (H6.out _ Hu8.out).mono ?_
  rintro e u9 ⟨rfl, hb⟩
  have Hu9 : Hid (Below U.heap.size U u9) := Lib.hid (Hu8.out.trans (hb.mono Hu8.out.size))
  clear hb
  go_wp2_with fail
  refine ⟨⟨⟨_, Hu9.out⟩, rfl⟩, ?_⟩
  unfold wpChain
  clear H6
  try simp only [Act.put, List.setIfInBounds_toArray, List.set_cons_succ, List.set_cons_zero]
  repeat (go_big_quiet_step (fail))
  refine wpQuiet_nil ?_
  unfold wpChain
  go_wp2_with fail
  refine (H7.out _ Hu9.out).mono ?_
  rintro e u10 ⟨rfl, hb⟩
  have Hu10 : Hid (Below U.heap.size U u10) := Lib.hid (Hu9.out.trans (hb.mono Hu9.out.size))
  clear hb
  go_wp2_with fail
  refine ⟨⟨⟨_, Hu10.out⟩, rfl⟩, ?_⟩
  unfold wpChain
  clear H7
  go_wp2_with fail
  refine (H8.out _ Hu10.out).mono ?_
  rintro e u11 ⟨rfl, hb⟩
  have Hu11 : Hid (Below U.heap.size U u11) := Lib.hid (Hu10.out.trans (hb.mono Hu10.out.size))
  clear hb
  go_wp2_with fail
  refine ⟨⟨⟨_, Hu11.out⟩, rfl⟩, ?_⟩
  unfold wpChain
  clear H8
  try simp only [Act.put, List.setIfInBounds_toArray, List.set_cons_succ, List.set_cons_zero]
  repeat (go_big_quiet_step (fail))
  refine wpQuiet_nil ?_
  unfold wpChain
  go_wp2_with fail
  refine (H9.out _).mono ?_
  rintro e u12 ⟨Xa, ka, fa, rfl, hI, hr, hb⟩
  have Hu12 : Hid (Below U.heap.size U u12) := Lib.hid (Hu11.out.trans (hb.mono Hu11.out.size))
  have HIa := Lib.hid (And.intro hI hr)
  clear hI hr
  clear hb
  go_wp2_with fail
  refine ⟨⟨⟨_, Hu12.out⟩, rfl⟩, ?_⟩
  unfold wpChain
  go_wp2_with fail
  refine (theirs_c Xa (List.length fa) ka NK.cap _).mono ?_
  rintro e u13 ⟨rfl, hb⟩
  have Hu13 : Hid (Below U.heap.size U u13) := Lib.hid (Hu12.out.trans (hb.mono Hu12.out.size))
  have HIan := Lib.hid (And.intro (HIa.out.1.on hb) HIa.out.2)
  clear HIa
  have HIa := HIan
  clear HIan
  clear hb
  go_wp2_with fail
  refine ⟨⟨⟨_, Hu13.out⟩, rfl⟩, ?_⟩
  unfold wpChain
  go_wp2_with fail
  refine (H10.out _).mono ?_
  rintro e u14 ⟨rfl, hb⟩
  have Hu14 : Hid (Below U.heap.size U u14) := Lib.hid (Hu13.out.trans (hb.mono Hu13.out.size))
  have HIan := Lib.hid (And.intro (HIa.out.1.on hb) HIa.out.2)
  clear HIa
  have HIa := HIan
  clear HIan
  have hs1 := sameK_c Xa none ka 0 fa [] NK.cap NK.cap u14 HIa.out.1 (InG.nil (by decide))
  rw [decide_eq_true (by rw [HIa.out.2, HNR.out]; rfl)] at hs1
  clear HIa
  clear hb
  go_wp2_with fail
  refine ⟨⟨⟨_, Hu14.out⟩, rfl⟩, ?_⟩
  unfold wpChain
  go_wp2_with fail
  refine (hs1).mono ?_
  rintro e u15 ⟨rfl, hb⟩
  have Hu15 : Hid (Below U.heap.size U u15) := Lib.hid (Hu14.out.trans (hb.mono Hu14.out.size))
  clear hb
  go_wp2_with fail
  refine ⟨⟨⟨_, Hu15.out⟩, rfl⟩, ?_⟩
  unfold wpChain
  clear hs1
  try simp only [Act.put, List.setIfInBounds_toArray, List.set_cons_succ, List.set_cons_zero]
  repeat (go_big_quiet_step (fail))
  refine wpQuiet_nil ?_
  unfold wpChain
  try unfold wpPlan
  have hbl := HGU.out.bl.trans (Hu15.out.mono HGU.out.bl.size)
  clear n0 n1 p0 p1 hck hsk Hu1 Hu2 Hu3 Hu4 Hu5 Hu6 Hu7 Hu8 Hu9 Hu10 Hu11 Hu12 Hu13 Hu14 Hu15 HGU
  go_wp2_with fail
  go_ret
  exact ⟨rfl, hbl⟩
end Go.Proofs.Ytinbdpfjpcgikaa
