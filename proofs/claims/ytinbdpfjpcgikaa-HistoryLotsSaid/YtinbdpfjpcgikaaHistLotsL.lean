/- HistoryLots over the contracts. -/
import Derived.Test.YtinbdpfjpcgikaaBase6
namespace Go.Proofs.Ytinbdpfjpcgikaa
open Go Go.RowKit
set_option linter.unusedVariables false
set_option linter.unusedSimpArgs false

/-- What is pushed in two lots lies in a variable. -/
def BMet (V : World) (m : Int) (l : List Rw) (u : Value) (wx : World) : Prop := ∃ (gb : Nat) (Ay : Option Addr) (cy : Nat) (ey : List Rl), u = .pointer (some ⟨gb, 0, none⟩) ∧ Hid (Box wx gb 27 #[.slice Ay ey.length cy, .int .i64 m] ∧ InG wx Ay cy ey ∧ rws ey = l ∧ Below V.heap.size V wx)
set_option maxRecDepth 100000 in
set_option maxHeartbeats 4000000 in
theorem lots_law10 (hn : New10C) (hpush : Push10C) (hat : At10C) (hs : Sane10C) (hc : Cells10C) (A : Option Addr) (c : Nat) (es : List Rl) (m : Int) (B : Option Addr) (d : Nat) (fs : List Rl) (kn : Int) (w : World) (hin : InG w A c es) (hok : RsOk (rws es)) (hm : I64 m) (hl : InG w B d fs) (hlk : RsOk (rws fs)) :
    Calls Try.prog 6 #[.agg #[.slice A es.length c, .int .i64 m], .slice B fs.length d, .int .i64 kn] w fun e w' => e = .returned (.bool true) ∧ Below w.heap.size w w' := by
  have hb0 : Below w.heap.size w (w.alloc (.cells #[.slice A es.length c, .int .i64 m] 24)) := (Below.refl _ _).alloc (Nat.le_refl _) _
  have HG0 : Hid (Hk w (w.alloc (.cells #[.slice A es.length c, .int .i64 m] 24)) A c es m B d fs) := Lib.hid ⟨Box.new w _ _, hin.on hb0, hl.on hb0, hb0⟩
  have HOK := Lib.hid (And.intro hok (And.intro hlk hm))
  have a1 := and_65535 kn
  have hawake := awake10_c hn hpush hat hs hc (w.alloc (.cells #[.slice A es.length c, .int .i64 m] 24))
  have hce := hin.rows.cap
  have hcf := hl.rows.cap
  clear hb0 hin hl hok hlk
  go_enter Try.func6, Try.ntmps6
  go_wp2_with fail
  refine hawake.mono ?_
  rintro e v1 ⟨rfl, hb⟩
  have HG1 := Lib.hid (HG0.out.on hb)
  clear hb hawake HG0
  obtain ⟨k0, k1⟩ := HG1.out.cells
  have hf1 := few_c A c es v1 HG1.out.ik
  cases hq1 : decide (FewR (rws es)) with
  | false =>
    rw [hq1] at hf1
    clear hq1
    go_wp2_with fail
    refine hf1.mono ?_
    rintro e vX ⟨rfl, hb⟩
    have hbl := HG1.out.bl.trans (hb.mono HG1.out.bl.size)
    clear hb hf1 k0 k1
    go_wp2_with fail
    go_ret
    exact ⟨rfl, hbl⟩
  | true =>
  rw [hq1] at hf1
  have HF1 := Lib.hid (few_len (of_decide_eq_true hq1))
  clear hq1
  go_wp2_with fail
  refine hf1.mono ?_
  rintro e v2 ⟨rfl, hb⟩
  have HG2 := Lib.hid (HG1.out.on hb)
  clear hb hf1 k0 k1 HG1
  obtain ⟨k0, k1⟩ := HG2.out.cells
  have hf2 := few_c B d fs v2 HG2.out.il
  cases hq2 : decide (FewR (rws fs)) with
  | false =>
    rw [hq2] at hf2
    clear hq2
    go_wp2_with fail
    refine hf2.mono ?_
    rintro e vX ⟨rfl, hb⟩
    have hbl := HG2.out.bl.trans (hb.mono HG2.out.bl.size)
    clear hb hf2 k0 k1
    go_wp2_with fail
    go_ret
    exact ⟨rfl, hbl⟩
  | true =>
  rw [hq2] at hf2
  have HF2 := Lib.hid (few_len (of_decide_eq_true hq2))
  clear hq2
  go_wp2_with fail
  refine hf2.mono ?_
  rintro e v3 ⟨rfl, hb⟩
  have HG3 := Lib.hid (HG2.out.on hb)
  clear hb hf2 k0 k1 HG2
  obtain ⟨k0, k1⟩ := HG3.out.cells
  go_wp2_with fail
  refine (ours_c A es.length c m v3).mono ?_
  rintro e v4 ⟨rfl, hb⟩
  have HG4 := Lib.hid (HG3.out.on hb)
  clear hb k0 k1 HG3
  have hs4 := hs A c es m v4 HG4.out.ik HOK.out.1 HOK.out.2.2 (by have := HF1.out; omega)
  cases hq3 : decide (SaneK ⟨rws es, m⟩) with
  | false =>
    rw [hq3] at hs4
    clear hq3
    go_wp2_with fail
    refine hs4.mono ?_
    rintro e vX ⟨rfl, hb⟩
    have hbl := HG4.out.bl.trans (hb.mono HG4.out.bl.size)
    clear hb hs4
    go_wp2_with fail
    go_ret
    exact ⟨rfl, hbl⟩
  | true =>
  rw [hq3] at hs4
  have HS := Lib.hid (of_decide_eq_true hq3)
  clear hq3
  go_wp2_with fail
  refine hs4.mono ?_
  rintro e v5 ⟨rfl, hb⟩
  have HG5 := Lib.hid (HG4.out.on hb)
  clear hb hs4 HG4
  have he60 : es.length ≤ 60 := HF1.out
  have hf60 : fs.length ≤ 60 := HF2.out
  have hz1 : fs.length + 1 ≤ 61 := by omega
  obtain ⟨z, hz⟩ : ∃ z, kn % 65536 = z := ⟨_, rfl⟩
  rw [hz] at a1
  have hz0 : 0 ≤ z := by omega
  have hz2 : z ≤ 65535 := by omega
  clear hz
  have q1 := Int.emod_nonneg z (show (fs.length : Int) + 1 ≠ 0 by omega)
  have q2 := Int.emod_lt_of_pos z (show (0 : Int) < (fs.length : Int) + 1 by omega)
  obtain ⟨M, hM⟩ : ∃ M : Nat, z % ((fs.length : Int) + 1) = (M : Int) := Int.eq_ofNat_of_zero_le q1
  have hMM : z.tmod ((fs.length : Int) + 1) = (M : Int) := by rw [Int.tmod_eq_emod_of_nonneg hz0]; exact hM
  have hMl : M ≤ fs.length := by omega
  have zn : ¬ (fs.length : Int) + 1 = 0 := by omega
  clear q1 q2 hM
  have hp := hpush A c es m B d fs
  have hpc := (pushK_sane HS.out (rws fs)).2.1
  have HSAID := Lib.hid (lots_said HS.out (rws fs) M)
  have HPC := Lib.hid (And.intro hpc (And.intro (pushK_sane HS.out (rws fs)).1 (And.intro (pushK_sane HS.out ((rws fs).take M)).1 (pushK_sane HS.out ((rws fs).take M)).2.1)))
  obtain ⟨hm0, hm1⟩ : 0 ≤ m ∧ m ≤ 200 := ⟨HS.out.2.1, HS.out.2.2.1⟩
  go_upto_region 5 with fail
  clear a1 hMM zn hz0 hz1 hz2 hpc
  obtain ⟨k0, k1⟩ := HG5.out.cells
  go_wp2_with fail
  refine (ours_c A es.length c m v5).mono ?_
  rintro e v6 ⟨rfl, hb⟩
  have HG6 := Lib.hid (HG5.out.on hb)
  clear hb k0 k1 HG5
  have h1 := hp v6 HG6.out.ik HOK.out.1 HOK.out.2.2 (by omega) HG6.out.il HOK.out.2.1 (by omega)
  unfold GivesK at h1
  rw [HPC.out.1] at h1
  clear hp
  go_wp2_with fail
  refine h1.mono ?_
  rintro e v7 ⟨A1, c1, e1, rfl, hI1, hr1, hb7⟩
  have hal : Below v7.heap.size v7 (v7.alloc (.cells #[.slice A1 e1.length c1, .int .i64 m] 27)) := (Below.refl _ _).alloc (Nat.le_refl _) _
  have hq := hb7.trans (hal.mono hb7.size)
  have HE7 := Lib.hid (And.intro (HG6.out.on hq) (And.intro (hI1.on hal) (Box.new v7 27 #[.slice A1 e1.length c1, .int .i64 m])))
  have HR1 := Lib.hid hr1
  simp only
  clear hal hq hI1 hr1 hb7 h1 HG6
  go_upto_region 6 with fail
  generalize hab : v7.heap.size = ab at *
  generalize v7.alloc (.cells #[.slice A1 e1.length c1, .int .i64 m] 27) = V at *
  clear hab
  obtain ⟨hcu, hIu⟩ := HE7.out.1.il.upto (b := M) hMl
  obtain ⟨B2, d2, hcf2, hIf⟩ := HE7.out.1.il.from_ (a := M) hMl
  have HPA : Hid (∀ V', Below V.heap.size V V' → Calls Try.prog 18 #[.agg #[.slice A es.length c, .int .i64 m], .slice B (fs.take M).length d] V' fun e w' => ∃ Ax cx ex, e = .returned (.agg #[.slice Ax (List.length ex) cx, .int .i64 m]) ∧ InG w' Ax cx ex ∧ rws ex = (pushK ⟨rws es, m⟩ ((rws fs).take M)).rs ∧ Below V'.heap.size V' w') := Lib.hid fun V' hV => by
    have h := hpush A c es m B d (fs.take M) V' (HE7.out.1.ik.on hV) HOK.out.1 HOK.out.2.2 (by omega) (hIu.on hV) (by rw [rws_take]; exact fun r hr => HOK.out.2.1 r (List.mem_of_mem_take hr)) (by rw [List.length_take]; omega)
    unfold GivesK at h
    rw [rws_take, HPC.out.2.2.2] at h
    exact h
  have HQA : Hid (∀ V' Ax cx ex, InG V' Ax cx ex → rws ex = (pushK ⟨rws es, m⟩ ((rws fs).take M)).rs → Below V.heap.size V V' → Calls Try.prog 18 #[.agg #[.slice Ax (List.length ex) cx, .int .i64 m], .slice B2 (fs.drop M).length d2] V' fun e w' => ∃ Ay cy ey, e = .returned (.agg #[.slice Ay (List.length ey) cy, .int .i64 m]) ∧ InG w' Ay cy ey ∧ rws ey = (pushK ⟨rws es, m⟩ (rws fs)).rs ∧ Below V'.heap.size V' w') := Lib.hid fun V' Ax cx ex hI hr hV => by
    have h := hpush Ax cx ex m B2 d2 (fs.drop M) V' hI (by rw [hr]; exact HPC.out.2.2.1.ok) HOK.out.2.2 (by have h1 := HPC.out.2.2.1.few; rw [← hr, rws_length] at h1; omega) (hIf.on hV) (by rw [rws_drop]; exact fun r hr => HOK.out.2.1 r (List.mem_of_mem_drop hr)) (by rw [List.length_drop]; omega)
    have e1 : (⟨rws ex, m⟩ : Kp) = pushK ⟨rws es, m⟩ ((rws fs).take M) := by
      have h2 := HPC.out.2.2.2
      generalize pushK ⟨rws es, m⟩ ((rws fs).take M) = p at *
      obtain ⟨p1, p2⟩ := p
      simp only at hr h2
      rw [hr, h2]
    unfold GivesK at h
    rw [rws_drop, e1, HSAID.out.1, HPC.out.1] at h
    exact h
  have hlt : (fs.take M).length = M := by rw [List.length_take]; omega
  clear hIu hIf hlt
  generalize (fs.take M).length = lt at *
  generalize (fs.drop M).length = ld at *
  have m0 := Ext.cell (w := V) (B := V.heap.size) HE7.out.1.bk.lt (show V.cell? ⟨w.heap.size, 0, none⟩ = some (.slice A es.length c) from HE7.out.1.bk.cell 0)
  have m1 := Ext.cell (w := V) (B := V.heap.size) HE7.out.1.bk.lt (show V.cell? ⟨w.heap.size, 1, none⟩ = some (.int .i64 m) from HE7.out.1.bk.cell 1)
  go_cut [10] (fun u wx => BMet V m (pushK ⟨rws es, m⟩ (rws fs)).rs u wx)
  case first =>
    refine region_float [([0, 2, 3, 4, 6, 7, 8], [])] 1 [1, 5, 9] 10 [([], [11])] (fun w' => ∃ u : Ext V V.heap.size, w' = u.val) (by kernel_rfl) (by kernel_rfl) (fun _ _ _ _ _ h => h) ⟨⟨_, (Below.refl _ _).drew⟩, rfl⟩ ?_
    simp only [wpPlanK, sel, List.take_succ_cons, List.take_zero, List.drop_succ_cons, List.drop_zero, List.cons_append, List.nil_append]
    repeat (go_big_quiet_step (fail))
    refine wpQuiet_nil ?_
    simp only [wpChain, wpFloat, wpPlan, sel, List.take_succ_cons, List.take_zero, List.drop_succ_cons, List.drop_zero, List.cons_append, List.nil_append]
    clear m0 m1
    refine ⟨?_, ?_⟩
    · have HB : Hid (Below V.heap.size V (V.alloc (.cells #[.slice none 0 0, .int .i64 0] 27)).drew ∧ Box (V.alloc (.cells #[.slice none 0 0, .int .i64 0] 27)).drew V.heap.size 27 #[.slice none 0 0, .int .i64 0]) := Lib.hid ⟨((Below.refl V.heap.size V).alloc (Nat.le_refl _) _).drew, Box.new V _ _⟩
      go_wp2_with fail
      refine ⟨⟨⟨_, HB.out.1⟩, rfl⟩, ?_⟩
      generalize (V.alloc (.cells #[.slice none 0 0, .int .i64 0] 27)).drew = y1 at *
      have Hy1 := Lib.hid HB.out.1
      have HBX := Lib.hid HB.out.2
      have HLE : Hid (V.heap.size ≤ V.heap.size) := Lib.hid (Nat.le_refl _)
      clear HB
      go_wp2_with fail
      refine (ours_c A es.length c m _).mono ?_
      rintro e y2 ⟨rfl, hb⟩
      have Hy2 : Hid (Below V.heap.size V y2) := Lib.hid (Hy1.out.trans (hb.mono Hy1.out.size))
      have HBX2 := Lib.hid (HBX.out.below hb HBX.out.lt)
      clear HBX
      have HBX := HBX2
      clear HBX2
      clear hb
      go_wp2_with fail
      refine ⟨⟨⟨_, Hy2.out⟩, rfl⟩, ?_⟩
      go_wp2_with fail
      refine (HPA.out _ Hy2.out).mono ?_
      rintro e y3 ⟨Ax, cx, ex, rfl, hIx, hrx, hb⟩
      have Hy3 : Hid (Below V.heap.size V y3) := Lib.hid (Hy2.out.trans (hb.mono Hy2.out.size))
      have HBX2 := Lib.hid (HBX.out.below hb HBX.out.lt)
      clear HBX
      have HBX := HBX2
      clear HBX2
      have HX := Lib.hid (And.intro hIx hrx)
      clear hIx hrx
      clear hb
      go_wp2_with fail
      refine ⟨⟨⟨_, Hy3.out⟩, rfl⟩, ?_⟩
      go_wp2_with fail
      refine (HQA.out _ Ax cx ex HX.out.1 HX.out.2 Hy3.out).mono ?_
      rintro e y4 ⟨Ay, cy, ey, rfl, hIy, hry, hb⟩
      have Hy4 : Hid (Below V.heap.size V y4) := Lib.hid (Hy3.out.trans (hb.mono Hy3.out.size))
      have HBX2 := Lib.hid (HBX.out.below hb HBX.out.lt)
      clear HBX
      have HBX := HBX2
      clear HBX2
      have HY := Lib.hid (And.intro hIy hry)
      clear hIy hry HX
      clear hb
      go_wp2_with fail
      refine ⟨⟨⟨_, Hy4.out⟩, rfl⟩, ?_⟩
      try refine wpQuiet_nil ?_
      have f0 : y4.frozen? ⟨V.heap.size, 0, none⟩ = false := HBX.out.free 0
      have f1 : y4.frozen? ⟨V.heap.size, 1, none⟩ = false := HBX.out.free 1
      have j0 : y4.cell? ⟨V.heap.size, 0, none⟩ = some (.slice none 0 0) := HBX.out.cell 0
      have j1 : y4.cell? ⟨V.heap.size, 1, none⟩ = some (.int .i64 0) := HBX.out.cell 1
      have HPUT : Hid (Box ((y4.setCell ⟨V.heap.size, 0, none⟩ (.slice Ay ey.length cy)).setCell ⟨V.heap.size, 1, none⟩ (.int .i64 m)) V.heap.size 27 #[.slice Ay ey.length cy, .int .i64 m] ∧ InG ((y4.setCell ⟨V.heap.size, 0, none⟩ (.slice Ay ey.length cy)).setCell ⟨V.heap.size, 1, none⟩ (.int .i64 m)) Ay cy ey ∧ rws ey = (pushK ⟨rws es, m⟩ (rws fs)).rs ∧ Below V.heap.size V ((y4.setCell ⟨V.heap.size, 0, none⟩ (.slice Ay ey.length cy)).setCell ⟨V.heap.size, 1, none⟩ (.int .i64 m))) := Lib.hid ⟨(HBX.out.set_ 0 _).set_ 1 _, (HY.out.1.far1 HBX.out (by simp) 0 _).far1 (HBX.out.set_ 0 _) (by simp) 1 _, HY.out.2, (Hy4.out.setCell (p := ⟨V.heap.size, 0, none⟩) HLE.out _).setCell (p := ⟨V.heap.size, 1, none⟩) HLE.out _⟩
      go_wp2_with fail
      refine ⟨⟨⟨_, HPUT.out.2.2.2⟩, rfl⟩, ?_⟩
      try unfold wpPlan
      go_wp2_with fail
      go_meet
      exact ⟨V.heap.size, Ay, cy, ey, rfl, HPUT⟩
    · go_wp2_with fail
      refine (ours_c A es.length c m _).mono ?_
      rintro e y1 ⟨rfl, hb⟩
      have Hy1 : Hid (Below V.heap.size V y1) := Lib.hid ((Below.refl V.heap.size V).drew.trans hb)
      clear hb
      go_wp2_with fail
      refine ⟨⟨⟨_, Hy1.out⟩, rfl⟩, ?_, ?_⟩
      · have HB : Hid (Below V.heap.size V (y1.alloc (.cells #[.slice none 0 0, .int .i64 0] 27)) ∧ Box (y1.alloc (.cells #[.slice none 0 0, .int .i64 0] 27)) y1.heap.size 27 #[.slice none 0 0, .int .i64 0] ∧ Below y1.heap.size y1 (y1.alloc (.cells #[.slice none 0 0, .int .i64 0] 27)) ∧ V.heap.size ≤ y1.heap.size) := Lib.hid ⟨Hy1.out.alloc Hy1.out.size _, Box.new y1 _ _, (Below.refl _ _).alloc (Nat.le_refl _) _, Hy1.out.size⟩
        go_wp2_with fail
        refine ⟨⟨⟨_, HB.out.1⟩, rfl⟩, ?_⟩
        generalize hgb : y1.heap.size = gb at *
        generalize y1.alloc (.cells #[.slice none 0 0, .int .i64 0] 27) = y2 at *
        have Hy2 := Lib.hid HB.out.1
        have HBX := Lib.hid HB.out.2.1
        have HLE := Lib.hid HB.out.2.2.2
        clear HB hgb
        go_wp2_with fail
        refine (HPA.out _ Hy2.out).mono ?_
        rintro e y3 ⟨Ax, cx, ex, rfl, hIx, hrx, hb⟩
        have Hy3 : Hid (Below V.heap.size V y3) := Lib.hid (Hy2.out.trans (hb.mono Hy2.out.size))
        have HBX2 := Lib.hid (HBX.out.below hb HBX.out.lt)
        clear HBX
        have HBX := HBX2
        clear HBX2
        have HX := Lib.hid (And.intro hIx hrx)
        clear hIx hrx
        clear hb
        go_wp2_with fail
        refine ⟨⟨⟨_, Hy3.out⟩, rfl⟩, ?_⟩
        go_wp2_with fail
        refine (HQA.out _ Ax cx ex HX.out.1 HX.out.2 Hy3.out).mono ?_
        rintro e y4 ⟨Ay, cy, ey, rfl, hIy, hry, hb⟩
        have Hy4 : Hid (Below V.heap.size V y4) := Lib.hid (Hy3.out.trans (hb.mono Hy3.out.size))
        have HBX2 := Lib.hid (HBX.out.below hb HBX.out.lt)
        clear HBX
        have HBX := HBX2
        clear HBX2
        have HY := Lib.hid (And.intro hIy hry)
        clear hIy hry HX
        clear hb
        go_wp2_with fail
        refine ⟨⟨⟨_, Hy4.out⟩, rfl⟩, ?_⟩
        try refine wpQuiet_nil ?_
        have f0 : y4.frozen? ⟨gb, 0, none⟩ = false := HBX.out.free 0
        have f1 : y4.frozen? ⟨gb, 1, none⟩ = false := HBX.out.free 1
        have j0 : y4.cell? ⟨gb, 0, none⟩ = some (.slice none 0 0) := HBX.out.cell 0
        have j1 : y4.cell? ⟨gb, 1, none⟩ = some (.int .i64 0) := HBX.out.cell 1
        have HPUT : Hid (Box ((y4.setCell ⟨gb, 0, none⟩ (.slice Ay ey.length cy)).setCell ⟨gb, 1, none⟩ (.int .i64 m)) gb 27 #[.slice Ay ey.length cy, .int .i64 m] ∧ InG ((y4.setCell ⟨gb, 0, none⟩ (.slice Ay ey.length cy)).setCell ⟨gb, 1, none⟩ (.int .i64 m)) Ay cy ey ∧ rws ey = (pushK ⟨rws es, m⟩ (rws fs)).rs ∧ Below V.heap.size V ((y4.setCell ⟨gb, 0, none⟩ (.slice Ay ey.length cy)).setCell ⟨gb, 1, none⟩ (.int .i64 m))) := Lib.hid ⟨(HBX.out.set_ 0 _).set_ 1 _, (HY.out.1.far1 HBX.out (by simp) 0 _).far1 (HBX.out.set_ 0 _) (by simp) 1 _, HY.out.2, (Hy4.out.setCell (p := ⟨gb, 0, none⟩) HLE.out _).setCell (p := ⟨gb, 1, none⟩) HLE.out _⟩
        go_wp2_with fail
        refine ⟨⟨⟨_, HPUT.out.2.2.2⟩, rfl⟩, ?_⟩
        try unfold wpPlan
        go_wp2_with fail
        go_meet
        exact ⟨gb, Ay, cy, ey, rfl, HPUT⟩
      · go_wp2_with fail
        refine (HPA.out _ Hy1.out).mono ?_
        rintro e y2 ⟨Ax, cx, ex, rfl, hIx, hrx, hb⟩
        have Hy2 : Hid (Below V.heap.size V y2) := Lib.hid (Hy1.out.trans (hb.mono Hy1.out.size))
        have HX := Lib.hid (And.intro hIx hrx)
        clear hIx hrx
        clear hb
        go_wp2_with fail
        refine ⟨⟨⟨_, Hy2.out⟩, rfl⟩, ?_, ?_⟩
        · have HB : Hid (Below V.heap.size V (y2.alloc (.cells #[.slice none 0 0, .int .i64 0] 27)) ∧ Box (y2.alloc (.cells #[.slice none 0 0, .int .i64 0] 27)) y2.heap.size 27 #[.slice none 0 0, .int .i64 0] ∧ Below y2.heap.size y2 (y2.alloc (.cells #[.slice none 0 0, .int .i64 0] 27)) ∧ V.heap.size ≤ y2.heap.size) := Lib.hid ⟨Hy2.out.alloc Hy2.out.size _, Box.new y2 _ _, (Below.refl _ _).alloc (Nat.le_refl _) _, Hy2.out.size⟩
          go_wp2_with fail
          refine ⟨⟨⟨_, HB.out.1⟩, rfl⟩, ?_⟩
          have HX2 := Lib.hid (And.intro (HX.out.1.on HB.out.2.2.1) HX.out.2)
          clear HX
          have HX := HX2
          clear HX2
          generalize hgb : y2.heap.size = gb at *
          generalize y2.alloc (.cells #[.slice none 0 0, .int .i64 0] 27) = y3 at *
          have Hy3 := Lib.hid HB.out.1
          have HBX := Lib.hid HB.out.2.1
          have HLE := Lib.hid HB.out.2.2.2
          clear HB hgb
          go_wp2_with fail
          refine (HQA.out _ Ax cx ex HX.out.1 HX.out.2 Hy3.out).mono ?_
          rintro e y4 ⟨Ay, cy, ey, rfl, hIy, hry, hb⟩
          have Hy4 : Hid (Below V.heap.size V y4) := Lib.hid (Hy3.out.trans (hb.mono Hy3.out.size))
          have HBX2 := Lib.hid (HBX.out.below hb HBX.out.lt)
          clear HBX
          have HBX := HBX2
          clear HBX2
          have HY := Lib.hid (And.intro hIy hry)
          clear hIy hry HX
          clear hb
          go_wp2_with fail
          refine ⟨⟨⟨_, Hy4.out⟩, rfl⟩, ?_⟩
          try refine wpQuiet_nil ?_
          have f0 : y4.frozen? ⟨gb, 0, none⟩ = false := HBX.out.free 0
          have f1 : y4.frozen? ⟨gb, 1, none⟩ = false := HBX.out.free 1
          have j0 : y4.cell? ⟨gb, 0, none⟩ = some (.slice none 0 0) := HBX.out.cell 0
          have j1 : y4.cell? ⟨gb, 1, none⟩ = some (.int .i64 0) := HBX.out.cell 1
          have HPUT : Hid (Box ((y4.setCell ⟨gb, 0, none⟩ (.slice Ay ey.length cy)).setCell ⟨gb, 1, none⟩ (.int .i64 m)) gb 27 #[.slice Ay ey.length cy, .int .i64 m] ∧ InG ((y4.setCell ⟨gb, 0, none⟩ (.slice Ay ey.length cy)).setCell ⟨gb, 1, none⟩ (.int .i64 m)) Ay cy ey ∧ rws ey = (pushK ⟨rws es, m⟩ (rws fs)).rs ∧ Below V.heap.size V ((y4.setCell ⟨gb, 0, none⟩ (.slice Ay ey.length cy)).setCell ⟨gb, 1, none⟩ (.int .i64 m))) := Lib.hid ⟨(HBX.out.set_ 0 _).set_ 1 _, (HY.out.1.far1 HBX.out (by simp) 0 _).far1 (HBX.out.set_ 0 _) (by simp) 1 _, HY.out.2, (Hy4.out.setCell (p := ⟨gb, 0, none⟩) HLE.out _).setCell (p := ⟨gb, 1, none⟩) HLE.out _⟩
          go_wp2_with fail
          refine ⟨⟨⟨_, HPUT.out.2.2.2⟩, rfl⟩, ?_⟩
          try unfold wpPlan
          go_wp2_with fail
          go_meet
          exact ⟨gb, Ay, cy, ey, rfl, HPUT⟩
        · go_wp2_with fail
          refine (HQA.out _ Ax cx ex HX.out.1 HX.out.2 Hy2.out).mono ?_
          rintro e y3 ⟨Ay, cy, ey, rfl, hIy, hry, hb⟩
          have Hy3 : Hid (Below V.heap.size V y3) := Lib.hid (Hy2.out.trans (hb.mono Hy2.out.size))
          have HY := Lib.hid (And.intro hIy hry)
          clear hIy hry HX
          clear hb
          go_wp2_with fail
          refine ⟨⟨⟨_, Hy3.out⟩, rfl⟩, ?_⟩
          have HB : Hid (Below V.heap.size V (y3.alloc (.cells #[.slice none 0 0, .int .i64 0] 27)) ∧ Box (y3.alloc (.cells #[.slice none 0 0, .int .i64 0] 27)) y3.heap.size 27 #[.slice none 0 0, .int .i64 0] ∧ Below y3.heap.size y3 (y3.alloc (.cells #[.slice none 0 0, .int .i64 0] 27)) ∧ V.heap.size ≤ y3.heap.size) := Lib.hid ⟨Hy3.out.alloc Hy3.out.size _, Box.new y3 _ _, (Below.refl _ _).alloc (Nat.le_refl _) _, Hy3.out.size⟩
          go_wp2_with fail
          refine ⟨⟨⟨_, HB.out.1⟩, rfl⟩, ?_⟩
          have HY2 := Lib.hid (And.intro (HY.out.1.on HB.out.2.2.1) HY.out.2)
          clear HY
          have HY := HY2
          clear HY2
          generalize hgb : y3.heap.size = gb at *
          generalize y3.alloc (.cells #[.slice none 0 0, .int .i64 0] 27) = y4 at *
          have Hy4 := Lib.hid HB.out.1
          have HBX := Lib.hid HB.out.2.1
          have HLE := Lib.hid HB.out.2.2.2
          clear HB hgb
          try refine wpQuiet_nil ?_
          have f0 : y4.frozen? ⟨gb, 0, none⟩ = false := HBX.out.free 0
          have f1 : y4.frozen? ⟨gb, 1, none⟩ = false := HBX.out.free 1
          have j0 : y4.cell? ⟨gb, 0, none⟩ = some (.slice none 0 0) := HBX.out.cell 0
          have j1 : y4.cell? ⟨gb, 1, none⟩ = some (.int .i64 0) := HBX.out.cell 1
          have HPUT : Hid (Box ((y4.setCell ⟨gb, 0, none⟩ (.slice Ay ey.length cy)).setCell ⟨gb, 1, none⟩ (.int .i64 m)) gb 27 #[.slice Ay ey.length cy, .int .i64 m] ∧ InG ((y4.setCell ⟨gb, 0, none⟩ (.slice Ay ey.length cy)).setCell ⟨gb, 1, none⟩ (.int .i64 m)) Ay cy ey ∧ rws ey = (pushK ⟨rws es, m⟩ (rws fs)).rs ∧ Below V.heap.size V ((y4.setCell ⟨gb, 0, none⟩ (.slice Ay ey.length cy)).setCell ⟨gb, 1, none⟩ (.int .i64 m))) := Lib.hid ⟨(HBX.out.set_ 0 _).set_ 1 _, (HY.out.1.far1 HBX.out (by simp) 0 _).far1 (HBX.out.set_ 0 _) (by simp) 1 _, HY.out.2, (Hy4.out.setCell (p := ⟨gb, 0, none⟩) HLE.out _).setCell (p := ⟨gb, 1, none⟩) HLE.out _⟩
          go_wp2_with fail
          refine ⟨⟨⟨_, HPUT.out.2.2.2⟩, rfl⟩, ?_⟩
          try unfold wpPlan
          go_wp2_with fail
          go_meet
          exact ⟨gb, Ay, cy, ey, rfl, HPUT⟩
  case rest =>
  obtain ⟨bb, Ay, cy, ey, rfl, HBM⟩ := hcut
  clear m0 m1 HPA HQA hcu hcf2
  have HE8 := Lib.hid (And.intro (HE7.out.1.on HBM.out.2.2.2) (And.intro (HE7.out.2.1.on HBM.out.2.2.2) (HE7.out.2.2.below HBM.out.2.2.2 HE7.out.2.2.lt)))
  have HB8 := Lib.hid (And.intro HBM.out.1 (And.intro HBM.out.2.1 HBM.out.2.2.1))
  have h1 := hn 0 wc (by unfold I64; decide)
  unfold GivesK at h1
  rw [show (newK 0).cap = 0 from rfl, show (newK 0).rs = [] from rfl] at h1
  clear HE7 HBM
  go_upto_region 7 with fail
  go_wp2_with fail
  refine h1.mono ?_
  rintro e v8 ⟨A3, c3, e3, rfl, hI3, hr3, hb8⟩
  obtain rfl : e3 = [] := by
    cases e3 with
    | nil => rfl
    | cons x l => simp [rws] at hr3
  have HE9 := Lib.hid (And.intro (HE8.out.1.on hb8) (And.intro (HE8.out.2.1.on hb8) (And.intro (HE8.out.2.2.below hb8 HE8.out.2.2.lt) (And.intro (HB8.out.1.below hb8 HB8.out.1.lt) (HB8.out.2.1.on hb8)))))
  have h2 := hpush A3 c3 [] 0 B d fs v8 hI3 (by simp [RsOk, rws]) (by unfold I64; decide) (by simp) HE9.out.1.il HOK.out.2.1 (by omega)
  unfold GivesK at h2
  rw [show rws ([] : List Rl) = [] from rfl, show (⟨[], 0⟩ : Kp) = newK 0 from rfl, HSAID.out.2.1, (pushK_sane (newK_sane 0) (rws fs)).2.1, show (newK 0).cap = 0 from rfl] at h2
  have HR8 := Lib.hid HB8.out.2.2
  clear hI3 hr3 hb8 h1 HE8 HB8
  go_wp2_with fail
  refine h2.mono ?_
  rintro e v9 ⟨A4, c4, e4, rfl, hI4, hr4, hb9⟩
  obtain rfl : e4 = [] := by
    cases e4 with
    | nil => rfl
    | cons x l => simp [rws] at hr4
  have hal : Below v9.heap.size v9 (v9.alloc (.cells #[.slice A4 0 c4, .int .i64 0] 27)) := (Below.refl _ _).alloc (Nat.le_refl _) _
  have hq := hb9.trans (hal.mono hb9.size)
  have HF := Lib.hid (And.intro (HE9.out.1.on hq) (And.intro (HE9.out.2.1.on hq) (And.intro (HE9.out.2.2.1.below hq HE9.out.2.2.1.lt) (And.intro (HE9.out.2.2.2.1.below hq HE9.out.2.2.2.1.lt) (And.intro (HE9.out.2.2.2.2.on hq) (Box.new v9 27 #[.slice A4 0 c4, .int .i64 0]))))))
  simp only [List.length_nil]
  clear hal hq hI4 hr4 hb9 h2 HE9
  go_upto_region 8 with fail
  generalize hxb : v9.heap.size = xb at *
  generalize v9.alloc (.cells #[.slice A4 0 c4, .int .i64 0] 27) = X at *
  clear hxb
  have n0 := Ext.cell (w := X) (B := X.heap.size) HF.out.2.2.1.lt (show X.cell? ⟨ab, 0, none⟩ = some (.slice A1 e1.length c1) from HF.out.2.2.1.cell 0)
  have n1 := Ext.cell (w := X) (B := X.heap.size) HF.out.2.2.1.lt (show X.cell? ⟨ab, 1, none⟩ = some (.int .i64 m) from HF.out.2.2.1.cell 1)
  have n2 := Ext.cell (w := X) (B := X.heap.size) HF.out.2.2.2.1.lt (show X.cell? ⟨bb, 0, none⟩ = some (.slice Ay ey.length cy) from HF.out.2.2.2.1.cell 0)
  have n3 := Ext.cell (w := X) (B := X.heap.size) HF.out.2.2.2.1.lt (show X.cell? ⟨bb, 1, none⟩ = some (.int .i64 m) from HF.out.2.2.2.1.cell 1)
  have n4 := Ext.cell (w := X) (B := X.heap.size) HF.out.2.2.2.2.2.lt (show X.cell? ⟨xb, 0, none⟩ = some (.slice A4 0 c4) from HF.out.2.2.2.2.2.cell 0)
  have hKp : (⟨rws e1, m⟩ : Kp) = pushK ⟨rws es, m⟩ (rws fs) := by
    have h2 := HPC.out.1
    have h3 := HR1.out
    generalize pushK ⟨rws es, m⟩ (rws fs) = p at *
    obtain ⟨p1, p2⟩ := p
    simp only at h2 h3
    rw [h3, h2]
  have HS1 : Hid (∀ V', Below X.heap.size X V' → Calls Try.prog 15 #[.agg #[.slice A1 e1.length c1, .int .i64 m]] V' fun e w' => e = .returned (.agg #[.slice A1 e1.length c1, .int .i64 m]) ∧ Below V'.heap.size V' w') := Lib.hid fun V' _ => theirs_c A1 e1.length c1 m V'
  have HS2 : Hid (∀ V', Below X.heap.size X V' → Calls Try.prog 15 #[.agg #[.slice Ay ey.length cy, .int .i64 m]] V' fun e w' => e = .returned (.agg #[.slice Ay ey.length cy, .int .i64 m]) ∧ Below V'.heap.size V' w') := Lib.hid fun V' _ => theirs_c Ay ey.length cy m V'
  have HS3 : Hid (∀ V', Below X.heap.size X V' → Calls Try.prog 14 #[.agg #[.slice A1 e1.length c1, .int .i64 m], .agg #[.slice Ay ey.length cy, .int .i64 m]] V' fun e w' => e = .returned (.bool true) ∧ Below V'.heap.size V' w') := Lib.hid fun V' hV => by
    have h := sameK_c A1 Ay c1 cy e1 ey m m V' (HF.out.2.1.on hV) (HF.out.2.2.2.2.1.on hV)
    rw [decide_eq_true (by rw [HR1.out, HR8.out])] at h
    exact h
  obtain ⟨N, hN⟩ : ∃ N, cellsK ⟨rws e1, m⟩ = N := ⟨_, rfl⟩
  have HS4 : Hid (∀ V', Below X.heap.size X V' → Calls Try.prog 22 #[.agg #[.slice A1 e1.length c1, .int .i64 m]] V' fun e w' => e = .returned (.int .i64 (N : Int)) ∧ Below V'.heap.size V' w') := Lib.hid fun V' hV => by
    have h := hc A1 c1 e1 m V' (HF.out.2.1.on hV) (by rw [HR1.out]; exact HPC.out.2.1.ok) HOK.out.2.2 (by have h1 := HPC.out.2.1.few; rw [← HR1.out, rws_length] at h1; omega)
    rw [hN] at h
    exact h
  have hge : (N : Int) ≥ (e1.length : Int) := by
    have h1 := HSAID.out.2.2.1
    rw [← hKp, hN] at h1
    simp only [rws_length] at h1
    omega
  have hle : (e1.length : Int) ≤ m := by
    have h1 := HSAID.out.2.2.2
    rw [← hKp] at h1
    simp only [rws_length] at h1
    exact h1
  have dge : decide (e1.length ≤ N) = true := decide_eq_true (by omega)
  have he1 : e1.length ≤ 200 := by omega
  clear hKp hN
  refine region_plan [([0, 1, 2, 4], [3, 5, 6]), ([7, 8, 9, 10, 11, 12, 13, 14, 15, 17, 18, 19], [16]), ([20, 21, 22, 23, 24, 25, 26, 27, 28, 29, 30], [])] (fun w' => ∃ u : Ext X X.heap.size, w' = u.val) (by kernel_rfl) (by kernel_rfl) (fun _ _ _ _ _ h => h) ⟨⟨_, (Below.refl _ _).drew⟩, rfl⟩ ?_
  simp only [wpPlan, sel, List.take_succ_cons, List.take_zero, List.drop_succ_cons, List.drop_zero, List.cons_append, List.nil_append]
  repeat (go_big_quiet_step (fail))
  refine wpQuiet_nil ?_
  unfold wpChain
  go_wp2_with fail
  refine (HS1.out _ (Below.refl _ _).drew).mono ?_
  rintro e y1 ⟨rfl, hb⟩
  have Hy1 : Hid (Below X.heap.size X y1) := Lib.hid ((Below.refl X.heap.size X).drew.trans hb)
  clear hb
  go_wp2_with fail
  refine ⟨⟨⟨_, Hy1.out⟩, rfl⟩, ?_⟩
  unfold wpChain
  go_wp2_with fail
  refine (HS2.out _ Hy1.out).mono ?_
  rintro e y2 ⟨rfl, hb⟩
  have Hy2 : Hid (Below X.heap.size X y2) := Lib.hid (Hy1.out.trans (hb.mono Hy1.out.size))
  clear hb
  go_wp2_with fail
  refine ⟨⟨⟨_, Hy2.out⟩, rfl⟩, ?_⟩
  unfold wpChain
  go_wp2_with fail
  refine (HS3.out _ Hy2.out).mono ?_
  rintro e y3 ⟨rfl, hb⟩
  have Hy3 : Hid (Below X.heap.size X y3) := Lib.hid (Hy2.out.trans (hb.mono Hy2.out.size))
  clear hb
  go_wp2_with fail
  refine ⟨⟨⟨_, Hy3.out⟩, rfl⟩, ?_⟩
  unfold wpChain
  try simp only [Act.put, List.setIfInBounds_toArray, List.set_cons_succ, List.set_cons_zero]
  repeat (go_big_quiet_step (fail))
  refine wpQuiet_nil ?_
  unfold wpChain
  go_wp2_with fail
  refine (HS4.out _ Hy3.out).mono ?_
  rintro e y4 ⟨rfl, hb⟩
  have Hy4 : Hid (Below X.heap.size X y4) := Lib.hid (Hy3.out.trans (hb.mono Hy3.out.size))
  clear hb
  go_wp2_with fail
  refine ⟨⟨⟨_, Hy4.out⟩, rfl⟩, ?_⟩
  unfold wpChain
  try simp only [Act.put, List.setIfInBounds_toArray, List.set_cons_succ, List.set_cons_zero]
  repeat (go_big_quiet_step (fail))
  refine wpQuiet_nil ?_
  unfold wpChain
  go_wp2_with fail
  go_ret
  exact ⟨rfl, HF.out.1.bl.trans (Hy4.out.mono HF.out.1.bl.size)⟩
end Go.Proofs.Ytinbdpfjpcgikaa
