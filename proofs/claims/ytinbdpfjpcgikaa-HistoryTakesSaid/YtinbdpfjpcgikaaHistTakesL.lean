/- HistoryTakes over the contracts. -/
import Derived.Test.YtinbdpfjpcgikaaBase6
namespace Go.Proofs.Ytinbdpfjpcgikaa
open Go Go.RowKit
set_option linter.unusedVariables false
set_option linter.unusedSimpArgs false

set_option maxRecDepth 100000 in
set_option maxHeartbeats 4000000 in
theorem takes_law10 (hn : New10C) (hpush : Push10C) (hat : At10C) (hs : Sane10C) (hc : Cells10C) (htake : Take10C) (A : Option Addr) (c : Nat) (es : List Rl) (m : Int) (B : Option Addr) (d : Nat) (fs : List Rl) (w : World) (hin : InG w A c es) (hok : RsOk (rws es)) (hm : I64 m) (hl : InG w B d fs) (hlk : RsOk (rws fs)) :
    Calls Try.prog 4 #[.agg #[.slice A es.length c, .int .i64 m], .slice B fs.length d] w fun e w' => e = .returned (.bool true) ∧ Below w.heap.size w w' := by
  have hb0 : Below w.heap.size w (w.alloc (.cells #[.slice A es.length c, .int .i64 m] 24)) := (Below.refl _ _).alloc (Nat.le_refl _) _
  have HG0 : Hid (Hk w (w.alloc (.cells #[.slice A es.length c, .int .i64 m] 24)) A c es m B d fs) := Lib.hid ⟨Box.new w _ _, hin.on hb0, hl.on hb0, hb0⟩
  have HOK := Lib.hid (And.intro hok (And.intro hlk hm))
  have hawake := awake10_c hn hpush hat hs hc (w.alloc (.cells #[.slice A es.length c, .int .i64 m] 24))
  have hce := hin.rows.cap
  have hcf := hl.rows.cap
  clear hb0 hin hl hok hlk
  go_enter Try.func4, Try.ntmps4
  go_wp2_with fail
  refine hawake.mono ?_
  rintro e v1 ⟨rfl, hb⟩
  have HG1 := Lib.hid (HG0.out.on hb)
  clear hb hawake HG0
  obtain ⟨k0, k1⟩ := HG1.out.cells
  have hf1 := few_c A c es v1 HG1.out.ik
  cases hq1 : decide (FewR (rws es)) with
  | false =>
    rw [hq1] at hf1
    clear hq1
    go_wp2_with fail
    refine hf1.mono ?_
    rintro e vX ⟨rfl, hb⟩
    have hbl := HG1.out.bl.trans (hb.mono HG1.out.bl.size)
    clear hb hf1 k0 k1
    go_wp2_with fail
    go_ret
    exact ⟨rfl, hbl⟩
  | true =>
  rw [hq1] at hf1
  have HF1 := Lib.hid (few_len (of_decide_eq_true hq1))
  clear hq1
  go_wp2_with fail
  refine hf1.mono ?_
  rintro e v2 ⟨rfl, hb⟩
  have HG2 := Lib.hid (HG1.out.on hb)
  clear hb hf1 k0 k1 HG1
  obtain ⟨k0, k1⟩ := HG2.out.cells
  have hf2 := few_c B d fs v2 HG2.out.il
  cases hq2 : decide (FewR (rws fs)) with
  | false =>
    rw [hq2] at hf2
    clear hq2
    go_wp2_with fail
    refine hf2.mono ?_
    rintro e vX ⟨rfl, hb⟩
    have hbl := HG2.out.bl.trans (hb.mono HG2.out.bl.size)
    clear hb hf2 k0 k1
    go_wp2_with fail
    go_ret
    exact ⟨rfl, hbl⟩
  | true =>
  rw [hq2] at hf2
  have HF2 := Lib.hid (few_len (of_decide_eq_true hq2))
  clear hq2
  go_wp2_with fail
  refine hf2.mono ?_
  rintro e v3 ⟨rfl, hb⟩
  have HG3 := Lib.hid (HG2.out.on hb)
  clear hb hf2 k0 k1 HG2
  obtain ⟨k0, k1⟩ := HG3.out.cells
  go_wp2_with fail
  refine (ours_c A es.length c m v3).mono ?_
  rintro e v4 ⟨rfl, hb⟩
  have HG4 := Lib.hid (HG3.out.on hb)
  clear hb k0 k1 HG3
  have hs4 := hs A c es m v4 HG4.out.ik HOK.out.1 HOK.out.2.2 (by have := HF1.out; omega)
  cases hq3 : decide (SaneK ⟨rws es, m⟩) with
  | false =>
    rw [hq3] at hs4
    clear hq3
    go_wp2_with fail
    refine hs4.mono ?_
    rintro e vX ⟨rfl, hb⟩
    have hbl := HG4.out.bl.trans (hb.mono HG4.out.bl.size)
    clear hb hs4
    go_wp2_with fail
    go_ret
    exact ⟨rfl, hbl⟩
  | true =>
  rw [hq3] at hs4
  have HS := Lib.hid (of_decide_eq_true hq3)
  clear hq3
  go_wp2_with fail
  refine hs4.mono ?_
  rintro e v5 ⟨rfl, hb⟩
  have HG5 := Lib.hid (HG4.out.on hb)
  clear hb hs4 HG4
  have he60 : es.length ≤ 60 := HF1.out
  have hf60 : fs.length ≤ 60 := HF2.out
  go_wp2_with fail
  go_loopw [6] (fun u6 wr => ∃ i : Nat, i ≤ fs.length ∧ u6 = .int .i64 (i : Int) ∧ Hid (∀ (k : Nat) e, k < i → fs[k]? = some e → SaneR e.r) ∧ Hid (Hk w wr A c es m B d fs)) (fun u6 _ => fs.length - (intOf u6).toNat)
  case atStart => exact ⟨0, Nat.zero_le _, rfl, Lib.hid (fun k y h => absurd h (Nat.not_lt_zero _)), HG5⟩
  case round =>
    obtain ⟨i, hi, rfl, HT, HG6⟩ := hrel
    clear HG5
    by_cases hlt : i < fs.length
    · obtain ⟨x, hx⟩ : ∃ x, fs[i]? = some x := ⟨_, List.getElem?_eq_getElem hlt⟩
      have z1 : (i : Int) < (fs.length : Int) := by omega
      obtain ⟨b, o, rfl, -, p0, p1, p2, p3⟩ := HG6.out.il.rows.at_ hx
      have hsn := rSane_c x.r x.A x.c wr (HG6.out.il.els x (List.mem_of_getElem? hx)) (HOK.out.2.1 x.r (List.mem_map.2 ⟨x, List.mem_of_getElem? hx, rfl⟩))
      have HX := Lib.hid hx
      clear hx
      cases hsr : decide (SaneR x.r) with
      | false =>
        rw [hsr] at hsn
        clear hsr
        go_wp2_with fail
        refine hsn.mono ?_
        rintro e vX ⟨rfl, hb⟩
        have hbl := HG6.out.bl.trans (hb.mono HG6.out.bl.size)
        clear hb hsn p0 p1 p2 p3
        go_wp2_with fail
        go_ret
        exact ⟨rfl, hbl⟩
      | true =>
        rw [hsr] at hsn
        have HT1 : Hid (∀ (k : Nat) e, k < i + 1 → fs[k]? = some e → SaneR e.r) := Lib.hid (fun k e hk he => by
          rcases Nat.lt_or_ge k i with h | h
          · exact HT.out k e h he
          · obtain rfl : k = i := by omega
            have := HX.out
            rw [he] at this
            injection this with this
            subst this
            exact of_decide_eq_true hsr)
        clear hsr
        go_wp2_with fail
        refine hsn.mono ?_
        rintro e v7 ⟨rfl, hb⟩
        have HG7 := Lib.hid (HG6.out.on hb)
        clear hb hsn p0 p1 p2 p3 HG6
        go_wp2_with fail
        exact ⟨⟨i + 1, by omega, by simp, HT1, HG7⟩, by simp [intOf]; omega⟩
    · obtain rfl : i = fs.length := by omega
      have z1 : ¬ (fs.length : Int) < (fs.length : Int) := by omega
      have HALL : Hid (∀ r ∈ rws fs, SaneR r) := Lib.hid fun r hr => by
        obtain ⟨x, hx, rfl⟩ := List.mem_map.1 hr
        obtain ⟨k, hk, hk2⟩ := List.getElem_of_mem hx
        exact HT.out k x hk (by rw [List.getElem?_eq_getElem hk, hk2])
      clear HT
      obtain ⟨k0, k1⟩ := HG6.out.cells
      go_wp2_with fail
      refine (ours_c A es.length c m wr).mono ?_
      rintro e v7 ⟨rfl, hb⟩
      have HG7 := Lib.hid (HG6.out.on hb)
      clear hb k0 k1 HG6
      have hp := hpush A c es m B d fs v7 HG7.out.ik HOK.out.1 HOK.out.2.2 (by omega) HG7.out.il HOK.out.2.1 (by omega)
      obtain ⟨hm0, hm1⟩ : 0 ≤ m ∧ m ≤ 200 := ⟨HS.out.2.1, HS.out.2.2.1⟩
      obtain ⟨N, hN⟩ : ∃ N : Nat, min (fs.length : Int) m = (N : Int) := ⟨(min (fs.length : Int) m).toNat, by omega⟩
      obtain ⟨L, hL⟩ : ∃ L : Nat, min (es.length : Int) (m - (N : Int)) = (L : Int) := ⟨(min (es.length : Int) (m - (N : Int))).toNat, by omega⟩
      have hsaid := takes_said HS.out HALL.out
      simp only [rws_length] at hsaid
      rw [hN, hL] at hsaid
      simp only [Int.toNat_natCast] at hsaid
      have hpc := (pushK_sane HS.out (rws fs)).2.1
      unfold GivesK at hp
      rw [hpc] at hp
      simp only at hp hpc
      have HPC := Lib.hid hpc
      have HSAID := Lib.hid hsaid
      generalize pushK ⟨rws es, m⟩ (rws fs) = p at *
      have HNL := Lib.hid (And.intro hN hL)
      have hNf : N ≤ fs.length := by omega
      have hLe : L ≤ es.length := by omega
      have hN200 : (N : Int) ≤ m := by omega
      clear hpc hsaid hN hL hm
      go_wp2_with fail
      refine hp.mono ?_
      rintro e v8 ⟨A1, c1, e1, rfl, hI1, hr1, hb8⟩
      have hal : Below v8.heap.size v8 (v8.alloc (.cells #[.slice A1 e1.length c1, .int .i64 m] 27)) := (Below.refl _ _).alloc (Nat.le_refl _) _
      have HE8 := Lib.hid (And.intro ((HG7.out.on hb8).on hal) (And.intro (hI1.on hal) (Box.new v8 27 #[.slice A1 e1.length c1, .int .i64 m])))
      have hKp : (⟨rws e1, m⟩ : Kp) = p := by
        obtain ⟨p1, p2⟩ := p
        have h2 := HPC.out
        simp only at hr1 h2
        rw [hr1, h2]
      have HKP := Lib.hid (And.intro hKp hr1)
      have hl1 : e1.length ≤ 200 := by have := HSAID.out.1.few; rw [← hr1, rws_length] at this; exact this
      clear hal hI1 hr1 hb8 hp hKp HG7
      go_upto_region 10 with fail
      generalize hpb : v8.heap.size = pb at *
      generalize v8.alloc (.cells #[.slice A1 e1.length c1, .int .i64 m] 27) = v9 at *
      clear hpb
      obtain ⟨k0, k1⟩ := HE8.out.1.cells
      go_cut [8] (fun u wx => u = .int .i64 (N : Int) ∧ wx = v9)
      case first =>
        go_wp2_with fail
        all_goals
          go_meet
          refine ⟨?_, by first | trivial | rfl⟩
          have hN := HNL.out.1
          congr 1 <;> omega
      case rest =>
      obtain ⟨rfl, hwc⟩ := hcut
      subst wc
      obtain ⟨j0, j1⟩ : v9.cell? ⟨pb, 0, none⟩ = some (.slice A1 e1.length c1) ∧ v9.cell? ⟨pb, 1, none⟩ = some (.int .i64 m) := ⟨HE8.out.2.2.cell 0, HE8.out.2.2.cell 1⟩
      have ht := htake A1 c1 e1 m (N : Int) v9 HE8.out.2.1 (by rw [show rws e1 = p.rs from HKP.out.2]; exact HSAID.out.1.ok) (by unfold I64; omega) (by omega) (by unfold I64; omega)
      rw [HKP.out.1, HSAID.out.2.2.2.2] at ht
      go_upto_region 11 with fail
      go_wp2_with fail
      refine ht.mono ?_
      rintro e v10 ⟨A2, c2, e2, A3, c3, e3, rfl, hI2, hr2, hI3, hr3, hb10⟩
      have hal : Below v10.heap.size v10 (v10.alloc (.cells #[.slice A2 e2.length c2, .int .i64 m] 27)) := (Below.refl _ _).alloc (Nat.le_refl _) _
      have hq := hb10.trans (hal.mono hb10.size)
      have HE10 := Lib.hid (And.intro (HE8.out.1.on hq) (And.intro (HE8.out.2.1.on hq) (And.intro (HE8.out.2.2.below hq HE8.out.2.2.lt) (And.intro (hI2.on hal) (And.intro (hI3.on hal) (Box.new v10 27 #[.slice A2 e2.length c2, .int .i64 m]))))))
      have HR := Lib.hid (And.intro (hr2.trans HSAID.out.2.2.1) (hr3.trans HSAID.out.2.1))
      clear hal hq hI2 hI3 hr2 hr3 hb10 ht HE8 k0 k1 j0 j1
      go_upto_region 12 with fail
      generalize hqb : v10.heap.size = qb at *
      generalize v10.alloc (.cells #[.slice A2 e2.length c2, .int .i64 m] 27) = v11 at *
      clear hqb
      obtain ⟨k0, k1⟩ := HE10.out.1.cells
      go_cut [11] (fun u wx => u = .int .i64 (L : Int) ∧ wx = v11)
      case first =>
        go_wp2_with fail
        all_goals
          go_meet
          refine ⟨?_, by first | trivial | rfl⟩
          have hN := HNL.out.2
          congr 1 <;> omega
      case rest =>
      obtain ⟨rfl, hwc⟩ := hcut
      subst wc
      clear k0 k1
      obtain ⟨a, ha⟩ : ∃ a : Nat, fs.length - N = a := ⟨_, rfl⟩
      obtain ⟨b, hb'⟩ : ∃ b : Nat, es.length - L = b := ⟨_, rfl⟩
      have hsa : (fs.length : Int) - (N : Int) = (a : Int) := by omega
      have hsb : (es.length : Int) - (L : Int) = (b : Int) := by omega
      have hle1 : ((e1.length : Int) == (N : Int) + (L : Int)) = true := by
        have h4 := HSAID.out.2.2.2.1
        rw [← HKP.out.2, rws_length] at h4
        exact beq_iff_eq.2 h4
      obtain ⟨B4, d4, hc4, hI4⟩ := HE10.out.1.il.from_ (a := a) (by omega)
      obtain ⟨B5, d5, hc5, hI5⟩ := HE10.out.1.ik.from_ (a := b) (by omega)
      have hr4 : rws e3 = rws (fs.drop a) := by rw [HR.out.2, rws_drop, ha]
      have hr5 : rws e2 = rws (es.drop b) := by rw [HR.out.1, rws_drop, hb']
      have hss := hs A1 c1 e1 m
      have HHS : Hid (∀ V, Below v11.heap.size v11 V → Calls Try.prog 24 #[.agg #[.slice A1 e1.length c1, .int .i64 m]] V fun e w' => e = .returned (.bool true) ∧ Below V.heap.size V w') := Lib.hid fun V hV => by
        have h := hss V (HE10.out.2.1.on hV) (by rw [show rws e1 = p.rs from HKP.out.2]; exact HSAID.out.1.ok) (by unfold I64; omega) (by omega)
        rw [HKP.out.1, decide_eq_true HSAID.out.1] at h
        exact h
      have HH4 : Hid (∀ V, Below v11.heap.size v11 V → Calls Try.prog 16 #[.slice A3 e3.length c3, .slice B4 (fs.drop a).length d4] V fun e w' => e = .returned (.bool true) ∧ Below V.heap.size V w') := Lib.hid fun V hV => by
        have h := same9_c A3 B4 e3 (fs.drop a) c3 d4 V (HE10.out.2.2.2.2.1.on hV) (hI4.on hV)
        rw [decide_eq_true hr4] at h
        exact h
      have HH5 : Hid (∀ V, Below v11.heap.size v11 V → Calls Try.prog 16 #[.slice A2 e2.length c2, .slice B5 (es.drop b).length d5] V fun e w' => e = .returned (.bool true) ∧ Below V.heap.size V w') := Lib.hid fun V hV => by
        have h := same9_c A2 B5 e2 (es.drop b) c2 d5 V (HE10.out.2.2.2.1.on hV) (hI5.on hV)
        rw [decide_eq_true hr5] at h
        exact h
      have HAB := Lib.hid (And.intro ha hb')
      generalize (fs.drop a).length = la at *
      generalize (es.drop b).length = lb at *
      have m0 := Ext.cell (w := v11) (B := v11.heap.size) HE10.out.1.bk.lt (show v11.cell? ⟨w.heap.size, 0, none⟩ = some (.slice A es.length c) from HE10.out.1.bk.cell 0)
      have m1 := Ext.cell (w := v11) (B := v11.heap.size) HE10.out.1.bk.lt (show v11.cell? ⟨w.heap.size, 1, none⟩ = some (.int .i64 m) from HE10.out.1.bk.cell 1)
      have m2 := Ext.cell (w := v11) (B := v11.heap.size) HE10.out.2.2.1.lt (show v11.cell? ⟨pb, 0, none⟩ = some (.slice A1 e1.length c1) from HE10.out.2.2.1.cell 0)
      have m3 := Ext.cell (w := v11) (B := v11.heap.size) HE10.out.2.2.1.lt (show v11.cell? ⟨pb, 1, none⟩ = some (.int .i64 m) from HE10.out.2.2.1.cell 1)
      have m4 := Ext.cell (w := v11) (B := v11.heap.size) HE10.out.2.2.2.2.2.lt (show v11.cell? ⟨qb, 0, none⟩ = some (.slice A2 e2.length c2) from HE10.out.2.2.2.2.2.cell 0)
      have m5 := Ext.cell (w := v11) (B := v11.heap.size) HE10.out.2.2.2.2.2.lt (show v11.cell? ⟨qb, 1, none⟩ = some (.int .i64 m) from HE10.out.2.2.2.2.2.cell 1)
      clear hI4 hI5 hr4 hr5 hss ha hb'
      go_upto_region 13 with fail
      refine region_plan [([0, 1, 2], [3]), ([4, 5, 6, 7, 8, 9, 10, 11, 12], [13]), ([14, 15, 16, 17, 18, 19, 20, 21, 22, 23, 24, 25], [26]), ([27, 28, 29, 30, 31, 32, 33, 34, 35, 36, 37, 38, 39, 40, 41, 42, 43, 44], [])] (fun w' => ∃ u : Ext v11 v11.heap.size, w' = u.val) (by kernel_rfl) (by kernel_rfl) (fun _ _ _ _ _ h => h) ⟨⟨_, (Below.refl _ _).drew⟩, rfl⟩ ?_
      simp only [wpPlan, sel, List.take_succ_cons, List.take_zero, List.drop_succ_cons, List.drop_zero, List.cons_append, List.nil_append]
      repeat (go_big_quiet_step (fail))
      refine wpQuiet_nil ?_
      unfold wpChain
      go_wp2_with fail
      refine (HHS.out _ (Below.refl _ _).drew).mono ?_
      rintro e v12 ⟨rfl, hb⟩
      have Hv12 : Hid (Below v11.heap.size v11 v12) := Lib.hid ((Below.refl v11.heap.size v11).drew.trans hb)
      clear hb
      go_wp2_with fail
      refine ⟨⟨⟨_, Hv12.out⟩, rfl⟩, ?_⟩
      unfold wpChain
      try simp only [Act.put, List.setIfInBounds_toArray, List.set_cons_succ, List.set_cons_zero]
      repeat (go_big_quiet_step (fail))
      refine wpQuiet_nil ?_
      unfold wpChain
      go_wp2_with fail
      refine (HH4.out _ Hv12.out).mono ?_
      rintro e v13 ⟨rfl, hb⟩
      have Hv13 : Hid (Below v11.heap.size v11 v13) := Lib.hid (Hv12.out.trans (hb.mono Hv12.out.size))
      clear hb
      go_wp2_with fail
      refine ⟨⟨⟨_, Hv13.out⟩, rfl⟩, ?_⟩
      unfold wpChain
      try simp only [Act.put, List.setIfInBounds_toArray, List.set_cons_succ, List.set_cons_zero]
      repeat (go_big_quiet_step (fail))
      refine wpQuiet_nil ?_
      unfold wpChain
      go_wp2_with fail
      refine (HH5.out _ Hv13.out).mono ?_
      rintro e v14 ⟨rfl, hb⟩
      have Hv14 : Hid (Below v11.heap.size v11 v14) := Lib.hid (Hv13.out.trans (hb.mono Hv13.out.size))
      clear hb
      go_wp2_with fail
      refine ⟨⟨⟨_, Hv14.out⟩, rfl⟩, ?_⟩
      unfold wpChain
      try simp only [Act.put, List.setIfInBounds_toArray, List.set_cons_succ, List.set_cons_zero]
      repeat (go_big_quiet_step (fail))
      refine wpQuiet_nil ?_
      unfold wpChain
      go_wp2_with fail
      go_ret
      exact ⟨rfl, HE10.out.1.bl.trans (Hv14.out.mono HE10.out.1.bl.size)⟩
end Go.Proofs.Ytinbdpfjpcgikaa
