/- UtfShort, walked. -/
import Derived.Test.YthkahbgcemhebaaDoorStrR
import Derived.Test.YthkahbgcemhebaaDoorBitsR
import Derived.Test.YthkahbgcemhebaaDoorReg
import Derived.Deep.DeepCutAuto
namespace Go.Proofs.YthkahbgcemhebaaDoor
open Go Go.RowKit
set_option linter.unusedVariables false
set_option linter.unusedSimpArgs false

def TMet (W : World) (q : Nat) (pv mv : Value) (wx : World) : Prop := ∃ g A5 c5 A6 c6, pv = .pointer (some ⟨g, 0, none⟩) ∧ mv = .slice A6 1 c6 ∧ Box wx g 26 #[.slice A5 0 c5] ∧ Its wx wx.heap.size A6 [(q : Int)] ∧ Below W.heap.size W wx
set_option maxRecDepth 100000 in
set_option maxHeartbeats 8000000 in
theorem short_law (r n : Int) (w : World) (hT : Tb w) (hr0 : -9223372036854775808 ≤ r) (hr1 : r ≤ 9223372036854775807) :
    Calls Tryd.prog 6 #[.int .i64 r, .int .i64 n] w fun e w' => e = .returned (.bool true) ∧ Below w.heap.size w w' := by
  have hpl := bytes_len (normF r)
  have hlet := norm_let r
  have hpx : putF r = bytesF (normF r) := rfl
  have hby := bytes_lt hlet
  have hrun := feed_bytes hlet []
  rw [List.append_nil, feed_nil] at hrun
  have hopn := fun (k : Nat) (h0 : 0 < k) (h1 : k < (bytesF (normF r)).length) => opn_bytes hlet h0 h1
  have hpc := fun V => put_c r V hr0 hr1
  rw [hpx] at hpc
  have hpc2 := fun V => put_c ((normF r : Nat) : Int) V (by omega) (by unfold LetB at hlet; omega)
  have hpx2 : putF ((normF r : Nat) : Int) = bytesF (normF r) := by unfold putF; rw [norm_id hlet]
  rw [hpx2] at hpc2
  have HLET := Lib.hid hlet
  clear hpx hpx2 hlet
  generalize bytesF (normF r) = px at *
  generalize normF r = q at *
  have HPC2 := Lib.hid hpc2
  have HOPN := Lib.hid hopn
  have HRUN := Lib.hid hrun
  have HBY := Lib.hid hby
  clear hpc2 hopn hrun hby
  have hand : bits .and .i64 n 65535 = n % 65536 := and_65535 n
  obtain ⟨nn, hnn⟩ : ∃ nn : Nat, n % 65536 = (nn : Int) := ⟨(n % 65536).toNat, by omega⟩
  rw [hnn] at hand
  have hnn2 : nn < 65536 := by omega
  clear hnn
  go_enter Tryd.func6, Tryd.ntmps6
  go_wp2_with fail
  refine (awake_c w hT).mono ?_
  rintro e w1 ⟨rfl, hb1⟩
  go_wp2_with fail
  refine (hpc w1).mono ?_
  rintro e w2 ⟨v2, rfl, hown2, hz⟩
  obtain ⟨A2, c2, rfl, hc2, hm2⟩ := own_form1 hown2
  have hbel2 := hb1.trans (hz.mono hb1.size)
  have hR2 := Rd.of_own hown2
  clear hz hown2 hpc
  have hq0 : ((px.length : Int) == 0) = false := beq_eq_false_iff_ne.2 (by omega)
  have hq1 : ¬ ((px.length : Int) = 0) := by omega
  obtain ⟨k, hk⟩ : ∃ k : Nat, (nn : Int) % (px.length : Int) = (k : Int) := ⟨nn % px.length, by simp⟩
  have hkl : k < px.length := by
    have h1 := Int.emod_lt_of_pos (nn : Int) (show (0 : Int) < (px.length : Int) by omega)
    omega
  unfold maxLen at hm2
  have hkc : (k : Int) ≤ (c2 : Int) := by omega
  have htl : (px.take k).length = k := by rw [List.length_take]; omega
  have hf1 := feed_c none A2 [] (px.take k) 0 c2 w2 (hT.below hbel2 hT.size) Rd.nil (hR2.take k) (by simp) (fun c hc => HBY.out c (List.mem_of_mem_take hc)) (Nat.le_refl _) (Nat.zero_le _) rfl (by simp; omega)
  rw [List.nil_append, htl] at hf1
  unfold FeedSaid at hf1
  have hfk : feedF (px.take k) = ([], px.take k) := by
    rcases Nat.eq_zero_or_pos k with rfl | h0
    · simp [feed_nil]
    · exact feed_opn (HOPN.out k h0 hkl)
  rw [hfk] at hf1
  dsimp only at hf1
  rw [htl] at hf1
  clear hfk
  go_wp2_with fail
  refine hf1.mono ?_
  rintro e w3 ⟨A3, c3, A4, c4, rfl, hR3, hc3, hm3, hown4, hz⟩
  have hbel3 := hbel2.trans (hz.mono hbel2.size)
  have hR23 := hR2.on hz
  clear hz hown4 hf1 hR2
  go_wp2_with fail
  have hbx := Box.new w3 26 #[.slice A3 k c3]
  have hz3 : Below w3.heap.size w3 (w3.alloc (.cells #[.slice A3 k c3] 26)) := (Below.refl _ _).alloc (Nat.le_refl _) _
  have hbelW := hbel3.trans (hz3.mono hbel3.size)
  have hR2W := hR23.on hz3
  have hR3W := hR3.on hz3
  clear hz3 hR23 hR3 hbel3 hbel2
  obtain ⟨X, hX⟩ : ∃ X, X = w3.heap.size := ⟨_, rfl⟩
  rw [← hX] at hbx
  generalize w3.alloc (.cells #[.slice A3 k c3] 26) = W at *
  rw [← hX]
  clear hX
  have hdl : (px.drop k).length = px.length - k := List.length_drop
  have hf2 : ∀ V, Below W.heap.size W V → Calls Tryd.prog 9 #[.agg #[.slice A3 k c3], .slice (Option.map (fun x => x.add k) A2) (px.length - k) (c2 - k)] V (fun e w' => ∃ A' c' A'' c'', e = .returned (.tuple #[.agg #[.slice A' 0 c'], .slice A'' 1 c'']) ∧ Its w' w'.heap.size A'' [(q : Int)] ∧ Below V.heap.size V w') := by
    intro V hV
    have hcut := (hR2W.on hV).cut (M := k) hc2
    rw [if_neg (by omega)] at hcut
    have h := feed_c A3 (Option.map (fun x => x.add k) A2) (px.take k) (px.drop k) c3 (c2 - k) V (hT.below (hbelW.trans (hV.mono hbelW.size)) hT.size) (hR3W.on hV) hcut
      (fun c hc => HBY.out c (List.mem_of_mem_take hc)) (fun c hc => HBY.out c (List.mem_of_mem_drop hc)) (by omega) hm3 (by
        rcases Nat.eq_zero_or_pos k with h0 | h0
        · rw [h0]; rfl
        · unfold shortB; rw [HOPN.out k h0 hkl]; simp) (by omega)
    rw [List.take_append_drop, htl, hdl] at h
    unfold FeedSaid at h
    rw [HRUN.out] at h
    refine h.mono ?_
    rintro e w' ⟨A', c', A'', c'', rfl, _, _, _, hown, hb⟩
    exact ⟨A', c', A'', c'', rfl, Rd.of_own hown, hb⟩
  have HF2 := Lib.hid hf2
  clear hf2
  have e1 := Ext.cell (B := W.heap.size) (w := W) (p := ⟨X, 0, none⟩) hbx.lt (hbx.cell 0)
  have hWs := hbelW.size
  go_cut [10, 11] (fun pv mv wx => TMet W q pv mv wx)
  case first =>
    refine region_plan2 [([0, 1, 2, 3], [])] 6 4 8 [([5, 6, 7], [8, 9]), ([10], [])] [([], [4]), ([5, 6, 7], [9]), ([10], [])] (fun w' => ∃ u : Ext W W.heap.size, w' = u.val) (by kernel_rfl) (by kernel_rfl) (fun _ _ _ _ _ h => h) ⟨⟨_, (Below.refl _ _).drew⟩, rfl⟩ ?_
    simp only [wpPlanK, sel, List.take_succ_cons, List.take_zero, List.drop_succ_cons, List.drop_zero, List.cons_append, List.nil_append]
    repeat (go_big_quiet_step (fail))
    refine wpQuiet_nil ?_
    simp only [wpChain]
    refine ⟨?_, ?_⟩
    · go_wp2_with fail
      refine (HF2.out _ (Below.refl _ _).drew).mono ?_
      rintro e w4 ⟨A5, c5, A6, c6, rfl, hI, hz⟩
      have hb4 : Below W.heap.size W w4 := ((Below.refl _ _).drew).trans hz
      clear hz
      have hs4 := hb4.size
      have hb5 := hb4.alloc hb4.size (.cells #[.slice none 0 0] 26)
      have hbx6 := Box.new w4 26 #[.slice A5 0 c5]
      have hI6 := hI.on ((Below.refl _ _).alloc (Nat.le_refl _) (.cells #[.slice A5 0 c5] 26))
      have hb6 := hb4.alloc hb4.size (.cells #[.slice A5 0 c5] 26)
      go_wp2_with fail
      refine ⟨⟨⟨_, hb4⟩, rfl⟩, ?_⟩
      simp only [wpPlan, sel, List.take_succ_cons, List.take_zero, List.drop_succ_cons, List.drop_zero, List.cons_append, List.nil_append]
      repeat (go_big_quiet_step (fail))
      refine wpQuiet_nil ?_
      unfold wpChain
      go_wp2_with fail
      refine ⟨⟨⟨_, hb5⟩, rfl⟩, ?_⟩
      unfold wpChain
      go_wp2_with fail
      refine ⟨⟨⟨_, hb6⟩, rfl⟩, ?_⟩
      unfold wpChain
      repeat (go_big_quiet_step (fail))
      refine wpQuiet_nil ?_
      unfold wpChain
      go_wp2_with fail
      go_meet
      exact ⟨_, _, _, _, _, rfl, rfl, hbx6, hI6, hb6⟩
    · have hbxY := Box.new W 26 #[.slice none 0 0]
      have hbY : Below W.heap.size W (W.alloc (.cells #[.slice none 0 0] 26)) := (Below.refl _ _).alloc (Nat.le_refl _) _
      go_wp2_with fail
      refine ⟨⟨⟨_, hbY.drew⟩, rfl⟩, ?_⟩
      simp only [wpPlan, sel, List.take_succ_cons, List.take_zero, List.drop_succ_cons, List.drop_zero, List.cons_append, List.nil_append]
      refine wpQuiet_nil ?_
      unfold wpChain
      go_wp2_with fail
      refine (HF2.out _ hbY.drew).mono ?_
      rintro e w4 ⟨A5, c5, A6, c6, rfl, hI, hz⟩
      have hb4 : Below W.heap.size W w4 := hbY.drew.trans (hz.mono hbY.drew.size)
      have hbx4 := hbxY.drew.below hz hbxY.drew.lt
      have hc4 : w4.cell? ⟨W.heap.size, 0, none⟩ = some (.slice none 0 0) := hbx4.cell 0
      have hfr4 := hbx4.free 0
      clear hz
      have hbx6 := hbx4.set_ 0 (.slice A5 0 c5)
      have hb6 : Below W.heap.size W (w4.setCell ⟨W.heap.size, 0, none⟩ (.slice A5 0 c5)) := hb4.setCell (Nat.le_refl _) _
      have hI6 : Its (w4.setCell ⟨W.heap.size, 0, none⟩ (.slice A5 0 c5)) (w4.setCell ⟨W.heap.size, 0, none⟩ (.slice A5 0 c5)).heap.size A6 [(q : Int)] := by
        intro hne
        obtain ⟨b', o', e, hB, hc⟩ := hI hne
        refine ⟨b', o', e, by simpa using hB, fun j x hx => ?_⟩
        have hne : b' ≠ W.heap.size := by
          rintro rfl
          have h0 := hc j x hx
          have hj : j = 0 := by
            rcases j with _ | j
            · rfl
            · simp at hx
          subst hj
          by_cases ho : o' = 0
          · subst ho
            have : w4.cell? ⟨W.heap.size, 0, none⟩ = some (intV x) := h0
            rw [hc4] at this; injection this with this; cases this
          · have h1 := hbx4.cell (o' + 0)
            rw [h0] at h1
            have : (#[Value.slice none 0 0] : Array Value)[o' + 0]? = none := by
              rw [Array.getElem?_eq_none]; simp; omega
            rw [this] at h1; cases h1
        rw [World.cell?_setCell_other w4 _ _ _ (fun e => hne (by injection e with e1; exact e1.symm))]
        exact hc j x hx
      go_wp2_with fail
      refine ⟨⟨⟨_, hb4⟩, rfl⟩, ?_⟩
      unfold wpChain
      repeat (go_big_quiet_step (fail))
      refine wpQuiet_nil ?_
      unfold wpChain
      go_wp2_with fail
      refine ⟨⟨⟨_, hb6⟩, rfl⟩, ?_⟩
      unfold wpChain
      repeat (go_big_quiet_step (fail))
      refine wpQuiet_nil ?_
      unfold wpChain
      go_wp2_with fail
      go_meet
      exact ⟨_, _, _, _, _, rfl, rfl, hbx6, hI6, hb6⟩
  case rest =>
    obtain ⟨g, A5, c5, A6, c6, rfl, rfl, hbg, hI, hbelV⟩ := hcut
    have hbelC := hbelW.trans (hbelV.mono hbelW.size)
    have hbxC := hbx.below hbelV hbx.lt
    have hR3C := hR3W.on hbelV
    have hR2C := hR2W.on hbelV
    have hca : wc.cell? ⟨X, 0, none⟩ = some (.slice A3 k c3) := hbxC.cell 0
    have hec := end_c A3 (px.take k) c3 wc (hT.below hbelC hT.size) hR3C (fun c hc => HBY.out c (List.mem_of_mem_take hc)) (by omega) hm3 (by
        rcases Nat.eq_zero_or_pos k with h0 | h0
        · rw [h0]; rfl
        · unfold shortB; rw [HOPN.out k h0 hkl]; simp)
    rw [htl] at hec
    clear hR3C hR3W hR2W e1 HF2 hbelV hbx
    rcases Nat.eq_zero_or_pos k with h0 | h0
    · have he : endF (px.take k) = [] := by rw [h0]; rfl
      rw [he] at hec
      clear he
      subst h0
      go_wp2_with fail
      refine hec.mono ?_
      rintro e w4 ⟨A7, c7, rfl, hE, hc7, hm7, hz⟩
      have hbel4 := hbelC.trans (hz.mono hbelC.size)
      clear hec hz hE
      go_wp2_with fail
      go_ret
      exact ⟨rfl, hbel4⟩
    · have he : endF (px.take k) = [65533] := by
        unfold endF
        rw [if_neg (by intro e; rw [e] at htl; simp at htl; omega)]
      rw [he] at hec
      have hk0 : ¬ (k : Int) = 0 := by omega
      have hk0' : ((k : Int) == 0) = false := beq_eq_false_iff_ne.2 hk0
      clear he
      go_wp2_with fail
      refine hec.mono ?_
      rintro e w4 ⟨A7, c7, rfl, hE, hc7, hm7, hz⟩
      have hbel4 := hbelC.trans (hz.mono hbelC.size)
      have hI4 := hI.on hz
      have hR24 := hR2C.on hz
      have hbx4 := hbxC.below hz hbxC.lt
      have hbg4 := hbg.below hz hbg.lt
      obtain ⟨b7, o7, rfl, hbl7, d7⟩ := hE.at_ (k := 0) (x := 65533) rfl
      obtain ⟨b6, o6, rfl, hbl6, d6⟩ := hI4.at_ (k := 0) (x := (q : Int)) rfl
      have f1 := Ext.cell (B := w4.heap.size) (w := w4) (p := ⟨X, 0, none⟩) hbx4.lt (hbx4.cell 0)
      have f2 := Ext.cell (B := w4.heap.size) (w := w4) (p := ⟨g, 0, none⟩) hbg4.lt (hbg4.cell 0)
      have f3 := Ext.cell (B := w4.heap.size) (w := w4) (p := ⟨b7, o7, none⟩) (v := .int .i64 65533) hbl7 d7
      have f4 := Ext.cell (B := w4.heap.size) (w := w4) (p := ⟨b6, o6, none⟩) (v := .int .i64 (q : Int)) hbl6 d6
      have f5 := fun u : Ext w4 w4.heap.size => conv_c A2 px c2 u.val (hR24.on u.below)
      have HCV := Lib.hid (fun (A : Option Addr) (c : Nat) (V : World) (hV : Byt V V.heap.size A px) => conv_c A px c V hV)
      have hpc5 := HPC2.out
      generalize strOfNums (px.map Int.ofNat) = S at *
      clear hec hz hE hI4 hI hR2C hbxC hbg hbx4 hbg4 d6 d7 hca hR24 HPC2 HOPN HRUN HBY HLET
      have HPC5 := Lib.hid hpc5
      clear hpc5
      go_wp2_with fail
      refine region_plan [([0, 1, 2, 3, 4, 5, 6, 7, 8, 9, 10, 11, 12, 13, 14, 15, 16, 17, 18, 19, 20, 21, 22, 23, 24, 25, 26, 27, 28, 29, 30, 31, 32, 33, 34, 35, 36, 37, 38, 41, 42], [39, 40]), ([43, 44, 45], [])] (fun w' => ∃ u : Ext w4 w4.heap.size, w' = u.val) (by kernel_rfl) (by kernel_rfl) (fun _ _ _ _ _ h => h) ⟨⟨_, (Below.refl _ _).drew⟩, rfl⟩ ?_
      simp only [wpPlan, sel, List.take_succ_cons, List.take_zero, List.drop_succ_cons, List.drop_zero, List.cons_append, List.nil_append]
      repeat (go_big_quiet_step (fail))
      refine wpQuiet_nil ?_
      unfold wpChain
      go_wp2_with fail
      refine (HPC5.out _).mono ?_
      rintro e w5 ⟨v5, rfl, hown5, hz⟩
      obtain ⟨A8, c8, rfl, hc8, hm8⟩ := own_form1 hown5
      have hz5 : Below w4.heap.size w4 w5 := ((Below.refl _ _).drew).trans (hz.mono (Nat.le_refl _))
      have hR5 := Rd.of_own hown5
      have hbel5 := hbel4.trans (hz5.mono hbel4.size)
      have hcv := HCV.out A8 c8 w5 hR5
      clear hz hown5 hR5 HPC5
      go_wp2_with fail
      refine ⟨⟨⟨_, hz5⟩, rfl⟩, ?_⟩
      unfold wpChain
      go_wp2_with fail
      refine ⟨⟨⟨_, hz5⟩, rfl⟩, ?_⟩
      unfold wpChain
      repeat (go_big_quiet_step (fail))
      refine wpQuiet_nil ?_
      unfold wpChain
      go_wp2_with fail
      go_ret
      exact ⟨rfl, hbel5⟩
end Go.Proofs.YthkahbgcemhebaaDoor
