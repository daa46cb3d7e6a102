/- What is packed is unpacked again, and cut off it is refused; what is unpacked packs to the same bytes. -/
import Derived.Test.YtgmcpmhpafcihaaWalk01d
import Derived.Test.YtgmcpmhpafcihaaWalk01s
import Derived.Test.YtgmcpmhpafcihaaWalk01t
import Derived.Deep.DeepCutAuto
import Derived.Laws.BytesArg
namespace Go.Proofs.Ytgmcpmhpafcihaa
open Go Go.RowKit
set_option linter.unusedVariables false
set_option linter.unusedSimpArgs false

theorem un_ok {l : List R3} (hs : saneF l = true) : unTab (packF 0 l) = l ∧ unErr (packF 0 l) = 0 := by
  have h := unp_pack (l := l) 0 (packF 0 l).length (by omega) (sane_parts hs).2.1 (Nat.le_refl _)
  unfold unTab unErr
  rw [h]
  simp [hs]
theorem unp_ok4 {l : List R3} (hs : saneF l = true) : unTab (packF 0 l) = l ∧ unErr (packF 0 l) = 0 ∧ (∀ c ∈ packF 0 l, c < 256) ∧ (packF 0 l).length ≤ l.length * 9 :=
  ⟨(un_ok hs).1, (un_ok hs).2, packF_byte 0 (by omega) (sane_parts hs).2.1, packF_len 0 l⟩
theorem un_cut {l : List R3} (hs : saneF l = true) (hne : l ≠ []) : unErr (packF 0 l).dropLast ≠ 0 := by
  have h := unp_cut (l := l) 0 (packF 0 l).dropLast.length hne (by omega) (sane_parts hs).2.1 (Nat.le_refl _)
  unfold unErr
  rw [if_pos h]
  exact h
theorem cut_ok {l : List R3} (hs : saneF l = true) : (l = [] ∧ packF 0 l = []) ∨ (0 < l.length ∧ 3 ≤ (packF 0 l).length ∧ unErr ((packF 0 l).take ((packF 0 l).length - 1)) ≠ 0) := by
  cases l with
  | nil => exact .inl ⟨rfl, rfl⟩
  | cons x t =>
    refine .inr ⟨by simp, ?_, ?_⟩
    · have := (packRow_len 0 x).1
      simp [packF]; omega
    · have := un_cut hs (by simp)
      rwa [List.dropLast_eq_take] at this
theorem un0 : unTab [] = [] ∧ unErr [] = 0 := by decide
theorem un_bad {bs : List Nat} (h : unErr bs ≠ 0) : unTab bs = [] := by
  unfold unErr at h
  unfold unTab
  split at h
  · rename_i h1; rw [if_neg (fun h2 => h1 h2.1)]
  · split at h
    · exact absurd rfl h
    · rename_i h1 h2; rw [if_neg (fun h3 => h2 h3.2)]
theorem un_good {bs : List Nat} (hb : ∀ c ∈ bs, c < 256) (h : unErr bs = 0) : saneF (unTab bs) = true ∧ packF 0 (unTab bs) = bs := by
  unfold unErr at h
  split at h
  · rename_i h1; exact absurd h h1
  · rename_i h1
    split at h
    · rename_i h2
      have h3 : (unpGo bs.length 0 bs).2 = 0 := Decidable.not_not.1 h1
      have h4 : unTab bs = (unpGo bs.length 0 bs).1 := by unfold unTab; rw [if_pos ⟨h3, h2⟩]
      rw [h4]
      exact ⟨h2, pack_unp _ 0 bs (Nat.le_refl _) hb (by omega) h3 (sane_parts h2).2.1⟩
    · exact absurd h (by decide)

theorem conv_c (A : Option Addr) (bs : List Nat) (c : Nat) (w : World) (h : Byt w w.heap.size A bs) : (convert 23 9 (.slice A bs.length c)).run Try.prog w = .ok (.string (strOfNums (bs.map Int.ofNat))) w := by
  by_cases hne : bs = []
  · subst hne
    cases A with
    | none => exact run_convert_bytes_nil w 23 5 Try.underlying23 Try.underlying5 0 c 9 Try.underlying9
    | some a =>
      have hl : (loadCells a 0).run Try.prog w = .ok (([] : List Int).map (Value.int .u8)).toArray w := run_loadCells_list w a [] (fun j v hj => by simp at hj)
      show (convert 23 9 (.slice (some a) 0 c)).run Try.prog w = _
      rw [run_convert_bytes_string w 23 9 5 (some a) 0 c Try.underlying23 Try.underlying5 Try.underlying9, run_bytesToString w a 0 c [] hl]
      rfl
  · obtain ⟨b, o, rfl, hb, h0⟩ := h hne
    exact run_convert_bytes_arg w 23 5 Try.underlying23 Try.underlying5 b o bs.length c (bs.map Int.ofNat) (by simp) (by
      intro i hi
      have hx : bs[i]? = some bs[i] := List.getElem?_eq_getElem hi
      rw [h0 i _ hx]
      simp [List.getD, hx]) 9 Try.underlying9

set_option maxRecDepth 100000 in
set_option maxHeartbeats 2000000 in
theorem back_c (A B : Option Addr) (l : List R3) (c cb : Nat) (bs : List Nat) (w : World) (hn : l.length ≤ maxLen) (hnb : bs.length ≤ maxLen) (h : Tab w w.heap.size A l) (hB : Byt w w.heap.size B bs) (hbc : bs.length ≤ cb) (hcm : cb ≤ maxLen) (hby : ∀ c ∈ bs, c < 256) :
    Calls Try.prog 3 #[.slice A l.length c, .slice B bs.length cb] w fun e w' => e = .returned (.bool true) ∧ Below w.heap.size w w' := by
  unfold maxLen at hn hnb
  by_cases h2 : 200 < l.length
  · have hd : decide ((200 : Int) < (l.length : Int)) = true := by simp; omega
    go_enter Try.func3, Try.ntmps3
    go_wp2_with fail
    refine (awake_c w).mono ?_
    rintro e w1 ⟨rfl, hb1⟩
    go_wp2
    go_ret
    exact ⟨rfl, hb1⟩
  · have hd : decide ((200 : Int) < (l.length : Int)) = false := by simp; omega
    by_cases h3 : 1000 < bs.length
    · have hd2 : decide ((1000 : Int) < (bs.length : Int)) = true := by simp; omega
      go_enter Try.func3, Try.ntmps3
      go_wp2_with fail
      refine (awake_c w).mono ?_
      rintro e w1 ⟨rfl, hb1⟩
      go_wp2
      go_ret
      exact ⟨rfl, hb1⟩
    · have hd2 : decide ((1000 : Int) < (bs.length : Int)) = false := by simp; omega
      by_cases hub : unErr bs = 0
      · obtain ⟨hus, hup⟩ := un_good hby hub
        have HUS := Lib.hid hus
        have HUP := Lib.hid hup
        have HUE := Lib.hid hub
        clear hus hup hub
        cases hri : riseF (-1) l
        · have HRI := Lib.hid hri
          clear hri
          go_enter Try.func3, Try.ntmps3
          go_wp2_with fail
          refine (awake_c w).mono ?_
          rintro e w1 ⟨rfl, hb1⟩
          go_wp2_with fail
          refine (ours_c A l c w1 (by omega) ((h.below hb1).more hb1.size)).mono ?_
          rintro e w2 ⟨A2, c2, rfl, hown, hb2⟩
          have hT2 := Tab.of_own hown
          have hbel2 := hb1.trans (hb2.mono hb1.size)
          clear hb2 hown hb1
          go_wp2_with fail
          refine (make_bad A2 l c2 w2 (by omega) hT2 HRI.out).mono ?_
          rintro e w3 ⟨rfl, hb3⟩
          have hbel3 := hbel2.trans (hb3.mono hbel2.size)
          clear hb3 hbel2 hT2
          go_wp2_with fail
          have hbel4 := hbel3.alloc hbel3.size (.cells #[.slice none 0 0] 27)
          generalize w3.alloc (.cells #[.slice none 0 0] 27) = W at *
          refine (unpack_c B bs cb W (by omega) hbc hcm ((hB.below hbel4).more hbel4.size) hby).mono ?_
          rintro e w5 ⟨A5, c5, rfl, hT5, hb5⟩
          rw [HUE.out]
          have hml := (sane_parts HUS.out).1
          have hbel5 := hbel4.trans (hb5.mono hbel4.size)
          clear hb5 hbel4
          generalize unTab bs = m at *
          go_wp2_with fail
          have hbv := Box.new w5 27 #[.slice A5 m.length c5]
          have hz0 : Below w5.heap.size w5 (w5.alloc (.cells #[.slice A5 m.length c5] 27)) := (Below.refl _ _).alloc (Nat.le_refl _) _
          have hbel6 := hbel5.trans (hz0.mono hbel5.size)
          have hT6 := (hT5.below hz0).more hz0.size
          clear hz0 hbel5 hT5
          generalize w5.alloc (.cells #[.slice A5 m.length c5] 27) = Z at *
          generalize w5.heap.size = D at *
          refine (pack_c A5 m c5 Z hT6 HUS.out).mono ?_
          rw [HUP.out]
          rintro e w7 ⟨A7, c7, rfl, hown7, hb7⟩
          have hbel7 := hbel6.trans (hb7.mono hbel6.size)
          have hBy7 := Byt.of_own hown7
          have hT7 := (hT6.below hb7).more hb7.size
          have hcv : w7.cell? ⟨D, 0, none⟩ = some (.slice A5 m.length c5) := (hbv.below hb7 hbv.lt).cell 0
          have hBB7 := (hB.below hbel7).more hbel7.size
          clear hb7 hbel6 hT6 hown7 hbv
          have hconv1 := conv_c A7 bs c7 w7 hBy7
          have hconv2 := conv_c B bs cb w7 hBB7
          generalize strOfNums (bs.map Int.ofNat) = S at *
          go_wp2_with fail
          refine (sane_c A5 m c5 w7 (by unfold maxLen; omega) hT7 true HUS.out).mono ?_
          rintro e w8 ⟨rfl, hb8⟩
          have hbel8 := hbel7.trans (hb8.mono hbel7.size)
          clear hb8 hbel7 hT7 hBB7 hBy7 hconv1 hconv2
          go_wp2
          go_ret
          exact ⟨rfl, hbel8⟩
        · have HRI := Lib.hid hri
          have hjl := (joined hri).len
          have hsn := join_sane hri (by omega)
          have hj4 : (joinF l).length ≤ 4096 := by omega
          have hj2 : (joinF l).length ≤ 200 := by omega
          have HJS := Lib.hid hsn
          clear hri hsn hjl
          go_enter Try.func3, Try.ntmps3
          go_wp2_with fail
          refine (awake_c w).mono ?_
          rintro e w1 ⟨rfl, hb1⟩
          go_wp2_with fail
          refine (ours_c A l c w1 (by omega) ((h.below hb1).more hb1.size)).mono ?_
          rintro e w2 ⟨A2, c2, rfl, hown, hb2⟩
          have hT2 := Tab.of_own hown
          have hbel2 := hb1.trans (hb2.mono hb1.size)
          clear hb2 hown hb1
          go_wp2_with fail
          refine (make_ok A2 l c2 w2 (by omega) hT2 HRI.out hj4).mono ?_
          rintro e w3 ⟨A3, c3, rfl, hT3, hb3⟩
          have hbel3 := hbel2.trans (hb3.mono hbel2.size)
          clear hb3 hbel2 hT2
          go_wp2_with fail
          have hbt := Box.new w3 27 #[.slice A3 (joinF l).length c3]
          have hbel4 := hbel3.alloc hbel3.size (.cells #[.slice A3 (joinF l).length c3] 27)
          have hT3' : Tab (w3.alloc (.cells #[.slice A3 (joinF l).length c3] 27)) (w3.alloc (.cells #[.slice A3 (joinF l).length c3] 27)).heap.size A3 (joinF l) := (hT3.below ((Below.refl _ _).alloc (Nat.le_refl _) _)).more (by simp)
          generalize w3.alloc (.cells #[.slice A3 (joinF l).length c3] 27) = W at *
          generalize w3.heap.size = E at *
          clear hT3 hbel3
          generalize joinF l = q at *
          refine (pack_c A3 q c3 W hT3' HJS.out).mono ?_
          rintro e w4 ⟨A4, c4, rfl, hown4, hb4⟩
          have hB4 := Byt.of_own hown4
          have hcap4 := own_cap hown4
          have hbel5 := hbel4.trans (hb4.mono hbel4.size)
          have hbt4 := hbt.below hb4 hbt.lt
          have hT4 := (hT3'.below hb4).more hb4.size
          have hEl := hbt4.lt
          clear hb4 hown4 hbel4 hT3' hbt
          have hul := unp_ok4 HJS.out
          obtain ⟨hu1, hu2, hu3, hu4⟩ := hul
          have hcut := cut_ok HJS.out
          have HCUT := Lib.hid hcut
          clear hcut
          generalize packF 0 q = P at *
          go_wp2_with fail
          refine (unpack_c A4 P c4 w4 (by omega) hcap4.1 hcap4.2 hB4 hu3).mono ?_
          rw [hu1, hu2]
          rintro e w5 ⟨A5, c5, rfl, hT5, hb5⟩
          have hbel6 := hbel5.trans (hb5.mono hbel5.size)
          have hbt5 := hbt4.below hb5 hEl
          have hT45 := (hT4.below hb5).more hb5.size
          have hB5 := (hB4.below hb5).more hb5.size
          have hEl5 := hbt5.lt
          clear hb5 hbel5 hT4 hbt4 hB4 hEl
          go_upto_region 8 with fail
          have hbu := Box.new w5 27 #[.slice A5 q.length c5]
          have hb6 : Below w5.heap.size w5 (w5.alloc (.cells #[.slice A5 q.length c5] 27)) := (Below.refl _ _).alloc (Nat.le_refl _) _
          have hbel7 := hbel6.trans (hb6.mono hbel6.size)
          have hbt6 := hbt5.below hb6 hEl5
          have hT36 := (hT45.below hb6).more hb6.size
          have hT56 := (hT5.below hb6).more hb6.size
          have hB6 := (hB5.below hb6).more hb6.size
          clear hb6 hbel6 hbt5 hT45 hT5 hB5
          generalize w5.alloc (.cells #[.slice A5 q.length c5] 27) = Z at *
          generalize w5.heap.size = D at *
          have e1 := Ext.cell (B := Z.heap.size) (w := Z) (p := ⟨E, 0, none⟩) hbt6.lt (hbt6.cell 0)
          have e2 := Ext.cell (B := Z.heap.size) (w := Z) (p := ⟨D, 0, none⟩) hbu.lt (hbu.cell 0)
          have HT3 : Hid (∀ u : Ext Z Z.heap.size, Tab u.val u.val.heap.size A3 q) := fun u => (hT36.below u.below).more u.below.size
          have HT5 : Hid (∀ u : Ext Z Z.heap.size, Tab u.val u.val.heap.size A5 q) := fun u => (hT56.below u.below).more u.below.size
          refine region_plan [([0, 1, 2, 3, 4, 5, 6, 7, 8, 10, 11], [9, 12, 13]), ([14, 15], [])]
            (fun w' => ∃ u : Ext Z Z.heap.size, w' = u.val) (by kernel_rfl) (by kernel_rfl) (fun _ _ _ _ _ h => h) ⟨⟨_, (Below.refl _ _).drew⟩, rfl⟩ ?_
          simp only [wpPlan, sel, List.take_succ_cons, List.take_zero, List.drop_succ_cons, List.drop_zero, List.cons_append, List.nil_append]
          repeat (go_big_quiet_step (fail))
          refine wpQuiet_nil ?_
          unfold wpChain
          go_wp2_with fail
          have z3 : Below Z.heap.size Z Z.drew := (Below.refl _ _).drew
          refine (theirs_c A3 q c3 _ (by omega) (HT3.out ⟨_, z3⟩)).mono ?_
          rintro e w9 ⟨A9, c9, rfl, hown9, hz⟩
          have z4 := z3.trans (hz.mono z3.size)
          have hT9 := Tab.of_own hown9
          clear hz z3 hown9
          go_wp2_with fail
          refine ⟨⟨⟨_, z4⟩, rfl⟩, ?_⟩
          unfold wpChain
          go_wp2_with fail
          refine (theirs_c A5 q c5 _ (by omega) (HT5.out ⟨_, z4⟩)).mono ?_
          rintro e w10 ⟨A10, c10, rfl, hown10, hz⟩
          have z5 := z4.trans (hz.mono z4.size)
          have hT10 := Tab.of_own hown10
          have hT9' := (hT9.below hz).more hz.size
          clear hz z4 hown10 hT9
          go_wp2_with fail
          refine ⟨⟨⟨_, z5⟩, rfl⟩, ?_⟩
          unfold wpChain
          go_wp2_with fail
          refine (same_c A9 A10 q c9 c10 _ (by omega) hT9' hT10).mono ?_
          rintro e w11 ⟨rfl, hz⟩
          have z6 := z5.trans (hz.mono z5.size)
          clear hz z5 hT9' hT10
          go_wp2_with fail
          refine ⟨⟨⟨_, z6⟩, rfl⟩, ?_⟩
          unfold wpChain
          repeat (go_big_quiet_step (fail))
          refine wpQuiet_nil ?_
          unfold wpChain
          have hbel8 := hbel7.trans (z6.mono hbel7.size)
          have hbt7 := hbt6.below z6 hbt6.lt
          have hB7 := (hB6.below z6).more z6.size
          clear z6 hbel7 hbt6 hT36 hT56 hB6 HT3 HT5 e1 e2 hbu
          have hEw := hbt7.lt
          have hcq : w11.cell? ⟨E, 0, none⟩ = some (.slice A3 q.length c3) := hbt7.cell 0
          clear hbt7
          rcases HCUT.out with ⟨hq0, hP0⟩ | ⟨hq1, hP3, hue⟩
          · clear HCUT
            subst hq0
            subst hP0
            go_wp2_with fail
            refine (unpack_c A4 [] c4 w11 (by simp) (Nat.zero_le _) hcap4.2 Byt.nil (by simp)).mono ?_
            rw [un0.1, un0.2]
            rintro e w12 ⟨A12, c12, rfl, _, hz⟩
            have hzz := hz.alloc hz.size (.cells #[.slice A12 0 c12] 27)
            have hcq2 : (w12.alloc (.cells #[.slice A12 0 c12] 27)).cell? ⟨E, 0, none⟩ = some (.slice A3 0 c3) := (World.cell?_of_block (hzz.block E hEw)).trans hcq
            have hbel4 := hbel8.trans (hzz.mono hbel8.size)
            clear hz hzz hbel8 hcq hB7
            go_wp2_with fail
            generalize w12.alloc (.cells #[.slice A12 0 c12] 27) = W at *

            refine (unpack_c B bs cb W (by omega) hbc hcm ((hB.below hbel4).more hbel4.size) hby).mono ?_
            rintro e w5 ⟨A5, c5, rfl, hT5, hb5⟩
            rw [HUE.out]
            have hml := (sane_parts HUS.out).1
            have hbel5 := hbel4.trans (hb5.mono hbel4.size)
            clear hb5 hbel4
            generalize unTab bs = m at *
            go_wp2_with fail
            have hbv := Box.new w5 27 #[.slice A5 m.length c5]
            have hz0 : Below w5.heap.size w5 (w5.alloc (.cells #[.slice A5 m.length c5] 27)) := (Below.refl _ _).alloc (Nat.le_refl _) _
            have hbel6 := hbel5.trans (hz0.mono hbel5.size)
            have hT6 := (hT5.below hz0).more hz0.size
            clear hz0 hbel5 hT5
            generalize w5.alloc (.cells #[.slice A5 m.length c5] 27) = Z at *
            generalize w5.heap.size = D at *
            refine (pack_c A5 m c5 Z hT6 HUS.out).mono ?_
            rw [HUP.out]
            rintro e w7 ⟨A7, c7, rfl, hown7, hb7⟩
            have hbel7 := hbel6.trans (hb7.mono hbel6.size)
            have hBy7 := Byt.of_own hown7
            have hT7 := (hT6.below hb7).more hb7.size
            have hcv : w7.cell? ⟨D, 0, none⟩ = some (.slice A5 m.length c5) := (hbv.below hb7 hbv.lt).cell 0
            have hBB7 := (hB.below hbel7).more hbel7.size
            clear hb7 hbel6 hT6 hown7 hbv
            have hconv1 := conv_c A7 bs c7 w7 hBy7
            have hconv2 := conv_c B bs cb w7 hBB7
            generalize strOfNums (bs.map Int.ofNat) = S at *
            go_wp2_with fail
            refine (sane_c A5 m c5 w7 (by unfold maxLen; omega) hT7 true HUS.out).mono ?_
            rintro e w8 ⟨rfl, hb8⟩
            have hbel8 := hbel7.trans (hb8.mono hbel7.size)
            clear hb8 hbel7 hT7 hBB7 hBy7 hconv1 hconv2
            go_wp2
            go_ret
            exact ⟨rfl, hbel8⟩
          · clear HCUT
            have HUC := Lib.hid hue
            clear hue
            go_wp2_with fail
            obtain ⟨P', hP'⟩ : ∃ P', P' = P.take (P.length - 1) := ⟨_, rfl⟩
            have hPl : P'.length = P.length - 1 := by rw [hP', List.length_take]; omega
            rw [← hP'] at HUC
            have hB8 : Byt w11 w11.heap.size A4 P' := by rw [hP']; exact hB7.take _
            have hby8 : ∀ c ∈ P', c < 256 := by rw [hP']; exact fun c hc => hu3 c (List.mem_of_mem_take hc)
            rw [← hPl]
            refine (unpack_c A4 P' c4 w11 (by omega) (by omega) hcap4.2 hB8 hby8).mono ?_
            rw [un_bad HUC.out]
            rintro e w12 ⟨A12, c12, rfl, _, hz⟩
            have hzz := hz.alloc hz.size (.cells #[.slice A12 0 c12] 27)
            have hcq2 : (w12.alloc (.cells #[.slice A12 0 c12] 27)).cell? ⟨E, 0, none⟩ = some (.slice A3 q.length c3) := (World.cell?_of_block (hzz.block E hEw)).trans hcq
            have hbel4 := hbel8.trans (hzz.mono hbel8.size)
            clear hz hzz hbel8 hcq hB7 hB8 hP' hby8 hu3
            have hue8 := HUC.out
            clear HUC
            generalize unErr P' = ue8 at *
            go_wp2_with fail
            generalize w12.alloc (.cells #[.slice A12 0 c12] 27) = W at *

            refine (unpack_c B bs cb W (by omega) hbc hcm ((hB.below hbel4).more hbel4.size) hby).mono ?_
            rintro e w5 ⟨A5, c5, rfl, hT5, hb5⟩
            rw [HUE.out]
            have hml := (sane_parts HUS.out).1
            have hbel5 := hbel4.trans (hb5.mono hbel4.size)
            clear hb5 hbel4
            generalize unTab bs = m at *
            go_wp2_with fail
            have hbv := Box.new w5 27 #[.slice A5 m.length c5]
            have hz0 : Below w5.heap.size w5 (w5.alloc (.cells #[.slice A5 m.length c5] 27)) := (Below.refl _ _).alloc (Nat.le_refl _) _
            have hbel6 := hbel5.trans (hz0.mono hbel5.size)
            have hT6 := (hT5.below hz0).more hz0.size
            clear hz0 hbel5 hT5
            generalize w5.alloc (.cells #[.slice A5 m.length c5] 27) = Z at *
            generalize w5.heap.size = D at *
            refine (pack_c A5 m c5 Z hT6 HUS.out).mono ?_
            rw [HUP.out]
            rintro e w7 ⟨A7, c7, rfl, hown7, hb7⟩
            have hbel7 := hbel6.trans (hb7.mono hbel6.size)
            have hBy7 := Byt.of_own hown7
            have hT7 := (hT6.below hb7).more hb7.size
            have hcv : w7.cell? ⟨D, 0, none⟩ = some (.slice A5 m.length c5) := (hbv.below hb7 hbv.lt).cell 0
            have hBB7 := (hB.below hbel7).more hbel7.size
            clear hb7 hbel6 hT6 hown7 hbv
            have hconv1 := conv_c A7 bs c7 w7 hBy7
            have hconv2 := conv_c B bs cb w7 hBB7
            generalize strOfNums (bs.map Int.ofNat) = S at *
            go_wp2_with fail
            refine (sane_c A5 m c5 w7 (by unfold maxLen; omega) hT7 true HUS.out).mono ?_
            rintro e w8 ⟨rfl, hb8⟩
            have hbel8 := hbel7.trans (hb8.mono hbel7.size)
            clear hb8 hbel7 hT7 hBB7 hBy7 hconv1 hconv2
            go_wp2
            go_ret
            exact ⟨rfl, hbel8⟩
      · have hut := un_bad hub
        have HUT := Lib.hid hut
        clear hut
        cases hri : riseF (-1) l
        · have HRI := Lib.hid hri
          clear hri
          go_enter Try.func3, Try.ntmps3
          go_wp2_with fail
          refine (awake_c w).mono ?_
          rintro e w1 ⟨rfl, hb1⟩
          go_wp2_with fail
          refine (ours_c A l c w1 (by omega) ((h.below hb1).more hb1.size)).mono ?_
          rintro e w2 ⟨A2, c2, rfl, hown, hb2⟩
          have hT2 := Tab.of_own hown
          have hbel2 := hb1.trans (hb2.mono hb1.size)
          clear hb2 hown hb1
          go_wp2_with fail
          refine (make_bad A2 l c2 w2 (by omega) hT2 HRI.out).mono ?_
          rintro e w3 ⟨rfl, hb3⟩
          have hbel3 := hbel2.trans (hb3.mono hbel2.size)
          clear hb3 hbel2 hT2
          go_wp2_with fail
          have hbel4 := hbel3.alloc hbel3.size (.cells #[.slice none 0 0] 27)
          generalize w3.alloc (.cells #[.slice none 0 0] 27) = W at *
          refine (unpack_c B bs cb W (by omega) hbc hcm ((hB.below hbel4).more hbel4.size) hby).mono ?_
          rintro e w5 ⟨A5, c5, rfl, hT5, hb5⟩
          have hbel5 := hbel4.trans (hb5.mono hbel4.size)
          rw [HUT.out]
          generalize unErr bs = ue at *
          clear hT5 hb5 hbel4
          go_wp2
          go_ret
          exact ⟨rfl, hbel5.alloc hbel5.size _⟩
        · have HRI := Lib.hid hri
          have hjl := (joined hri).len
          have hsn := join_sane hri (by omega)
          have hj4 : (joinF l).length ≤ 4096 := by omega
          have hj2 : (joinF l).length ≤ 200 := by omega
          have HJS := Lib.hid hsn
          clear hri hsn hjl
          go_enter Try.func3, Try.ntmps3
          go_wp2_with fail
          refine (awake_c w).mono ?_
          rintro e w1 ⟨rfl, hb1⟩
          go_wp2_with fail
          refine (ours_c A l c w1 (by omega) ((h.below hb1).more hb1.size)).mono ?_
          rintro e w2 ⟨A2, c2, rfl, hown, hb2⟩
          have hT2 := Tab.of_own hown
          have hbel2 := hb1.trans (hb2.mono hb1.size)
          clear hb2 hown hb1
          go_wp2_with fail
          refine (make_ok A2 l c2 w2 (by omega) hT2 HRI.out hj4).mono ?_
          rintro e w3 ⟨A3, c3, rfl, hT3, hb3⟩
          have hbel3 := hbel2.trans (hb3.mono hbel2.size)
          clear hb3 hbel2 hT2
          go_wp2_with fail
          have hbt := Box.new w3 27 #[.slice A3 (joinF l).length c3]
          have hbel4 := hbel3.alloc hbel3.size (.cells #[.slice A3 (joinF l).length c3] 27)
          have hT3' : Tab (w3.alloc (.cells #[.slice A3 (joinF l).length c3] 27)) (w3.alloc (.cells #[.slice A3 (joinF l).length c3] 27)).heap.size A3 (joinF l) := (hT3.below ((Below.refl _ _).alloc (Nat.le_refl _) _)).more (by simp)
          generalize w3.alloc (.cells #[.slice A3 (joinF l).length c3] 27) = W at *
          generalize w3.heap.size = E at *
          clear hT3 hbel3
          generalize joinF l = q at *
          refine (pack_c A3 q c3 W hT3' HJS.out).mono ?_
          rintro e w4 ⟨A4, c4, rfl, hown4, hb4⟩
          have hB4 := Byt.of_own hown4
          have hcap4 := own_cap hown4
          have hbel5 := hbel4.trans (hb4.mono hbel4.size)
          have hbt4 := hbt.below hb4 hbt.lt
          have hT4 := (hT3'.below hb4).more hb4.size
          have hEl := hbt4.lt
          clear hb4 hown4 hbel4 hT3' hbt
          have hul := unp_ok4 HJS.out
          obtain ⟨hu1, hu2, hu3, hu4⟩ := hul
          have hcut := cut_ok HJS.out
          have HCUT := Lib.hid hcut
          clear hcut
          generalize packF 0 q = P at *
          go_wp2_with fail
          refine (unpack_c A4 P c4 w4 (by omega) hcap4.1 hcap4.2 hB4 hu3).mono ?_
          rw [hu1, hu2]
          rintro e w5 ⟨A5, c5, rfl, hT5, hb5⟩
          have hbel6 := hbel5.trans (hb5.mono hbel5.size)
          have hbt5 := hbt4.below hb5 hEl
          have hT45 := (hT4.below hb5).more hb5.size
          have hB5 := (hB4.below hb5).more hb5.size
          have hEl5 := hbt5.lt
          clear hb5 hbel5 hT4 hbt4 hB4 hEl
          go_upto_region 8 with fail
          have hbu := Box.new w5 27 #[.slice A5 q.length c5]
          have hb6 : Below w5.heap.size w5 (w5.alloc (.cells #[.slice A5 q.length c5] 27)) := (Below.refl _ _).alloc (Nat.le_refl _) _
          have hbel7 := hbel6.trans (hb6.mono hbel6.size)
          have hbt6 := hbt5.below hb6 hEl5
          have hT36 := (hT45.below hb6).more hb6.size
          have hT56 := (hT5.below hb6).more hb6.size
          have hB6 := (hB5.below hb6).more hb6.size
          clear hb6 hbel6 hbt5 hT45 hT5 hB5
          generalize w5.alloc (.cells #[.slice A5 q.length c5] 27) = Z at *
          generalize w5.heap.size = D at *
          have e1 := Ext.cell (B := Z.heap.size) (w := Z) (p := ⟨E, 0, none⟩) hbt6.lt (hbt6.cell 0)
          have e2 := Ext.cell (B := Z.heap.size) (w := Z) (p := ⟨D, 0, none⟩) hbu.lt (hbu.cell 0)
          have HT3 : Hid (∀ u : Ext Z Z.heap.size, Tab u.val u.val.heap.size A3 q) := fun u => (hT36.below u.below).more u.below.size
          have HT5 : Hid (∀ u : Ext Z Z.heap.size, Tab u.val u.val.heap.size A5 q) := fun u => (hT56.below u.below).more u.below.size
          refine region_plan [([0, 1, 2, 3, 4, 5, 6, 7, 8, 10, 11], [9, 12, 13]), ([14, 15], [])]
            (fun w' => ∃ u : Ext Z Z.heap.size, w' = u.val) (by kernel_rfl) (by kernel_rfl) (fun _ _ _ _ _ h => h) ⟨⟨_, (Below.refl _ _).drew⟩, rfl⟩ ?_
          simp only [wpPlan, sel, List.take_succ_cons, List.take_zero, List.drop_succ_cons, List.drop_zero, List.cons_append, List.nil_append]
          repeat (go_big_quiet_step (fail))
          refine wpQuiet_nil ?_
          unfold wpChain
          go_wp2_with fail
          have z3 : Below Z.heap.size Z Z.drew := (Below.refl _ _).drew
          refine (theirs_c A3 q c3 _ (by omega) (HT3.out ⟨_, z3⟩)).mono ?_
          rintro e w9 ⟨A9, c9, rfl, hown9, hz⟩
          have z4 := z3.trans (hz.mono z3.size)
          have hT9 := Tab.of_own hown9
          clear hz z3 hown9
          go_wp2_with fail
          refine ⟨⟨⟨_, z4⟩, rfl⟩, ?_⟩
          unfold wpChain
          go_wp2_with fail
          refine (theirs_c A5 q c5 _ (by omega) (HT5.out ⟨_, z4⟩)).mono ?_
          rintro e w10 ⟨A10, c10, rfl, hown10, hz⟩
          have z5 := z4.trans (hz.mono z4.size)
          have hT10 := Tab.of_own hown10
          have hT9' := (hT9.below hz).more hz.size
          clear hz z4 hown10 hT9
          go_wp2_with fail
          refine ⟨⟨⟨_, z5⟩, rfl⟩, ?_⟩
          unfold wpChain
          go_wp2_with fail
          refine (same_c A9 A10 q c9 c10 _ (by omega) hT9' hT10).mono ?_
          rintro e w11 ⟨rfl, hz⟩
          have z6 := z5.trans (hz.mono z5.size)
          clear hz z5 hT9' hT10
          go_wp2_with fail
          refine ⟨⟨⟨_, z6⟩, rfl⟩, ?_⟩
          unfold wpChain
          repeat (go_big_quiet_step (fail))
          refine wpQuiet_nil ?_
          unfold wpChain
          have hbel8 := hbel7.trans (z6.mono hbel7.size)
          have hbt7 := hbt6.below z6 hbt6.lt
          have hB7 := (hB6.below z6).more z6.size
          clear z6 hbel7 hbt6 hT36 hT56 hB6 HT3 HT5 e1 e2 hbu
          have hEw := hbt7.lt
          have hcq : w11.cell? ⟨E, 0, none⟩ = some (.slice A3 q.length c3) := hbt7.cell 0
          clear hbt7
          rcases HCUT.out with ⟨hq0, hP0⟩ | ⟨hq1, hP3, hue⟩
          · clear HCUT
            subst hq0
            subst hP0
            go_wp2_with fail
            refine (unpack_c A4 [] c4 w11 (by simp) (Nat.zero_le _) hcap4.2 Byt.nil (by simp)).mono ?_
            rw [un0.1, un0.2]
            rintro e w12 ⟨A12, c12, rfl, _, hz⟩
            have hzz := hz.alloc hz.size (.cells #[.slice A12 0 c12] 27)
            have hcq2 : (w12.alloc (.cells #[.slice A12 0 c12] 27)).cell? ⟨E, 0, none⟩ = some (.slice A3 0 c3) := (World.cell?_of_block (hzz.block E hEw)).trans hcq
            have hbel4 := hbel8.trans (hzz.mono hbel8.size)
            clear hz hzz hbel8 hcq hB7
            go_wp2_with fail
            generalize w12.alloc (.cells #[.slice A12 0 c12] 27) = W at *

            refine (unpack_c B bs cb W (by omega) hbc hcm ((hB.below hbel4).more hbel4.size) hby).mono ?_
            rintro e w5 ⟨A5, c5, rfl, hT5, hb5⟩
            have hbel5 := hbel4.trans (hb5.mono hbel4.size)
            rw [HUT.out]
            generalize unErr bs = ue at *
            clear hT5 hb5 hbel4
            go_wp2
            go_ret
            exact ⟨rfl, hbel5.alloc hbel5.size _⟩
          · clear HCUT
            have HUC := Lib.hid hue
            clear hue
            go_wp2_with fail
            obtain ⟨P', hP'⟩ : ∃ P', P' = P.take (P.length - 1) := ⟨_, rfl⟩
            have hPl : P'.length = P.length - 1 := by rw [hP', List.length_take]; omega
            rw [← hP'] at HUC
            have hB8 : Byt w11 w11.heap.size A4 P' := by rw [hP']; exact hB7.take _
            have hby8 : ∀ c ∈ P', c < 256 := by rw [hP']; exact fun c hc => hu3 c (List.mem_of_mem_take hc)
            rw [← hPl]
            refine (unpack_c A4 P' c4 w11 (by omega) (by omega) hcap4.2 hB8 hby8).mono ?_
            rw [un_bad HUC.out]
            rintro e w12 ⟨A12, c12, rfl, _, hz⟩
            have hzz := hz.alloc hz.size (.cells #[.slice A12 0 c12] 27)
            have hcq2 : (w12.alloc (.cells #[.slice A12 0 c12] 27)).cell? ⟨E, 0, none⟩ = some (.slice A3 q.length c3) := (World.cell?_of_block (hzz.block E hEw)).trans hcq
            have hbel4 := hbel8.trans (hzz.mono hbel8.size)
            clear hz hzz hbel8 hcq hB7 hB8 hP' hby8 hu3
            have hue8 := HUC.out
            clear HUC
            generalize unErr P' = ue8 at *
            go_wp2_with fail
            generalize w12.alloc (.cells #[.slice A12 0 c12] 27) = W at *

            refine (unpack_c B bs cb W (by omega) hbc hcm ((hB.below hbel4).more hbel4.size) hby).mono ?_
            rintro e w5 ⟨A5, c5, rfl, hT5, hb5⟩
            have hbel5 := hbel4.trans (hb5.mono hbel4.size)
            rw [HUT.out]
            generalize unErr bs = ue at *
            clear hT5 hb5 hbel4
            go_wp2
            go_ret
            exact ⟨rfl, hbel5.alloc hbel5.size _⟩
end Go.Proofs.Ytgmcpmhpafcihaa
