/- What is made of rows tells of each number what the rows tell; made again it is the same. -/
import Derived.Test.YtgmcpmhpafcihaaWalk01d
import Derived.Deep.DeepCutAuto
namespace Go.Proofs.Ytgmcpmhpafcihaa
open Go Go.RowKit
set_option linter.unusedVariables false
set_option linter.unusedSimpArgs false

set_option maxRecDepth 100000 in
set_option maxHeartbeats 2000000 in
theorem make_c (A : Option Addr) (l : List R3) (c : Nat) (k : Int) (w : World) (hn : l.length ≤ maxLen) (h : Tab w w.heap.size A l) :
    Calls Try.prog 4 #[.slice A l.length c, .int .i64 k] w fun e w' => e = .returned (.bool true) ∧ Below w.heap.size w w' := by
  unfold maxLen at hn
  by_cases h2 : 200 < l.length
  · have hd : decide ((200 : Int) < (l.length : Int)) = true := by simp; omega
    go_enter Try.func4, Try.ntmps4
    go_wp2_with fail
    refine (awake_c w).mono ?_
    rintro e w1 ⟨rfl, hb1⟩
    go_wp2
    go_ret
    exact ⟨rfl, hb1⟩
  · have hd : decide ((200 : Int) < (l.length : Int)) = false := by simp; omega
    cases hri : riseF (-1) l
    · have HRI := Lib.hid hri
      clear hri
      go_enter Try.func4, Try.ntmps4
      go_wp2_with fail
      refine (awake_c w).mono ?_
      rintro e w1 ⟨rfl, hb1⟩
      go_wp2_with fail
      refine (ours_c A l c w1 (by omega) ((h.below hb1).more hb1.size)).mono ?_
      rintro e w2 ⟨A2, c2, rfl, hown, hb2⟩
      have hT2 := Tab.of_own hown
      have hbel2 := hb1.trans (hb2.mono hb1.size)
      clear hb2 hown hb1
      go_wp2_with fail
      refine (make_bad A2 l c2 w2 (by omega) hT2 HRI.out).mono ?_
      rintro e w3 ⟨rfl, hb3⟩
      have hbel3 := hbel2.trans (hb3.mono hbel2.size)
      clear hb3 hbel2 hT2
      go_wp2
      go_ret
      exact ⟨rfl, hbel3.alloc hbel3.size _⟩
    · have HRI := Lib.hid hri
      have hjl := (joined hri).len
      have htot := (joined hri).tot
      have hget := join_get hri k
      have hsn := join_sane hri (by omega)
      have hag := join_again hri
      have hj4 : (joinF l).length ≤ 4096 := by omega
      have HJT := Lib.hid htot
      have HJG := Lib.hid hget
      have HJS := Lib.hid hsn
      have HJA := Lib.hid hag
      clear hri htot hget hsn hag
      go_enter Try.func4, Try.ntmps4
      go_wp2_with fail
      refine (awake_c w).mono ?_
      rintro e w1 ⟨rfl, hb1⟩
      go_wp2_with fail
      refine (ours_c A l c w1 (by omega) ((h.below hb1).more hb1.size)).mono ?_
      rintro e w2 ⟨A2, c2, rfl, hown, hb2⟩
      have hT2 := Tab.of_own hown
      have hbel2 := hb1.trans (hb2.mono hb1.size)
      clear hb2 hown hb1
      go_wp2_with fail
      refine (make_ok A2 l c2 w2 (by omega) hT2 HRI.out hj4).mono ?_
      rintro e w3 ⟨A3, c3, rfl, hT3, hb3⟩
      have hbel3 := hbel2.trans (hb3.mono hbel2.size)
      clear hb3 hbel2 hT2
      go_wp2
      have hbt := Box.new w3 27 #[.slice A3 (joinF l).length c3]
      have hbel := hbel3.alloc hbel3.size (.cells #[.slice A3 (joinF l).length c3] 27)
      have hT3' : Tab (w3.alloc (.cells #[.slice A3 (joinF l).length c3] 27)) (w3.alloc (.cells #[.slice A3 (joinF l).length c3] 27)).heap.size A3 (joinF l) := (hT3.below ((Below.refl _ _).alloc (Nat.le_refl _) _)).more (by simp)
      have hTl := h.below hbel
      generalize w3.alloc (.cells #[.slice A3 (joinF l).length c3] 27) = W at *
      generalize w3.heap.size = B at *
      clear hT3 hbel3
      go_loopw [8, 9, 10] (fun v n i wr => ∃ (j nq : Nat), j ≤ l.length ∧ i = .int .i64 j ∧ v = .int .i64 (getF (l.take j) k) ∧ n = .int .i64 (totF (l.take j)) ∧ wr = W.drewN nq) (fun _ _ i _ => l.length - (intOf i).toNat)
      case atStart => exact ⟨0, 0, Nat.zero_le _, rfl, rfl, rfl, rfl⟩
      case round =>
        obtain ⟨j, nq0, hj, rfl, rfl, rfl, rfl⟩ := hrel
        have hbd := totF_take_bd HRI.out j hj
        by_cases hlt : j < l.length
        · have hg : l[j]? = some l[j] := List.getElem?_eq_getElem hlt
          generalize l[j] = x at *
          obtain ⟨b, o, rfl, hb, h0⟩ := hTl.at_ hg
          obtain ⟨h1, h2', h3⟩ := h0
          have hx := rise_ok HRI.out hg
          have ht : totF (l.take (j + 1)) = totF (l.take j) + (x.hi - x.lo + 1) := by rw [take_snoc hg, totF_append]; simp [totF]
          have HT := Lib.hid ht
          have hhit : inB k x = true → getF (l.take (j + 1)) k = x.v := getF_snoc_hit HRI.out hg
          have hmiss : inB k x = false → getF (l.take (j + 1)) k = getF (l.take j) k := getF_snoc_miss hg
          have HH := Lib.hid hhit
          have HM := Lib.hid hmiss
          clear ht hhit hmiss hg hTl h hT3' hbt
          generalize totF (l.take j) = t at *
          generalize getF (l.take j) k = g at *
          go_wp2_with fail
          go_quiet (fail)
          go_wp2_with fail
          all_goals first
            | (have hin : inB k x = true := inB_iff.2 (by omega)
               exact ⟨⟨j + 1, _, by omega, by go_num, by rw [HH.out hin], by rw [HT.out]; go_num, rfl⟩, by simp [intOf]; omega⟩)
            | (have hin : inB k x = false := inB_no.2 (by omega)
               exact ⟨⟨j + 1, _, by omega, by go_num, by rw [HM.out hin], by rw [HT.out]; go_num, rfl⟩, by simp [intOf]; omega⟩)
        · have hjl' : l.take j = l := List.take_of_length_le (by omega)
          have HTT : Hid (totF (l.take j) = totF (joinF l)) := by rw [hjl', HJT.out]; exact rfl
          have HGG : Hid (getF (l.take j) k = getF (joinF l) k) := by rw [hjl', HJG.out]; exact rfl
          have hT3n : Tab (W.drewN nq0) (W.drewN nq0).heap.size A3 (joinF l) := hT3'
          have hbtn := hbt.drewN nq0
          have hbeln := below_drewN hbel nq0
          clear hjl' hbd hT3' hbt hbel hTl h
          generalize W.drewN nq0 = W at *
          have hc1 : W.cell? ⟨B, 0, none⟩ = some (.slice A3 (joinF l).length c3) := hbtn.cell 0
          generalize totF (l.take j) = t at *
          generalize getF (l.take j) k = g at *
          go_wp2_with fail
          have hmr : Hid (riseF (-1) (joinF l) = true) := (sane_parts HJS.out).2.1
          generalize joinF l = m at *
          have hm := make_ok A3 m c3 W (by omega) hT3n hmr.out (by rw [HJA.out]; exact hj4)
          rw [HJA.out] at hm
          refine hm.mono ?_
          rintro e w5 ⟨A5, c5, rfl, hT5, hb5⟩
          have hbel5 := hbeln.trans (hb5.mono hbeln.size)
          have hbt5 := hbtn.below hb5 hbtn.lt
          have hT35 := (hT3n.below hb5).more hb5.size
          have hBl := hbt5.lt
          clear hm hb5 hbeln hbtn hT3n hc1
          go_upto_region 16 with fail
          have hbu := Box.new w5 27 #[.slice A5 m.length c5]
          have hb6 : Below w5.heap.size w5 (w5.alloc (.cells #[.slice A5 m.length c5] 27)) := (Below.refl _ _).alloc (Nat.le_refl _) _
          have hbel6 := hbel5.trans (hb6.mono hbel5.size)
          have hbt6 := hbt5.below hb6 hBl
          have hT36 := (hT35.below hb6).more hb6.size
          have hT56 := (hT5.below hb6).more hb6.size
          clear hb6 hbel5 hbt5 hT35 hT5
          generalize w5.alloc (.cells #[.slice A5 m.length c5] 27) = Z at *
          generalize w5.heap.size = D at *
          have e1 := Ext.cell (B := Z.heap.size) (w := Z) (p := ⟨B, 0, none⟩) hbt6.lt (hbt6.cell 0)
          have e2 := Ext.cell (B := Z.heap.size) (w := Z) (p := ⟨D, 0, none⟩) hbu.lt (hbu.cell 0)
          have HT3 : Hid (∀ u : Ext Z Z.heap.size, Tab u.val u.val.heap.size A3 m) := fun u => (hT36.below u.below).more u.below.size
          have HT5 : Hid (∀ u : Ext Z Z.heap.size, Tab u.val u.val.heap.size A5 m) := fun u => (hT56.below u.below).more u.below.size
          have q1 : (getF m k == g) = true := beq_iff_eq.2 HGG.out.symm
          have q2 : (totF m == t) = true := beq_iff_eq.2 HTT.out.symm
          have hml : decide (m.length ≤ l.length) = true := by simp; omega
          refine region_plan [([0, 1, 2, 3, 5], [4]), ([6, 7, 8, 9, 11], [10]), ([12, 13, 14, 15], [16]), ([17, 18, 19, 20, 21, 22, 23, 24, 26, 27], [25, 28, 29]), ([30, 31, 32, 33, 34, 35, 36, 37, 38, 39], [])]
            (fun w' => ∃ u : Ext Z Z.heap.size, w' = u.val) (by kernel_rfl) (by kernel_rfl) (fun _ _ _ _ _ h => h) ⟨⟨_, (Below.refl _ _).drew⟩, rfl⟩ ?_
          simp only [wpPlan, sel, List.take_succ_cons, List.take_zero, List.drop_succ_cons, List.drop_zero, List.cons_append, List.nil_append]
          repeat (go_big_quiet_step (fail))
          refine wpQuiet_nil ?_
          unfold wpChain
          go_wp2_with fail
          have z0 : Below Z.heap.size Z Z.drew := (Below.refl _ _).drew
          refine (get_c A3 m c3 k _ (by unfold maxLen; omega) (HT3.out ⟨_, z0⟩)).mono ?_
          rintro e w6 ⟨rfl, hz⟩
          have z1 := z0.trans hz
          clear hz z0
          go_wp2_with fail
          refine ⟨⟨⟨_, z1⟩, rfl⟩, ?_⟩
          unfold wpChain
          repeat (go_big_quiet_step (fail))
          refine wpQuiet_nil ?_
          unfold wpChain
          go_wp2_with fail
          refine (total_c A3 m c3 _ (HT3.out ⟨_, z1⟩) HJS.out).mono ?_
          rintro e w7 ⟨rfl, hz⟩
          have z2 := z1.trans (hz.mono z1.size)
          clear hz z1
          go_wp2_with fail
          refine ⟨⟨⟨_, z2⟩, rfl⟩, ?_⟩
          unfold wpChain
          repeat (go_big_quiet_step (fail))
          refine wpQuiet_nil ?_
          unfold wpChain
          go_wp2_with fail
          refine (sane_c A3 m c3 _ (by unfold maxLen; omega) (HT3.out ⟨_, z2⟩) true HJS.out).mono ?_
          rintro e w8 ⟨rfl, hz⟩
          have z3 := z2.trans (hz.mono z2.size)
          clear hz z2
          go_wp2_with fail
          refine ⟨⟨⟨_, z3⟩, rfl⟩, ?_⟩
          unfold wpChain
          repeat (go_big_quiet_step (fail))
          refine wpQuiet_nil ?_
          unfold wpChain
          go_wp2_with fail
          refine (theirs_c A3 m c3 _ (by omega) (HT3.out ⟨_, z3⟩)).mono ?_
          rintro e w9 ⟨A9, c9, rfl, hown9, hz⟩
          have z4 := z3.trans (hz.mono z3.size)
          have hT9 := Tab.of_own hown9
          clear hz z3 hown9
          go_wp2_with fail
          refine ⟨⟨⟨_, z4⟩, rfl⟩, ?_⟩
          unfold wpChain
          go_wp2_with fail
          refine (theirs_c A5 m c5 _ (by omega) (HT5.out ⟨_, z4⟩)).mono ?_
          rintro e w10 ⟨A10, c10, rfl, hown10, hz⟩
          have z5 := z4.trans (hz.mono z4.size)
          have hT10 := Tab.of_own hown10
          have hT9' := (hT9.below hz).more hz.size
          clear hz z4 hown10 hT9
          go_wp2_with fail
          refine ⟨⟨⟨_, z5⟩, rfl⟩, ?_⟩
          unfold wpChain
          go_wp2_with fail
          refine (same_c A9 A10 m c9 c10 _ (by omega) hT9' hT10).mono ?_
          rintro e w11 ⟨rfl, hz⟩
          have z6 := z5.trans (hz.mono z5.size)
          clear hz z5 hT9' hT10
          go_wp2_with fail
          refine ⟨⟨⟨_, z6⟩, rfl⟩, ?_⟩
          unfold wpChain
          repeat (go_big_quiet_step (fail))
          refine wpQuiet_nil ?_
          unfold wpChain
          go_wp2
          go_ret
          exact ⟨rfl, hbel6.trans (z6.mono hbel6.size)⟩
end Go.Proofs.Ytgmcpmhpafcihaa
