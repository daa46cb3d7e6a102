/- What lies over another table has as many numbers as both have, less those that both have. -/
import Derived.Test.YtgmcpmhpafcihaaWalk01d
import Derived.Test.YtgmcpmhpafcihaaWalk01f
import Derived.Test.YtgmcpmhpafcihaaMath01d
namespace Go.Proofs.Ytgmcpmhpafcihaa
open Go Go.RowKit
set_option linter.unusedVariables false
set_option linter.unusedSimpArgs false

/-- What the two tables' sums are, plainly. -/
structure Sums (a b : List R3) : Prop where
  rab : riseF (-1) (layF a b) = true
  rba : riseF (-1) (layF b a) = true
  lab : (joinF (layF a b)).length ≤ 4096
  lba : (joinF (layF b a)).length ≤ 4096
  sab : saneF (joinF (layF a b)) = true
  sba : saneF (joinF (layF b a)) = true
  eq : totF (joinF (layF a b)) = totF (joinF (layF b a))
  ge1 : totF a ≤ totF (joinF (layF a b))
  ge2 : totF b ≤ totF (joinF (layF a b))
  le : totF (joinF (layF a b)) ≤ totF a + totF b
  pa : 0 ≤ totF a ∧ totF a ≤ 33423360
  pb : 0 ≤ totF b ∧ totF b ≤ 33423360
theorem sums {a b : List R3} (ha : saneF a = true) (hb : saneF b = true) (h1 : a.length ≤ 30) (h2 : b.length ≤ 30) : Sums a b := by
  obtain ⟨_, ra, _⟩ := sane_parts ha
  obtain ⟨_, rb, _⟩ := sane_parts hb
  have l1 := lay_len ra rb
  have l2 := lay_len rb ra
  have k1 := (lay_ok ra rb).1
  have k2 := (lay_ok rb ra).1
  have j1 := (joined k1).len
  have j2 := (joined k2).len
  have s1 := join_sane k1 (by omega)
  have s2 := join_sane k2 (by omega)
  have g1 := join_lay_get ra rb
  have g2 := join_lay_get rb ra
  have t1 := tot_cnt (sane_parts s1).2.1 (Int.le_refl _)
  have t2 := tot_cnt (sane_parts s2).2.1 (Int.le_refl _)
  have ta := tot_cnt ra (Int.le_refl _)
  have tb := tot_cnt rb (Int.le_refl _)
  have c12 : cnt (joinF (layF a b)) ≤ cnt (joinF (layF b a)) := cnt_le (fun r h => by
    rw [g1] at h; rw [g2]
    by_cases hq : getF a r = 0
    · rw [if_pos hq]; intro h0; rw [if_pos h0] at h; exact h hq
    · rw [if_neg hq]; exact hq)
  have c21 : cnt (joinF (layF b a)) ≤ cnt (joinF (layF a b)) := cnt_le (fun r h => by
    rw [g2] at h; rw [g1]
    by_cases hq : getF b r = 0
    · rw [if_pos hq]; intro h0; rw [if_pos h0] at h; exact h hq
    · rw [if_neg hq]; exact hq)
  have ca : cnt a ≤ cnt (joinF (layF a b)) := cnt_le (fun r h => by
    rw [g1]
    by_cases hq : getF b r = 0
    · rw [if_pos hq]; exact h
    · rw [if_neg hq]; exact hq)
  have cb : cnt b ≤ cnt (joinF (layF a b)) := cnt_le (fun r h => by
    rw [g1, if_neg h]; exact h)
  have co : cnt (joinF (layF a b)) ≤ cnt a + cnt b := cnt_or (fun r h => by
    rw [g1] at h
    by_cases hq : getF b r = 0
    · rw [if_pos hq] at h; exact .inl h
    · exact .inr hq)
  have ba := totF_bd ra (Int.le_refl _)
  have bb := totF_bd rb (Int.le_refl _)
  exact ⟨k1, k2, by omega, by omega, s1, s2, by omega, by omega, by omega, by omega, by omega, by omega⟩

set_option maxRecDepth 100000 in
set_option maxHeartbeats 2000000 in
theorem count_c (A B : Option Addr) (a b : List R3) (ca cb : Nat) (w : World) (hna : a.length ≤ maxLen) (hnb : b.length ≤ maxLen) (hA : Tab w w.heap.size A a) (hB : Tab w w.heap.size B b) :
    Calls Try.prog 7 #[.slice A a.length ca, .slice B b.length cb] w fun e w' => e = .returned (.bool true) ∧ Below w.heap.size w w' := by
  unfold maxLen at hna hnb
  by_cases h2 : 30 < a.length
  · have hd : decide ((30 : Int) < (a.length : Int)) = true := by simp; omega
    go_enter Try.func7, Try.ntmps7
    go_wp2_with fail
    refine (awake_c w).mono ?_
    rintro e w1 ⟨rfl, hb1⟩
    go_wp2
    go_ret
    exact ⟨rfl, hb1⟩
  · have hd : decide ((30 : Int) < (a.length : Int)) = false := by simp; omega
    by_cases h3 : 30 < b.length
    · have hd3 : decide ((30 : Int) < (b.length : Int)) = true := by simp; omega
      go_enter Try.func7, Try.ntmps7
      go_wp2_with fail
      refine (awake_c w).mono ?_
      rintro e w1 ⟨rfl, hb1⟩
      go_wp2
      go_ret
      exact ⟨rfl, hb1⟩
    · have hd3 : decide ((30 : Int) < (b.length : Int)) = false := by simp; omega
      cases hsa : saneF a
      · have HS := Lib.hid hsa
        clear hsa
        go_enter Try.func7, Try.ntmps7
        go_wp2_with fail
        refine (awake_c w).mono ?_
        rintro e w1 ⟨rfl, hb1⟩
        go_wp2_with fail
        refine (table_c A a ca w1 (by omega) ((hA.below hb1).more hb1.size)).mono ?_
        rintro e w2 ⟨A2, c2, rfl, hT2, hz⟩
        have hb2 := hb1.trans (hz.mono hb1.size)
        clear hz hb1
        go_wp2_with fail
        refine (sane_c A2 a c2 w2 (by unfold maxLen; omega) hT2 false HS.out).mono ?_
        rintro e w3 ⟨rfl, hz⟩
        have hb3 := hb2.trans (hz.mono hb2.size)
        clear hz hb2 hT2
        go_wp2
        go_ret
        exact ⟨rfl, hb3⟩
      · have HSA := Lib.hid hsa
        cases hsb : saneF b
        · have HS := Lib.hid hsb
          clear hsa hsb
          go_enter Try.func7, Try.ntmps7
          go_wp2_with fail
          refine (awake_c w).mono ?_
          rintro e w1 ⟨rfl, hb1⟩
          go_wp2_with fail
          refine (table_c A a ca w1 (by omega) ((hA.below hb1).more hb1.size)).mono ?_
          rintro e w2 ⟨A2, c2, rfl, hT2, hz⟩
          have hb2 := hb1.trans (hz.mono hb1.size)
          clear hz hb1
          go_wp2_with fail
          refine (sane_c A2 a c2 w2 (by unfold maxLen; omega) hT2 true HSA.out).mono ?_
          rintro e w3 ⟨rfl, hz⟩
          have hb3 := hb2.trans (hz.mono hb2.size)
          clear hz hb2 hT2
          go_wp2_with fail
          refine (table_c B b cb w3 (by omega) ((hB.below hb3).more hb3.size)).mono ?_
          rintro e w4 ⟨B4, d4, rfl, hT4, hz⟩
          have hb4 := hb3.trans (hz.mono hb3.size)
          clear hz hb3
          go_wp2_with fail
          refine (sane_c B4 b d4 w4 (by unfold maxLen; omega) hT4 false HS.out).mono ?_
          rintro e w5 ⟨rfl, hz⟩
          have hb5 := hb4.trans (hz.mono hb4.size)
          clear hz hb4 hT4
          go_wp2
          go_ret
          exact ⟨rfl, hb5⟩
        · have HSB := Lib.hid hsb
          have HSum := Lib.hid (sums hsa hsb (by omega) (by omega))
          clear hsa hsb
          go_enter Try.func7, Try.ntmps7
          go_wp2_with fail
          refine (awake_c w).mono ?_
          rintro e w1 ⟨rfl, hb1⟩
          go_wp2_with fail
          refine (table_c A a ca w1 (by omega) ((hA.below hb1).more hb1.size)).mono ?_
          rintro e w2 ⟨A2, c2, rfl, hT2, hz⟩
          have hb2 := hb1.trans (hz.mono hb1.size)
          clear hz hb1
          go_wp2_with fail
          refine (sane_c A2 a c2 w2 (by unfold maxLen; omega) hT2 true HSA.out).mono ?_
          rintro e w3 ⟨rfl, hz⟩
          have hb3 := hb2.trans (hz.mono hb2.size)
          clear hz hb2 hT2
          go_wp2_with fail
          refine (table_c B b cb w3 (by omega) ((hB.below hb3).more hb3.size)).mono ?_
          rintro e w4 ⟨B4, d4, rfl, hT4, hz⟩
          have hb4 := hb3.trans (hz.mono hb3.size)
          clear hz hb3
          go_wp2_with fail
          refine (sane_c B4 b d4 w4 (by unfold maxLen; omega) hT4 true HSB.out).mono ?_
          rintro e w5 ⟨rfl, hz⟩
          have hb5 := hb4.trans (hz.mono hb4.size)
          clear hz hb4 hT4
          go_wp2_with fail
          refine (table_new A a ca w5 (by omega) ((hA.below hb5).more hb5.size)).mono ?_
          rintro e w6 ⟨A6, c6, rfl, hT6, hz, hc6, hm6⟩
          have hb6 := hb5.trans (hz.mono hb5.size)
          clear hz hb5
          go_wp2_with fail
          refine (table_c B b cb w6 (by omega) ((hB.below hb6).more hb6.size)).mono ?_
          rintro e w7 ⟨B7, d7, rfl, hT7, hz⟩
          have hb7 := hb6.trans (hz.mono hb6.size)
          have hT67 := (hT6.below hz).more hz.size
          clear hz hb6 hT6
          go_wp2_with fail
          refine (over_c A6 B7 a b c6 d7 w7 hT67 hT7 (Nat.le_trans (Nat.mul_le_mul (show b.length ≤ 30 by omega) (show a.length + 1 ≤ 31 by omega)) (by decide)) HSA.out HSB.out hc6 hm6 HSum.out.rab HSum.out.lab).mono ?_
          rintro e w8 ⟨A8, c8, rfl, hT8, hz, _, _⟩
          have hb8 := hb7.trans (hz.mono hb7.size)
          clear hz hb7 hT67 hT7
          go_wp2_with fail
          refine (total_c A8 _ c8 w8 hT8 HSum.out.sab).mono ?_
          rintro e w9 ⟨rfl, hz⟩
          have hb9 := hb8.trans (hz.mono hb8.size)
          clear hz hb8 hT8
          go_wp2_with fail
          refine (table_new B b cb w9 (by omega) ((hB.below hb9).more hb9.size)).mono ?_
          rintro e w10 ⟨B10, d10, rfl, hT10, hz, hc10, hm10⟩
          have hb10 := hb9.trans (hz.mono hb9.size)
          clear hz hb9
          go_wp2_with fail
          refine (table_c A a ca w10 (by omega) ((hA.below hb10).more hb10.size)).mono ?_
          rintro e w11 ⟨A11, c11, rfl, hT11, hz⟩
          have hb11 := hb10.trans (hz.mono hb10.size)
          have hT10' := (hT10.below hz).more hz.size
          clear hz hb10 hT10
          go_wp2_with fail
          refine (over_c B10 A11 b a d10 c11 w11 hT10' hT11 (Nat.le_trans (Nat.mul_le_mul (show a.length ≤ 30 by omega) (show b.length + 1 ≤ 31 by omega)) (by decide)) HSB.out HSA.out hc10 hm10 HSum.out.rba HSum.out.lba).mono ?_
          rintro e w12 ⟨A12, c12, rfl, hT12, hz, _, _⟩
          have hb12 := hb11.trans (hz.mono hb11.size)
          clear hz hb11 hT10' hT11
          go_wp2_with fail
          refine (total_c A12 _ c12 w12 hT12 HSum.out.sba).mono ?_
          rintro e w13 ⟨rfl, hz⟩
          have hb13 := hb12.trans (hz.mono hb12.size)
          clear hz hb12 hT12
          go_wp2_with fail
          refine (table_c A a ca w13 (by omega) ((hA.below hb13).more hb13.size)).mono ?_
          rintro e w14 ⟨A14, c14, rfl, hT14, hz⟩
          have hb14 := hb13.trans (hz.mono hb13.size)
          clear hz hb13
          go_wp2_with fail
          refine (total_c A14 a c14 w14 hT14 HSA.out).mono ?_
          rintro e w15 ⟨rfl, hz⟩
          have hb15 := hb14.trans (hz.mono hb14.size)
          clear hz hb14 hT14
          go_wp2_with fail
          refine (table_c B b cb w15 (by omega) ((hB.below hb15).more hb15.size)).mono ?_
          rintro e w16 ⟨A16, c16, rfl, hT16, hz⟩
          have hb16 := hb15.trans (hz.mono hb15.size)
          clear hz hb15
          go_wp2_with fail
          refine (total_c A16 b c16 w16 hT16 HSB.out).mono ?_
          rintro e w17 ⟨rfl, hz⟩
          have hb17 := hb16.trans (hz.mono hb16.size)
          clear hz hb16 hT16
          obtain ⟨_, _, _, _, _, _, heq, hge1, hge2, hle, ⟨hp1, hp2⟩, ⟨hp3, hp4⟩⟩ := HSum.out
          clear HSum
          generalize totF (joinF (layF a b)) = x at *
          generalize totF (joinF (layF b a)) = y at *
          generalize totF a = n at *
          generalize totF b = m at *
          have hq : (x == y) = true := by simp; omega
          have hw : IntKind.i64.wrap (n + m) = n + m := by rw [IntKind.wrap_i64]; omega
          clear heq
          go_wp2
          all_goals
            go_ret
            exact ⟨rfl, hb17⟩
end Go.Proofs.Ytgmcpmhpafcihaa
