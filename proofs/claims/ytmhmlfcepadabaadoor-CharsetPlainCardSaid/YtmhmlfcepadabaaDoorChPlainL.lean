/- CharsetPlain, walked. Written by wip/tools/chplain.py. -/
import Derived.Test.YtmhmlfcepadabaaDoorChE
namespace Go.Proofs.YtmhmlfcepadabaaDoor
open Go Go.RowKit
set_option linter.unusedVariables false
set_option linter.unusedSimpArgs false

theorem newS_id (r : Int) : mapF newS r = r := by
  have h1 : saneB newS = true := by kernel_rfl
  unfold mapF
  rw [h1, if_pos rfl]
  simp [standsF, newS, leftF, getG, ofF]
theorem map_other (s : St) {r : Int} (h : ¬ ((32 ≤ r ∧ r ≤ 127) ∨ (160 ≤ r ∧ r ≤ 255))) : mapF s r = r := by
  unfold mapF standsF
  split
  · rw [if_neg (fun k => h (.inl k)), if_neg (fun k => h (.inr k))]
  · rfl
theorem graphic_other {r : Int} (h : ¬ (95 ≤ r ∧ r ≤ 126)) : graphicF r = r := by unfold graphicF; rw [if_neg h]
theorem uk_other {r : Int} (h : r ≠ 35) : ukF r = r := by unfold ukF; rw [if_neg h]

set_option maxRecDepth 100000 in
set_option maxHeartbeats 4000000 in
theorem plain_law (s : St) (r : Int) (w : World) (hG : Gr w) : Calls Tryd.prog 4 #[s.v, .int .i64 r] w fun e w' => e = .returned (.bool true) ∧ Below w.heap.size w w' := by
  have hg := hG.size
  have hO := ours_c s
  rw [St.v_eq s] at hO ⊢
  have hY := map_other s (r := r)
  have hMs := fun V hV => map_c s r V hV
  have hMn := fun V hV => map_c newS r V hV
  rw [newS_id r, St.v_eq (mapS newS r)] at hMn
  rw [St.v_eq s, St.v_eq (mapS s r)] at hMs
  generalize mapF s r = y at hY hMs
  generalize mapS s r = t1 at hMs
  generalize mapS newS r = t2 at hMn
  have HY := Lib.hid hY
  clear hY
  have hbel0 := (Below.refl w.heap.size w).alloc (Nat.le_refl _) (.cells #[.int .u8 s.a, .int .u8 s.b, .int .u8 s.c, .int .u8 s.d, .int .i64 s.gl, .int .i64 s.gr, .int .i64 s.on] 24)
  have hA0 : Box (w.alloc (.cells #[.int .u8 s.a, .int .u8 s.b, .int .u8 s.c, .int .u8 s.d, .int .i64 s.gl, .int .i64 s.gr, .int .i64 s.on] 24)) w.heap.size 24 s.cells := Box.new w _ _
  have haw := awake_c _ (hG.below hbel0 hg)
  go_enter Tryd.func4, Tryd.ntmps4
  go_wp2_with fail
  refine haw.mono ?_
  rintro e w1 ⟨rfl, hb1⟩
  have hbel1 := hbel0.trans (hb1.mono hbel0.size)
  have hA1 := hA0.below hb1 hA0.lt
  obtain ⟨a0, a1, a2, a3, a4, a5, a6⟩ := hA1.seven
  clear haw hb1 hbel0 hA0
  go_wp2_with fail
  clear a0 a1 a2 a3 a4 a5 a6
  refine (hO _).mono ?_
  rintro e w2 ⟨rfl, hb2⟩
  have hbel2 := hbel1.trans (hb2.mono hbel1.size)
  have hX2 : Box (w2.alloc (.cells #[.int .u8 s.a, .int .u8 s.b, .int .u8 s.c, .int .u8 s.d, .int .i64 s.gl, .int .i64 s.gr, .int .i64 s.on] 26)) w2.heap.size 26 s.cells := Box.new w2 _ _
  have hbel3 := hbel2.alloc hbel2.size (.cells #[.int .u8 s.a, .int .u8 s.b, .int .u8 s.c, .int .u8 s.d, .int .i64 s.gl, .int .i64 s.gr, .int .i64 s.on] 26)
  clear hO hb2 hbel1 hA1 hbel2
  go_wp2_with fail
  refine (new_c _).mono ?_
  rintro e w3 ⟨rfl, hb3⟩
  have hbel4 := hbel3.trans (hb3.mono hbel3.size)
  have hX3 := hX2.below hb3 hX2.lt
  have hM1 := hMn _ (hG.below hbel4 hg)
  clear hb3 hX2 hbel3 hMn
  go_wp2_with fail
  refine hM1.mono ?_
  rintro e w4 ⟨rfl, hb4⟩
  have hbel5 := hbel4.trans (hb4.mono hbel4.size)
  have hX4 := hX3.below hb4 hX3.lt
  have hbel6 := hbel5.alloc hbel5.size (.cells #[.int .u8 t2.a, .int .u8 t2.b, .int .u8 t2.c, .int .u8 t2.d, .int .i64 t2.gl, .int .i64 t2.gr, .int .i64 t2.on] 26)
  have hX5 := hX4.alloc (.cells #[.int .u8 t2.a, .int .u8 t2.b, .int .u8 t2.c, .int .u8 t2.d, .int .i64 t2.gl, .int .i64 t2.gr, .int .i64 t2.on] 26)
  have hM2 := hMs _ (hG.below hbel6 hg)
  obtain ⟨a0, a1, a2, a3, a4, a5, a6⟩ := hX5.seven
  clear hM1 hb4 hbel4 hX3 hX4 hX5 hbel5 hMs
  go_wp2_with fail
  clear a0 a1 a2 a3 a4 a5 a6
  refine hM2.mono ?_
  rintro e w5 ⟨rfl, hb5⟩
  have hbel7 := hbel6.trans (hb5.mono hbel6.size)
  have hbel8 := hbel7.alloc hbel7.size (.cells #[.int .u8 t1.a, .int .u8 t1.b, .int .u8 t1.c, .int .u8 t1.d, .int .i64 t1.gl, .int .i64 t1.gr, .int .i64 t1.on] 26)
  have hGr := graphic_c r _ (hG.below hbel8 hg)
  have hUk := uk_c r (w5.alloc (.cells #[.int .u8 t1.a, .int .u8 t1.b, .int .u8 t1.c, .int .u8 t1.d, .int .i64 t1.gl, .int .i64 t1.gr, .int .i64 t1.on] 26))
  have HGU := Lib.hid (And.intro hGr hUk)
  clear hGr hUk hM2 hb5 hbel6 hbel7 hG
  by_cases c32 : r ≥ 32
  · by_cases c127 : r ≤ 127
    · by_cases c95 : r ≥ 95
      · by_cases c126 : r ≤ 126
        · have q35 : r ≠ 35 := by omega
          have e35 : (r == 35) = false := beq_eq_false_iff_ne.2 q35
          have HG := HGU.out
          rw [uk_other (r := r) (by omega)] at HG
          clear HY HGU
          go_wp2_with fail
          refine HG.2.mono ?_
          rintro e w7 ⟨rfl, rfl⟩
          go_wp2_with fail
          go_ret
          exact ⟨by simp, hbel8⟩
        · have q35 : r ≠ 35 := by omega
          have e35 : (r == 35) = false := beq_eq_false_iff_ne.2 q35
          have HG := HGU.out
          rw [graphic_other (r := r) (by omega)] at HG
          rw [uk_other (r := r) (by omega)] at HG
          clear HY HGU
          go_wp2_with fail
          refine HG.1.mono ?_
          rintro e w6 ⟨rfl, rfl⟩
          go_wp2_with fail
          refine HG.2.mono ?_
          rintro e w7 ⟨rfl, rfl⟩
          go_wp2_with fail
          go_ret
          exact ⟨by simp, hbel8⟩
      · by_cases h35 : r = 35
        · subst h35
          have HG := HGU.out
          rw [graphic_other (r := 35) (by omega)] at HG
          clear HY HGU
          go_wp2_with fail
          refine HG.1.mono ?_
          rintro e w6 ⟨rfl, rfl⟩
          go_wp2_with fail
          go_ret
          exact ⟨by simp, hbel8⟩
        · have q35 : r ≠ 35 := by omega
          have e35 : (r == 35) = false := beq_eq_false_iff_ne.2 q35
          have HG := HGU.out
          rw [graphic_other (r := r) (by omega)] at HG
          rw [uk_other (r := r) (by omega)] at HG
          clear HY HGU
          go_wp2_with fail
          refine HG.1.mono ?_
          rintro e w6 ⟨rfl, rfl⟩
          go_wp2_with fail
          refine HG.2.mono ?_
          rintro e w7 ⟨rfl, rfl⟩
          go_wp2_with fail
          go_ret
          exact ⟨by simp, hbel8⟩
    · have c95 : r ≥ 95 := by omega
      have c126 : ¬ r ≤ 126 := by omega
      by_cases c160 : r ≥ 160
      · by_cases c255 : r ≤ 255
        · have q35 : r ≠ 35 := by omega
          have e35 : (r == 35) = false := beq_eq_false_iff_ne.2 q35
          have HG := HGU.out
          rw [graphic_other (r := r) (by omega)] at HG
          rw [uk_other (r := r) (by omega)] at HG
          clear HY HGU
          go_wp2_with fail
          refine HG.1.mono ?_
          rintro e w6 ⟨rfl, rfl⟩
          go_wp2_with fail
          refine HG.2.mono ?_
          rintro e w7 ⟨rfl, rfl⟩
          go_wp2_with fail
          go_ret
          exact ⟨by simp, hbel8⟩
        · have q35 : r ≠ 35 := by omega
          have e35 : (r == 35) = false := beq_eq_false_iff_ne.2 q35
          have HG := HGU.out
          rw [graphic_other (r := r) (by omega)] at HG
          rw [uk_other (r := r) (by omega)] at HG
          obtain rfl := HY.out (by omega)
          clear HY HGU
          go_wp2_with fail
          refine HG.1.mono ?_
          rintro e w6 ⟨rfl, rfl⟩
          go_wp2_with fail
          refine HG.2.mono ?_
          rintro e w7 ⟨rfl, rfl⟩
          go_wp2_with fail
          go_ret
          exact ⟨by simp, hbel8⟩
      · have q35 : r ≠ 35 := by omega
        have e35 : (r == 35) = false := beq_eq_false_iff_ne.2 q35
        have HG := HGU.out
        rw [graphic_other (r := r) (by omega)] at HG
        rw [uk_other (r := r) (by omega)] at HG
        obtain rfl := HY.out (by omega)
        clear HY HGU
        go_wp2_with fail
        refine HG.1.mono ?_
        rintro e w6 ⟨rfl, rfl⟩
        go_wp2_with fail
        refine HG.2.mono ?_
        rintro e w7 ⟨rfl, rfl⟩
        go_wp2_with fail
        go_ret
        exact ⟨by simp, hbel8⟩
  · have c160 : ¬ r ≥ 160 := by omega
    have c95 : ¬ r ≥ 95 := by omega
    have q35 : r ≠ 35 := by omega
    have e35 : (r == 35) = false := beq_eq_false_iff_ne.2 q35
    have HG := HGU.out
    rw [graphic_other (r := r) (by omega)] at HG
    rw [uk_other (r := r) (by omega)] at HG
    obtain rfl := HY.out (by omega)
    clear HY HGU
    go_wp2_with fail
    refine HG.1.mono ?_
    rintro e w6 ⟨rfl, rfl⟩
    go_wp2_with fail
    refine HG.2.mono ?_
    rintro e w7 ⟨rfl, rfl⟩
    go_wp2_with fail
    go_ret
    exact ⟨by simp, hbel8⟩
end Go.Proofs.YtmhmlfcepadabaaDoor
