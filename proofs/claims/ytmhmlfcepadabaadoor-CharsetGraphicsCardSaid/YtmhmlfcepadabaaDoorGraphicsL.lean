/- CharsetGraphics, walked. -/
import Derived.Test.YtmhmlfcepadabaaDoorChE
import Derived.Test.YtmhmlfcepadabaaDoorBitsR
import Derived.Deep.DeepCutAuto
namespace Go.Proofs.YtmhmlfcepadabaaDoor
open Go Go.RowKit
set_option linter.unusedVariables false
set_option linter.unusedSimpArgs false

theorem graph_once : ((List.range 31).all fun i => (List.range 31).all fun j => i == j || !(graphL[i + 1]? == graphL[j + 1]?)) = true := by kernel_rfl
theorem graphic_inj {a b : Int} (h1 : 96 ≤ a) (h2 : a ≤ 126) (h3 : 96 ≤ b) (h4 : b ≤ 126) (h : graphicF a = graphicF b) : a = b := by
  obtain ⟨i, rfl⟩ : ∃ i : Nat, a = 96 + (i : Int) := ⟨(a - 96).toNat, by omega⟩
  obtain ⟨j, rfl⟩ : ∃ j : Nat, b = 96 + (j : Int) := ⟨(b - 96).toNat, by omega⟩
  have ho := List.all_eq_true.1 (List.all_eq_true.1 graph_once i (by simp; omega)) j (by simp; omega)
  unfold graphicF at h
  rw [if_pos (by omega), if_pos (by omega), show (96 + (i : Int) - 95).toNat = i + 1 by omega, show (96 + (j : Int) - 95).toNat = j + 1 by omega] at h
  have hi : i + 1 < graphL.length := by rw [graphL_length]; omega
  have hj : j + 1 < graphL.length := by rw [graphL_length]; omega
  rw [List.getElem?_eq_getElem hi, List.getElem?_eq_getElem hj] at h ho
  simp at h ho
  omega
theorem map_same {k f r : Int} (hk : k = 1 ∨ k = 3) : mapF (setF newS k f) r = mapF newS r := by
  by_cases hf : setB f = true
  · have h1 : saneB newS = true := by kernel_rfl
    have e : setF newS k f = setG newS k f := by
      rcases hk with rfl | rfl <;> simp [setF, h1, hf, placeB]
    have hf' : f = 66 ∨ f = 48 ∨ f = 65 := by simpa [setB] using hf
    have h2 : saneB (setG newS k f) = true := by
      rcases hk with rfl | rfl <;> simp [saneB, setG, newS, hf', placeB, setB]
    rw [e]
    unfold mapF
    rw [h1, h2, if_pos rfl, if_pos rfl]
    unfold standsF
    rcases hk with rfl | rfl <;> simp [setG, newS, leftF, getG]
  · have e : setF newS k f = newS := by simp [setF, hf]
    rw [e]
theorem uk_apart {a b : Int} (hab : a ≠ b) (h : a + b ≠ 198 ∨ (a ≠ 35 ∧ b ≠ 35)) : ukF a ≠ ukF b := by
  unfold ukF
  split <;> split <;> omega

set_option maxRecDepth 100000 in
set_option maxHeartbeats 4000000 in
theorem graphics_law (a b n f r : Int) (ha : -9223372036854775808 ≤ a ∧ a ≤ 9223372036854775807) (hb : -9223372036854775808 ≤ b ∧ b ≤ 9223372036854775807) (w : World) (hG : Gr w) :
    Calls Tryd.prog 5 #[.int .i64 a, .int .i64 b, .int .i64 n, .int .u8 f, .int .i64 r] w fun e w' => e = .returned (.bool true) ∧ Below w.heap.size w w' := by
  have hg := hG.size
  have hand : bits .and .i64 n 1 = n % 2 := and_low n 1 (by decide)
  have hmod : n % 2 = 0 ∨ n % 2 = 1 := by omega
  generalize n % 2 = m at hand hmod
  go_enter Tryd.func5, Tryd.ntmps5
  go_wp2_with fail
  refine (awake_c w hG).mono ?_
  rintro e w1 ⟨rfl, hb1⟩
  have hG1 := hG.below hb1 hg
  have hx := graphic_c a w1 hG1
  have hy := graphic_c b w1 hG1
  clear hG1
  go_wp2_with fail
  refine hx.mono ?_
  rintro e w2 ⟨rfl, rfl⟩
  go_wp2_with fail
  refine hy.mono ?_
  rintro e w2 ⟨rfl, rfl⟩
  clear hx hy
  go_upto_region 4 with fail
  go_cut [48] (fun s wx => s = .bool false ∧ wx = w2)
  case first =>
    by_cases c1 : graphicF a = graphicF b
    · have e1 : (graphicF a == graphicF b) = true := by simp [c1]
      by_cases c2 : a = b
      · have e2 : (a == b) = true := by simp [c2]
        have e3 : (a != b) = false := by simp [c2]
        clear c1 c2
        go_wp2_with fail
        go_meet
        exact ⟨rfl, rfl⟩
      · have e2 : (a == b) = false := by simp [c2]
        have e3 : (a != b) = true := by simp [c2]
        by_cases c3 : a ≥ 96
        · by_cases c4 : a ≤ 126
          · by_cases c5 : b ≥ 96
            · by_cases c6 : b ≤ 126
              · exact absurd (graphic_inj c3 c4 c5 c6 c1) c2
              · clear c1 c2
                go_wp2_with fail
                go_meet
                exact ⟨rfl, rfl⟩
            · clear c1 c2
              go_wp2_with fail
              go_meet
              exact ⟨rfl, rfl⟩
          · clear c1 c2
            go_wp2_with fail
            go_meet
            exact ⟨rfl, rfl⟩
        · clear c1 c2
          go_wp2_with fail
          go_meet
          exact ⟨rfl, rfl⟩
    · have e1 : (graphicF a == graphicF b) = false := by simp [c1]
      clear c1
      go_wp2_with fail
      go_meet
      exact ⟨rfl, rfl⟩
  case rest =>
    obtain ⟨rfl, rfl⟩ := hcut
    go_wp2_with fail
    refine (new_c _).mono ?_
    rintro e w2 ⟨rfl, hb2⟩
    rw [newS_eq]
    have hbel2 := hb1.trans (hb2.mono hb1.size)
    have hX : Box (w2.alloc (.cells #[.int .u8 66, .int .u8 66, .int .u8 66, .int .u8 66, .int .i64 0, .int .i64 2, .int .i64 0] 26)) w2.heap.size 26 newS.cells := Box.new w2 26 newS.cells
    have hbel3 := hbel2.alloc hbel2.size (.cells #[.int .u8 66, .int .u8 66, .int .u8 66, .int .u8 66, .int .i64 0, .int .i64 2, .int .i64 0] 26)
    clear hb1 hb2 hbel2
    go_upto_if 54 with fail
    generalize w2.alloc (.cells #[.int .u8 66, .int .u8 66, .int .u8 66, .int .u8 66, .int .i64 0, .int .i64 2, .int .i64 0] 26) = W at *
    generalize w2.heap.size = g at *
    go_cut [15] (fun s wx => ∃ k : Int, s = .int .i64 k ∧ (k = 1 ∨ k = 3) ∧ wx = W)
    case first =>
      rcases hmod with rfl | rfl
      · go_wp2_with fail
        go_meet
        exact ⟨1, rfl, .inl rfl, rfl⟩
      · go_wp2_with fail
        go_meet
        exact ⟨3, rfl, .inr rfl, rfl⟩
    case rest =>
      obtain ⟨k, rfl, hk, rfl⟩ := hcut
      have hM := map_same (f := f) (r := r) hk
      have HK := Lib.hid (And.intro hk hM)
      clear hk hM hand hmod
      obtain ⟨a0, a1, a2, a3, a4, a5, a6⟩ := hX.seven
      unfold newS at a0 a1 a2 a3 a4 a5 a6
      dsimp only at a0 a1 a2 a3 a4 a5 a6
      go_wp2_with fail
      refine (set_c newS k f _).mono ?_
      rintro e w3 ⟨rfl, hb3⟩
      have hbel4 := hbel3.trans (hb3.mono hbel3.size)
      have hX3 : Box w3 g 26 newS.cells := hX.below hb3 hX.lt
      have hM := map_c (setF newS k f) r w3 (hG.below hbel4 hg)
      rw [HK.out.2, St.v_eq (mapS (setF newS k f) r)] at hM
      rw [St.v_eq (setF newS k f)] at hM ⊢
      generalize mapS (setF newS k f) r = t at hM
      generalize setF newS k f = u at hM
      clear a0 a1 a2 a3 a4 a5 a6 hX hb3 hbel3 HK
      go_wp2_with fail
      refine hM.mono ?_
      rintro e w4 ⟨rfl, hb4⟩
      have hbel5 := hbel4.trans (hb4.mono hbel4.size)
      have hX4 : Box w4 g 26 newS.cells := hX3.below hb4 hX3.lt
      have hX5 := hX4.alloc (.cells #[.int .u8 t.a, .int .u8 t.b, .int .u8 t.c, .int .u8 t.d, .int .i64 t.gl, .int .i64 t.gr, .int .i64 t.on] 26)
      have hbel6 := hbel5.alloc hbel5.size (.cells #[.int .u8 t.a, .int .u8 t.b, .int .u8 t.c, .int .u8 t.d, .int .i64 t.gl, .int .i64 t.gr, .int .i64 t.on] 26)
      have hM2 := map_c newS r _ (hG.below hbel6 hg)
      rw [St.v_eq (mapS newS r)] at hM2
      generalize mapS newS r = t2 at hM2
      generalize mapF newS r = q at hM2
      obtain ⟨a0, a1, a2, a3, a4, a5, a6⟩ := hX5.seven
      unfold newS at a0 a1 a2 a3 a4 a5 a6
      dsimp only at a0 a1 a2 a3 a4 a5 a6
      clear hX3 hX4 hX5 hbel5 hb4 hbel4 hM
      go_wp2_with fail
      refine hM2.mono ?_
      rintro e w5 ⟨rfl, hb5⟩
      have hbel7 := hbel6.trans (hb5.mono hbel6.size)
      have hbel8 := hbel7.alloc hbel7.size (.cells #[.int .u8 t2.a, .int .u8 t2.b, .int .u8 t2.c, .int .u8 t2.d, .int .i64 t2.gl, .int .i64 t2.gr, .int .i64 t2.on] 26)
      clear hM2 hbel6 hb5 hbel7
      go_wp2_with fail
      refine (uk_c a _).mono ?_
      rintro e w6 ⟨rfl, rfl⟩
      go_wp2_with fail
      refine (uk_c b _).mono ?_
      rintro e w6 ⟨rfl, rfl⟩
      by_cases c2 : a = b
      · have e2 : (a == b) = true := by simp [c2]
        have e4 : (ukF a == ukF b) = true := by simp [c2]
        clear c2
        go_wp2_with fail
        go_ret
        exact ⟨by simp [e4], hbel8⟩
      · have e2 : (a == b) = false := by simp [c2]
        by_cases cA : a = 35 ∧ b = 163
        · obtain ⟨rfl, rfl⟩ := cA
          go_wp2_with fail
          go_ret
          exact ⟨by simp [ukF], hbel8⟩
        · by_cases cB : a = 163 ∧ b = 35
          · obtain ⟨rfl, rfl⟩ := cB
            go_wp2_with fail
            go_ret
            exact ⟨by simp [ukF], hbel8⟩
          · have hne : ukF a ≠ ukF b := uk_apart c2 (by omega)
            have e4 : (ukF a == ukF b) = false := by simp [hne]
            by_cases c3 : wrap64 (a + b) = 198
            · have e3 : (wrap64 (a + b) == 198) = true := by simp [c3]
              have h35 : a ≠ 35 ∧ b ≠ 35 := by unfold wrap64 at c3; omega
              have e5 : (a == 35) = false := by simp [h35.1]
              have e6 : (b == 35) = false := by simp [h35.2]
              clear c2 cA cB hne h35
              go_wp2_with fail
              go_ret
              exact ⟨by simp [e4], hbel8⟩
            · have e3 : (wrap64 (a + b) == 198) = false := by simp [c3]
              clear c2 cA cB hne
              go_wp2_with fail
              go_ret
              exact ⟨by simp [e4], hbel8⟩
end Go.Proofs.YtmhmlfcepadabaaDoor
