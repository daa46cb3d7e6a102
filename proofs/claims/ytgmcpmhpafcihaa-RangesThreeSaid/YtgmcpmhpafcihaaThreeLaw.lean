/- Over what lies over another one: whichever two are laid first, it is the same. -/
import Derived.Test.YtgmcpmhpafcihaaWalk01d
import Derived.Test.YtgmcpmhpafcihaaWalk01f
import Derived.Test.YtgmcpmhpafcihaaMath01d
import Derived.Deep.DeepCutAuto
namespace Go.Proofs.Ytgmcpmhpafcihaa
open Go Go.RowKit
set_option linter.unusedVariables false
set_option linter.unusedSimpArgs false

/-- A store into a variable that holds a slice turns no row of a table. -/
theorem Tab.put {w : World} {B G : Nat} {t : TypeId} {A P : Option Addr} {n c : Nat} {l : List R3} (h : Tab w B A l) (hG : Box w G t #[.slice P n c]) (u : Value) : Tab (w.setCell ⟨G, 0, none⟩ u) B A l := fun hl => by
  obtain ⟨b, o, e, hB, hc⟩ := h hl
  have hne : b ≠ G := by
    rintro rfl
    obtain ⟨x, t', rfl⟩ := List.exists_cons_of_ne_nil hl
    have h1 := (hc 0 x rfl).1
    rw [hG.cell] at h1
    cases hq : o + 0 * 3 with
    | zero => rw [hq] at h1; simp at h1
    | succ q => rw [hq] at h1; simp at h1
  have keep : ∀ i, (w.setCell ⟨G, 0, none⟩ u).cell? ⟨b, i, none⟩ = w.cell? ⟨b, i, none⟩ := fun i => World.cell?_setCell_other w _ _ u (fun e => hne (by injection e with e1; exact e1.symm))
  exact ⟨b, o, e, hB, fun k x hx => ⟨(keep _).trans (hc k x hx).1, (keep _).trans (hc k x hx).2.1, (keep _).trans (hc k x hx).2.2⟩⟩

def mkF (l : List R3) : List R3 := if riseF (-1) l = true then joinF l else []
def erF (l : List R3) : Int := if riseF (-1) l = true then 0 else 1
theorem make_any (A : Option Addr) (l : List R3) (c : Nat) (w : World) (hn : l.length ≤ 4096) (h : Tab w w.heap.size A l) :
    Calls Try.prog 9 #[.slice A l.length c] w fun e w' => ∃ A' c', e = .returned (.tuple #[.agg #[.slice A' (mkF l).length c'], .int .i64 (erF l)]) ∧ Tab w' w'.heap.size A' (mkF l) ∧ Below w.heap.size w w' ∧ (mkF l).length ≤ c' ∧ c' ≤ maxLen := by
  cases hr : riseF (-1) l with
  | false =>
    refine (make_bad A l c w (by omega) h hr).mono fun e w' ⟨h1, h2⟩ => ⟨none, 0, ?_, ?_, h2, ?_, ?_⟩
    · rw [h1]; simp [mkF, erF, hr]
    · simp [mkF, hr]; exact Tab.nil
    · simp [mkF, hr]
    · simp [maxLen]
  | true =>
    have hj := (joined hr).len
    refine (make_new A l c w (by omega) h hr (by omega)).mono fun e w' ⟨A', c', h1, h2, h3, _, h4, h5⟩ => ⟨A', c', ?_, ?_, h3, ?_, h5⟩
    · rw [h1]; simp [mkF, erF, hr]
    · simp [mkF, hr]; exact h2
    · simp [mkF, hr]; exact h4

def ov (a b : List R3) : List R3 := joinF (layF a b)
structure OvOk (a b : List R3) : Prop where
  rise : riseF (-1) (layF a b) = true
  len : (joinF (layF a b)).length ≤ a.length + 2 * b.length + 1
  sane : a.length + 2 * b.length + 1 ≤ 4096 → saneF (joinF (layF a b)) = true
  get : ∀ r, getF (joinF (layF a b)) r = if getF b r = 0 then getF a r else getF b r
theorem ovOk {a b : List R3} (ha : saneF a = true) (hb : saneF b = true) : OvOk a b := by
  obtain ⟨_, ra, _⟩ := sane_parts ha
  obtain ⟨_, rb, _⟩ := sane_parts hb
  have l1 := lay_len ra rb
  have k1 := (lay_ok ra rb).1
  have j1 := (joined k1).len
  exact ⟨k1, by omega, fun h => join_sane k1 (by omega), join_lay_get ra rb⟩
structure Three (x y z : List R3) : Prop where
  sx : saneF x = true
  sy : saneF y = true
  sz : saneF z = true
  lx : x.length ≤ 30
  ly : y.length ≤ 30
  lz : z.length ≤ 30
  xy : OvOk x y
  yz : OvOk y z
  sxy : saneF (ov x y) = true
  syz : saneF (ov y z) = true
  lxy : (ov x y).length ≤ 91
  lyz : (ov y z).length ≤ 91
  xyz : OvOk (ov x y) z
  xyz' : OvOk x (ov y z)
  same : ov (ov x y) z = ov x (ov y z)
  llast : (ov (ov x y) z).length ≤ 4096
  llast' : (ov x (ov y z)).length ≤ 4096
  xx : OvOk x x
  again : ov x x = x
theorem three {x y z : List R3} (hx : saneF x = true) (hy : saneF y = true) (hz : saneF z = true) (h1 : x.length ≤ 30) (h2 : y.length ≤ 30) (h3 : z.length ≤ 30) : Three x y z := by
  have xy := ovOk hx hy
  have yz := ovOk hy hz
  have xx := ovOk hx hx
  have sxy : saneF (ov x y) = true := xy.sane (by omega)
  have syz : saneF (ov y z) = true := yz.sane (by omega)
  have lxy : (ov x y).length ≤ 91 := by have := xy.len; unfold ov; omega
  have lyz : (ov y z).length ≤ 91 := by have := yz.len; unfold ov; omega
  have a1 := ovOk sxy hz
  have a2 := ovOk hx syz
  have s1 : saneF (ov (ov x y) z) = true := a1.sane (by omega)
  have s2 : saneF (ov x (ov y z)) = true := a2.sane (by omega)
  have l1 : (ov (ov x y) z).length ≤ 4096 := by have := a1.len; unfold ov at *; omega
  have l2 : (ov x (ov y z)).length ≤ 4096 := by have := a2.len; unfold ov at *; omega
  refine ⟨hx, hy, hz, h1, h2, h3, xy, yz, sxy, syz, lxy, lyz, a1, a2, canon s1 s2 fun r => ?_, l1, l2, xx, canon (xx.sane (by omega)) hx fun r => ?_⟩
  · show getF (joinF (layF (ov x y) z)) r = getF (joinF (layF x (ov y z))) r
    rw [a1.get, a2.get]
    show (if getF z r = 0 then getF (joinF (layF x y)) r else getF z r) = if getF (joinF (layF y z)) r = 0 then getF x r else getF (joinF (layF y z)) r
    rw [xy.get, yz.get]
    by_cases hq : getF z r = 0
    · simp only [hq, if_pos]
    · simp only [if_neg hq]
  · show getF (joinF (layF x x)) r = getF x r
    rw [xx.get]
    split <;> rfl

theorem mk_sane {l : List R3} (hr : riseF (-1) l = true) (hn : l.length ≤ 30) : saneF (mkF l) = true ∧ (mkF l).length ≤ 30 := by
  have := (joined hr).len
  unfold mkF
  rw [if_pos hr]
  exact ⟨join_sane hr (by omega), by omega⟩

set_option maxRecDepth 100000 in
set_option maxHeartbeats 4000000 in
theorem three_c (A B C : Option Addr) (a b c : List R3) (ca cb cc : Nat) (w : World) (hna : a.length ≤ maxLen) (hnb : b.length ≤ maxLen) (hnc : c.length ≤ maxLen) (hA : Tab w w.heap.size A a) (hB : Tab w w.heap.size B b) (hC : Tab w w.heap.size C c) :
    Calls Try.prog 5 #[.slice A a.length ca, .slice B b.length cb, .slice C c.length cc] w fun e w' => e = .returned (.bool true) ∧ Below w.heap.size w w' := by
  unfold maxLen at hna hnb hnc
  by_cases h1 : 30 < a.length
  · have hd : decide ((30 : Int) < (a.length : Int)) = true := by simp; omega
    go_enter Try.func5, Try.ntmps5
    go_wp2_with fail
    refine (awake_c w).mono ?_
    rintro e w1 ⟨rfl, hb1⟩
    go_wp2
    go_ret
    exact ⟨rfl, hb1⟩
  · have hd : decide ((30 : Int) < (a.length : Int)) = false := by simp; omega
    by_cases h2 : 30 < b.length
    · have hd2 : decide ((30 : Int) < (b.length : Int)) = true := by simp; omega
      go_enter Try.func5, Try.ntmps5
      go_wp2_with fail
      refine (awake_c w).mono ?_
      rintro e w1 ⟨rfl, hb1⟩
      go_wp2
      go_ret
      exact ⟨rfl, hb1⟩
    · have hd2 : decide ((30 : Int) < (b.length : Int)) = false := by simp; omega
      by_cases h3 : 30 < c.length
      · have hd3 : decide ((30 : Int) < (c.length : Int)) = true := by simp; omega
        go_enter Try.func5, Try.ntmps5
        go_wp2_with fail
        refine (awake_c w).mono ?_
        rintro e w1 ⟨rfl, hb1⟩
        go_wp2
        go_ret
        exact ⟨rfl, hb1⟩
      · have hd3 : decide ((30 : Int) < (c.length : Int)) = false := by simp; omega
        go_enter Try.func5, Try.ntmps5
        go_wp2_with fail
        refine (awake_c w).mono ?_
        rintro e w1 ⟨rfl, hb1⟩
        go_wp2_with fail
        refine (ours_c A a ca w1 (by omega) ((hA.below hb1).more hb1.size)).mono ?_
        rintro e w2 ⟨A2, c2, rfl, hown, hz⟩
        have hT2 := Tab.of_own hown
        have hb2 := hb1.trans (hz.mono hb1.size)
        clear hz hown hb1
        go_wp2_with fail
        refine (make_any A2 a c2 w2 (by omega) hT2).mono ?_
        rintro e w3 ⟨A3, c3, rfl, hT3, hz, hc3, hm3⟩
        have hb3 := hb2.trans (hz.mono hb2.size)
        clear hz hb2 hT2
        go_wp2_with fail
        have hx8 := Box.new w3 27 #[.slice A3 (mkF a).length c3]
        have hb4 := hb3.alloc hb3.size (.cells #[.slice A3 (mkF a).length c3] 27)
        have hT34 := (hT3.below ((Below.refl w3.heap.size w3).alloc (Nat.le_refl _) (.cells #[.slice A3 (mkF a).length c3] 27))).more (show w3.heap.size ≤ (w3.alloc (.cells #[.slice A3 (mkF a).length c3] 27)).heap.size by simp)
        generalize w3.alloc (.cells #[.slice A3 (mkF a).length c3] 27) = w4 at *
        generalize w3.heap.size = g8 at *
        clear hb3 hT3
        refine (ours_c B b cb w4 (by omega) ((hB.below hb4).more hb4.size)).mono ?_
        rintro e w5 ⟨A5, c5, rfl, hown, hz⟩
        have hT5 := Tab.of_own hown
        have hb5 := hb4.trans (hz.mono hb4.size)
        replace hx8 := hx8.below hz hx8.lt
        have hT35 := (hT34.below hz).more hz.size
        clear hz hown hb4 hT34
        go_wp2_with fail
        refine (make_any A5 b c5 w5 (by omega) hT5).mono ?_
        rintro e w6 ⟨A6, c6, rfl, hT6, hz, hc6, hm6⟩
        have hb6 := hb5.trans (hz.mono hb5.size)
        replace hx8 := hx8.below hz hx8.lt
        have hT36 := (hT35.below hz).more hz.size
        clear hz hb5 hT5 hT35
        go_wp2_with fail
        have hx10 := Box.new w6 27 #[.slice A6 (mkF b).length c6]
        replace hx8 := hx8.alloc (.cells #[.slice A6 (mkF b).length c6] 27)
        have hb7 := hb6.alloc hb6.size (.cells #[.slice A6 (mkF b).length c6] 27)
        have hz := (Below.refl w6.heap.size w6).alloc (Nat.le_refl _) (.cells #[.slice A6 (mkF b).length c6] 27)
        have hT37 := (hT36.below hz).more hz.size
        have hT67 := (hT6.below hz).more hz.size
        clear hz
        generalize w6.alloc (.cells #[.slice A6 (mkF b).length c6] 27) = w7 at *
        generalize w6.heap.size = g10 at *
        clear hb6 hT6 hT36
        refine (ours_c C c cc w7 (by omega) ((hC.below hb7).more hb7.size)).mono ?_
        rintro e w8 ⟨A8, c8, rfl, hown, hz⟩
        have hT8 := Tab.of_own hown
        have hb8 := hb7.trans (hz.mono hb7.size)
        replace hx8 := hx8.below hz hx8.lt
        replace hx10 := hx10.below hz hx10.lt
        have hT38 := (hT37.below hz).more hz.size
        have hT68 := (hT67.below hz).more hz.size
        clear hz hown hb7 hT37 hT67
        go_wp2_with fail
        refine (make_any A8 c c8 w8 (by omega) hT8).mono ?_
        rintro e w9 ⟨A9, c9, rfl, hT9, hz, hc9, hm9⟩
        have hb9 := hb8.trans (hz.mono hb8.size)
        replace hx8 := hx8.below hz hx8.lt
        replace hx10 := hx10.below hz hx10.lt
        have hT39 := (hT38.below hz).more hz.size
        have hT69 := (hT68.below hz).more hz.size
        clear hz hb8 hT8 hT38 hT68
        go_upto_region 7 with fail
        have hx12 := Box.new w9 27 #[.slice A9 (mkF c).length c9]
        replace hx8 := hx8.alloc (.cells #[.slice A9 (mkF c).length c9] 27)
        replace hx10 := hx10.alloc (.cells #[.slice A9 (mkF c).length c9] 27)
        have hb10 := hb9.alloc hb9.size (.cells #[.slice A9 (mkF c).length c9] 27)
        have hz := (Below.refl w9.heap.size w9).alloc (Nat.le_refl _) (.cells #[.slice A9 (mkF c).length c9] 27)
        have hT3 := (hT39.below hz).more hz.size
        have hT6 := (hT69.below hz).more hz.size
        have hT9' := (hT9.below hz).more hz.size
        clear hz
        generalize w9.alloc (.cells #[.slice A9 (mkF c).length c9] 27) = W at *
        generalize w9.heap.size = g12 at *
        clear hb9 hT9 hT39 hT69
        cases hra : riseF (-1) a
        · have ea : erF a = 1 := by simp [erF, hra]
          rw [ea]
          clear ea hra
          go_wp2
          go_ret
          exact ⟨rfl, hb10⟩
        · have ea : erF a = 0 := by simp [erF, hra]
          rw [ea]
          clear ea
          cases hrb : riseF (-1) b
          · have eb : erF b = 1 := by simp [erF, hrb]
            rw [eb]
            clear eb hra hrb
            go_wp2
            go_ret
            exact ⟨rfl, hb10⟩
          · have eb : erF b = 0 := by simp [erF, hrb]
            rw [eb]
            clear eb
            cases hrc : riseF (-1) c
            · have ec : erF c = 1 := by simp [erF, hrc]
              rw [ec]
              clear ec hra hrb hrc
              go_wp2
              go_ret
              exact ⟨rfl, hb10⟩
            · have ec : erF c = 0 := by simp [erF, hrc]
              rw [ec]
              clear ec
              obtain ⟨sa, la⟩ := mk_sane hra (by omega)
              obtain ⟨sb, lb⟩ := mk_sane hrb (by omega)
              obtain ⟨sc, lc⟩ := mk_sane hrc (by omega)
              have H := three sa sb sc la lb lc
              clear sa sb sc la lb lc hra hrb hrc
              generalize mkF a = x at *
              generalize mkF b = y at *
              generalize mkF c = z at *
              go_upto_region 9 with fail
              go_cut [14] (fun s14 wx => ∃ g A' c', s14 = .pointer (some ⟨g, 0, none⟩) ∧ Box wx g 27 #[.slice A' (ov (ov x y) z).length c'] ∧ Tab wx wx.heap.size A' (ov (ov x y) z) ∧ Below W.heap.size W wx)
              case first =>
                have e8 := Ext.cell (B := W.heap.size) (w := W) (p := ⟨g8, 0, none⟩) hx8.lt (hx8.cell 0)
                have e10 := Ext.cell (B := W.heap.size) (w := W) (p := ⟨g10, 0, none⟩) hx10.lt (hx10.cell 0)
                have e12 := Ext.cell (B := W.heap.size) (w := W) (p := ⟨g12, 0, none⟩) hx12.lt (hx12.cell 0)
                refine region_float [([0, 1, 3], [])] 1 [2, 4] 5 [([], [6])] (fun w' => ∃ u : Ext W W.heap.size, w' = u.val) (by kernel_rfl) (by kernel_rfl) (fun _ _ _ _ _ h => h) ⟨⟨_, (Below.refl _ _).drew⟩, rfl⟩ ?_
                simp only [wpPlanK, sel, List.take_succ_cons, List.take_zero, List.drop_succ_cons, List.drop_zero, List.cons_append, List.nil_append]
                repeat (go_big_quiet_step (fail))
                refine wpQuiet_nil ?_
                simp only [wpChain, wpFloat, wpPlan, sel, List.take_succ_cons, List.take_zero, List.drop_succ_cons, List.drop_zero, List.cons_append, List.nil_append]
                have z0 : Below W.heap.size W W.drew := (Below.refl _ _).drew
                refine ⟨?_, ?_⟩
                · go_wp2_with fail
                  have hG := Box.new W 27 #[.slice none 0 0]
                  have z1 : Below W.heap.size W (W.alloc (.cells #[.slice none 0 0] 27)).drew := ((Below.refl _ _).alloc (Nat.le_refl _) _).drew
                  refine ⟨⟨⟨_, z1⟩, rfl⟩, ?_⟩
                  go_wp2_with fail
                  refine (over_c A3 A6 x y c3 c6 _ ((hT3.below z1).more z1.size) ((hT6.below z1).more z1.size) (Nat.le_trans (Nat.mul_le_mul H.ly (show x.length + 1 ≤ 31 by have := H.lx; omega)) (by decide)) H.sx H.sy hc3 hm3 H.xy.rise (by have := H.xy.len; have := H.lx; have := H.ly; omega)).mono ?_
                  rintro e v1 ⟨B1, d1, rfl, hV1, hz, hd1, hdm1⟩
                  have z2 := z1.trans (hz.mono z1.size)
                  have hG1 := hG.drew.below hz (by simp)
                  clear hz
                  go_wp2_with fail
                  refine ⟨⟨⟨_, z2⟩, rfl⟩, ?_⟩
                  go_wp2_with fail
                  refine (over_c B1 A9 (ov x y) z d1 c9 v1 hV1 ((hT9'.below z2).more z2.size) (Nat.le_trans (Nat.mul_le_mul H.lz (show (ov x y).length + 1 ≤ 92 by have := H.lxy; omega)) (by decide)) H.sxy H.sz hd1 hdm1 H.xyz.rise H.llast).mono ?_
                  rintro e v2 ⟨B2, d2, rfl, hV2, hz, hd2, hdm2⟩
                  have z3 := z2.trans (hz.mono z2.size)
                  have hG2 := hG1.below hz hG1.lt
                  clear hz hG hG1 hV1
                  go_wp2_with fail
                  refine ⟨⟨⟨_, z3⟩, rfl⟩, ?_⟩
                  refine wpQuiet_nil ?_
                  have hcell := hG2.cell 0
                  have hfree := hG2.free 0
                  have hTf : Tab (v2.setCell ⟨W.heap.size, 0, none⟩ (.slice B2 (ov (ov x y) z).length d2)) (v2.setCell ⟨W.heap.size, 0, none⟩ (.slice B2 (ov (ov x y) z).length d2)).heap.size B2 (ov (ov x y) z) := (Tab.put hV2 hG2 _).more (by simp [World.setCell])
                  have hGf := hG2.set_ 0 (.slice B2 (ov (ov x y) z).length d2)
                  have z4 := z3.setCell (p := ⟨W.heap.size, 0, none⟩) (Nat.le_refl _) (.slice B2 (ov (ov x y) z).length d2)
                  clear hG2 hV2
                  go_wp2_with fail
                  refine ⟨⟨⟨_, z4⟩, rfl⟩, ?_⟩
                  go_wp2_with fail
                  go_meet
                  exact ⟨_, B2, d2, rfl, hGf, hTf, z4⟩
                · go_wp2_with fail
                  refine (over_c A3 A6 x y c3 c6 _ ((hT3.below z0).more z0.size) ((hT6.below z0).more z0.size) (Nat.le_trans (Nat.mul_le_mul H.ly (show x.length + 1 ≤ 31 by have := H.lx; omega)) (by decide)) H.sx H.sy hc3 hm3 H.xy.rise (by have := H.xy.len; have := H.lx; have := H.ly; omega)).mono ?_
                  rintro e v1 ⟨B1, d1, rfl, hV1, hz, hd1, hdm1⟩
                  have z1 := z0.trans (hz.mono z0.size)
                  clear hz
                  go_wp2_with fail
                  refine ⟨⟨⟨_, z1⟩, rfl⟩, ?_⟩
                  refine ⟨?_, ?_⟩
                  · go_wp2_with fail
                    have hG := Box.new v1 27 #[.slice none 0 0]
                    have hz := (Below.refl v1.heap.size v1).alloc (Nat.le_refl _) (.cells #[.slice none 0 0] 27)
                    have z2 := z1.trans (hz.mono z1.size)
                    have hV1' := (hV1.below hz).more hz.size
                    clear hz
                    refine ⟨⟨⟨_, z2⟩, rfl⟩, ?_⟩
                    go_wp2_with fail
                    refine (over_c B1 A9 (ov x y) z d1 c9 _ hV1' ((hT9'.below z2).more z2.size) (Nat.le_trans (Nat.mul_le_mul H.lz (show (ov x y).length + 1 ≤ 92 by have := H.lxy; omega)) (by decide)) H.sxy H.sz hd1 hdm1 H.xyz.rise H.llast).mono ?_
                    rintro e v2 ⟨B2, d2, rfl, hV2, hz, hd2, hdm2⟩
                    have z3 := z2.trans (hz.mono z2.size)
                    have hG2 := hG.below hz hG.lt
                    clear hz hG hV1 hV1'
                    go_wp2_with fail
                    refine ⟨⟨⟨_, z3⟩, rfl⟩, ?_⟩
                    refine wpQuiet_nil ?_
                    have hcell := hG2.cell 0
                    have hfree := hG2.free 0
                    have hTf : Tab (v2.setCell ⟨v1.heap.size, 0, none⟩ (.slice B2 (ov (ov x y) z).length d2)) (v2.setCell ⟨v1.heap.size, 0, none⟩ (.slice B2 (ov (ov x y) z).length d2)).heap.size B2 (ov (ov x y) z) := (Tab.put hV2 hG2 _).more (by simp [World.setCell])
                    have hGf := hG2.set_ 0 (.slice B2 (ov (ov x y) z).length d2)
                    have z4 := z3.setCell (p := ⟨v1.heap.size, 0, none⟩) (z1.size) (.slice B2 (ov (ov x y) z).length d2)
                    clear hG2 hV2
                    go_wp2_with fail
                    refine ⟨⟨⟨_, z4⟩, rfl⟩, ?_⟩
                    go_wp2_with fail
                    go_meet
                    exact ⟨_, B2, d2, rfl, hGf, hTf, z4⟩
                  · go_wp2_with fail
                    refine (over_c B1 A9 (ov x y) z d1 c9 _ hV1 ((hT9'.below z1).more z1.size) (Nat.le_trans (Nat.mul_le_mul H.lz (show (ov x y).length + 1 ≤ 92 by have := H.lxy; omega)) (by decide)) H.sxy H.sz hd1 hdm1 H.xyz.rise H.llast).mono ?_
                    rintro e w2' ⟨B2, d2, rfl, hV2', hz, hd2, hdm2⟩
                    have z2 := z1.trans (hz.mono z1.size)
                    clear hz hV1
                    go_wp2_with fail
                    refine ⟨⟨⟨_, z2⟩, rfl⟩, ?_⟩
                    go_wp2_with fail
                    have hG2 := Box.new w2' 27 #[.slice none 0 0]
                    have hz := (Below.refl w2'.heap.size w2').alloc (Nat.le_refl _) (.cells #[.slice none 0 0] 27)
                    have z3 := z2.trans (hz.mono z2.size)
                    have hV2 := (hV2'.below hz).more hz.size
                    clear hz hV2'
                    refine ⟨⟨⟨_, z3⟩, rfl⟩, ?_⟩
                    refine wpQuiet_nil ?_
                    have hzz := z2.size
                    generalize w2'.alloc (.cells #[.slice none 0 0] 27) = v2 at *
                    generalize w2'.heap.size = gg at *
                    have hcell := hG2.cell 0
                    have hfree := hG2.free 0
                    have hTf : Tab (v2.setCell ⟨gg, 0, none⟩ (.slice B2 (ov (ov x y) z).length d2)) (v2.setCell ⟨gg, 0, none⟩ (.slice B2 (ov (ov x y) z).length d2)).heap.size B2 (ov (ov x y) z) := (Tab.put hV2 hG2 _).more (by simp [World.setCell])
                    have hGf := hG2.set_ 0 (.slice B2 (ov (ov x y) z).length d2)
                    have z4 := z3.setCell (p := ⟨gg, 0, none⟩) (hzz) (.slice B2 (ov (ov x y) z).length d2)
                    clear hG2 hV2
                    go_wp2_with fail
                    refine ⟨⟨⟨_, z4⟩, rfl⟩, ?_⟩
                    go_wp2_with fail
                    go_meet
                    exact ⟨_, B2, d2, rfl, hGf, hTf, z4⟩
              case rest =>
                obtain ⟨g14, A14, c14, rfl, hx14, hT14, hbx⟩ := hcut
                replace hx8 := hx8.below hbx hx8.lt
                replace hx10 := hx10.below hbx hx10.lt
                replace hx12 := hx12.below hbx hx12.lt
                replace hT3 := (hT3.below hbx).more hbx.size
                replace hT6 := (hT6.below hbx).more hbx.size
                replace hT9' := (hT9'.below hbx).more hbx.size
                replace hb10 := hb10.trans (hbx.mono hb10.size)
                clear hbx
                obtain ⟨X, rfl⟩ : ∃ X : World, X = wc := ⟨_, rfl⟩
                go_upto_region 10 with fail
                go_cut [15] (fun s15 wx => ∃ g A' c', s15 = .pointer (some ⟨g, 0, none⟩) ∧ Box wx g 27 #[.slice A' (ov x (ov y z)).length c'] ∧ Tab wx wx.heap.size A' (ov x (ov y z)) ∧ Below X.heap.size X wx)
                case first =>
                  have e8 := Ext.cell (B := X.heap.size) (w := X) (p := ⟨g8, 0, none⟩) hx8.lt (hx8.cell 0)
                  have e10 := Ext.cell (B := X.heap.size) (w := X) (p := ⟨g10, 0, none⟩) hx10.lt (hx10.cell 0)
                  have e12 := Ext.cell (B := X.heap.size) (w := X) (p := ⟨g12, 0, none⟩) hx12.lt (hx12.cell 0)
                  refine region_float [([0, 1, 2], [])] 1 [3, 4] 5 [([], [6])] (fun w' => ∃ u : Ext X X.heap.size, w' = u.val) (by kernel_rfl) (by kernel_rfl) (fun _ _ _ _ _ h => h) ⟨⟨_, (Below.refl _ _).drew⟩, rfl⟩ ?_
                  simp only [wpPlanK, sel, List.take_succ_cons, List.take_zero, List.drop_succ_cons, List.drop_zero, List.cons_append, List.nil_append]
                  repeat (go_big_quiet_step (fail))
                  refine wpQuiet_nil ?_
                  simp only [wpChain, wpFloat, wpPlan, sel, List.take_succ_cons, List.take_zero, List.drop_succ_cons, List.drop_zero, List.cons_append, List.nil_append]
                  have z0 : Below X.heap.size X X.drew := (Below.refl _ _).drew
                  refine ⟨?_, ?_⟩
                  · go_wp2_with fail
                    have hG := Box.new X 27 #[.slice none 0 0]
                    have z1 : Below X.heap.size X (X.alloc (.cells #[.slice none 0 0] 27)).drew := ((Below.refl _ _).alloc (Nat.le_refl _) _).drew
                    refine ⟨⟨⟨_, z1⟩, rfl⟩, ?_⟩
                    go_wp2_with fail
                    refine (over_c A6 A9 y z c6 c9 _ ((hT6.below z1).more z1.size) ((hT9'.below z1).more z1.size) (Nat.le_trans (Nat.mul_le_mul H.lz (show y.length + 1 ≤ 31 by have := H.ly; omega)) (by decide)) H.sy H.sz hc6 hm6 H.yz.rise (by have := H.yz.len; have := H.ly; have := H.lz; omega)).mono ?_
                    rintro e v1 ⟨B1, d1, rfl, hV1, hz, hd1, hdm1⟩
                    have z2 := z1.trans (hz.mono z1.size)
                    have hG1 := hG.drew.below hz (by simp)
                    clear hz
                    go_wp2_with fail
                    refine ⟨⟨⟨_, z2⟩, rfl⟩, ?_⟩
                    go_wp2_with fail
                    refine (over_c A3 B1 x (ov y z) c3 d1 _ ((hT3.below z2).more z2.size) hV1 (Nat.le_trans (Nat.mul_le_mul H.lyz (show x.length + 1 ≤ 31 by have := H.lx; omega)) (by decide)) H.sx H.syz hc3 hm3 H.xyz'.rise H.llast').mono ?_
                    rintro e v2 ⟨B2, d2, rfl, hV2, hz, hd2, hdm2⟩
                    have z3 := z2.trans (hz.mono z2.size)
                    have hG2 := hG1.below hz hG1.lt
                    clear hz hG hG1 hV1
                    go_wp2_with fail
                    refine ⟨⟨⟨_, z3⟩, rfl⟩, ?_⟩
                    refine wpQuiet_nil ?_
                    have hcell := hG2.cell 0
                    have hfree := hG2.free 0
                    have hTf : Tab (v2.setCell ⟨X.heap.size, 0, none⟩ (.slice B2 (ov x (ov y z)).length d2)) (v2.setCell ⟨X.heap.size, 0, none⟩ (.slice B2 (ov x (ov y z)).length d2)).heap.size B2 (ov x (ov y z)) := (Tab.put hV2 hG2 _).more (by simp [World.setCell])
                    have hGf := hG2.set_ 0 (.slice B2 (ov x (ov y z)).length d2)
                    have z4 := z3.setCell (p := ⟨X.heap.size, 0, none⟩) (Nat.le_refl _) (.slice B2 (ov x (ov y z)).length d2)
                    clear hG2 hV2
                    go_wp2_with fail
                    refine ⟨⟨⟨_, z4⟩, rfl⟩, ?_⟩
                    go_wp2_with fail
                    go_meet
                    exact ⟨_, B2, d2, rfl, hGf, hTf, z4⟩
                  · go_wp2_with fail
                    refine (over_c A6 A9 y z c6 c9 _ ((hT6.below z0).more z0.size) ((hT9'.below z0).more z0.size) (Nat.le_trans (Nat.mul_le_mul H.lz (show y.length + 1 ≤ 31 by have := H.ly; omega)) (by decide)) H.sy H.sz hc6 hm6 H.yz.rise (by have := H.yz.len; have := H.ly; have := H.lz; omega)).mono ?_
                    rintro e v1 ⟨B1, d1, rfl, hV1, hz, hd1, hdm1⟩
                    have z1 := z0.trans (hz.mono z0.size)
                    clear hz
                    go_wp2_with fail
                    refine ⟨⟨⟨_, z1⟩, rfl⟩, ?_⟩
                    refine ⟨?_, ?_⟩
                    · go_wp2_with fail
                      have hG := Box.new v1 27 #[.slice none 0 0]
                      have hz := (Below.refl v1.heap.size v1).alloc (Nat.le_refl _) (.cells #[.slice none 0 0] 27)
                      have z2 := z1.trans (hz.mono z1.size)
                      have hV1' := (hV1.below hz).more hz.size
                      clear hz
                      refine ⟨⟨⟨_, z2⟩, rfl⟩, ?_⟩
                      go_wp2_with fail
                      refine (over_c A3 B1 x (ov y z) c3 d1 _ ((hT3.below z2).more z2.size) hV1' (Nat.le_trans (Nat.mul_le_mul H.lyz (show x.length + 1 ≤ 31 by have := H.lx; omega)) (by decide)) H.sx H.syz hc3 hm3 H.xyz'.rise H.llast').mono ?_
                      rintro e v2 ⟨B2, d2, rfl, hV2, hz, hd2, hdm2⟩
                      have z3 := z2.trans (hz.mono z2.size)
                      have hG2 := hG.below hz hG.lt
                      clear hz hG hV1 hV1'
                      go_wp2_with fail
                      refine ⟨⟨⟨_, z3⟩, rfl⟩, ?_⟩
                      refine wpQuiet_nil ?_
                      have hcell := hG2.cell 0
                      have hfree := hG2.free 0
                      have hTf : Tab (v2.setCell ⟨v1.heap.size, 0, none⟩ (.slice B2 (ov x (ov y z)).length d2)) (v2.setCell ⟨v1.heap.size, 0, none⟩ (.slice B2 (ov x (ov y z)).length d2)).heap.size B2 (ov x (ov y z)) := (Tab.put hV2 hG2 _).more (by simp [World.setCell])
                      have hGf := hG2.set_ 0 (.slice B2 (ov x (ov y z)).length d2)
                      have z4 := z3.setCell (p := ⟨v1.heap.size, 0, none⟩) (z1.size) (.slice B2 (ov x (ov y z)).length d2)
                      clear hG2 hV2
                      go_wp2_with fail
                      refine ⟨⟨⟨_, z4⟩, rfl⟩, ?_⟩
                      go_wp2_with fail
                      go_meet
                      exact ⟨_, B2, d2, rfl, hGf, hTf, z4⟩
                    · go_wp2_with fail
                      refine (over_c A3 B1 x (ov y z) c3 d1 _ ((hT3.below z1).more z1.size) hV1 (Nat.le_trans (Nat.mul_le_mul H.lyz (show x.length + 1 ≤ 31 by have := H.lx; omega)) (by decide)) H.sx H.syz hc3 hm3 H.xyz'.rise H.llast').mono ?_
                      rintro e w2' ⟨B2, d2, rfl, hV2', hz, hd2, hdm2⟩
                      have z2 := z1.trans (hz.mono z1.size)
                      clear hz hV1
                      go_wp2_with fail
                      refine ⟨⟨⟨_, z2⟩, rfl⟩, ?_⟩
                      go_wp2_with fail
                      have hG2 := Box.new w2' 27 #[.slice none 0 0]
                      have hz := (Below.refl w2'.heap.size w2').alloc (Nat.le_refl _) (.cells #[.slice none 0 0] 27)
                      have z3 := z2.trans (hz.mono z2.size)
                      have hV2 := (hV2'.below hz).more hz.size
                      clear hz hV2'
                      refine ⟨⟨⟨_, z3⟩, rfl⟩, ?_⟩
                      refine wpQuiet_nil ?_
                      have hzz := z2.size
                      generalize w2'.alloc (.cells #[.slice none 0 0] 27) = v2 at *
                      generalize w2'.heap.size = gg at *
                      have hcell := hG2.cell 0
                      have hfree := hG2.free 0
                      have hTf : Tab (v2.setCell ⟨gg, 0, none⟩ (.slice B2 (ov x (ov y z)).length d2)) (v2.setCell ⟨gg, 0, none⟩ (.slice B2 (ov x (ov y z)).length d2)).heap.size B2 (ov x (ov y z)) := (Tab.put hV2 hG2 _).more (by simp [World.setCell])
                      have hGf := hG2.set_ 0 (.slice B2 (ov x (ov y z)).length d2)
                      have z4 := z3.setCell (p := ⟨gg, 0, none⟩) (hzz) (.slice B2 (ov x (ov y z)).length d2)
                      clear hG2 hV2
                      go_wp2_with fail
                      refine ⟨⟨⟨_, z4⟩, rfl⟩, ?_⟩
                      go_wp2_with fail
                      go_meet
                      exact ⟨_, B2, d2, rfl, hGf, hTf, z4⟩
                case rest =>
                  obtain ⟨g15, A15, c15, rfl, hx15, hT15, hbx⟩ := hcut
                  replace hx8 := hx8.below hbx hx8.lt
                  replace hx14 := hx14.below hbx hx14.lt
                  replace hT3 := (hT3.below hbx).more hbx.size
                  replace hT14 := (hT14.below hbx).more hbx.size
                  replace hb10 := hb10.trans (hbx.mono hb10.size)
                  clear hbx hx10 hx12 hT6 hT9'
                  go_upto_region 11 with fail
                  have e8 := Ext.cell (B := wc.heap.size) (w := wc) (p := ⟨g8, 0, none⟩) hx8.lt (hx8.cell 0)
                  have e14 := Ext.cell (B := wc.heap.size) (w := wc) (p := ⟨g14, 0, none⟩) hx14.lt (hx14.cell 0)
                  have e15 := Ext.cell (B := wc.heap.size) (w := wc) (p := ⟨g15, 0, none⟩) hx15.lt (hx15.cell 0)
                  rw [H.same] at hT14 e14
                  have hol : (ov x (ov y z)).length ≤ 100000 := by have := H.llast'; omega
                  refine region_plan [([0, 1, 2, 3, 5, 6], [4, 7, 8]), ([9, 10, 11, 12, 16, 17], [13, 14, 15, 18, 19]), ([20, 21], [])]
                    (fun w' => ∃ u : Ext wc wc.heap.size, w' = u.val) (by kernel_rfl) (by kernel_rfl) (fun _ _ _ _ _ h => h) ⟨⟨_, (Below.refl _ _).drew⟩, rfl⟩ ?_
                  simp only [wpPlan, sel, List.take_succ_cons, List.take_zero, List.drop_succ_cons, List.drop_zero, List.cons_append, List.nil_append]
                  repeat (go_big_quiet_step (fail))
                  refine wpQuiet_nil ?_
                  unfold wpChain
                  have z0 : Below wc.heap.size wc wc.drew := (Below.refl _ _).drew
                  go_wp2_with fail
                  refine (theirs_c A14 _ c14 _ hol ((hT14.below z0).more z0.size)).mono ?_
                  rintro e u1 ⟨A20, c20, rfl, hown, hz⟩
                  have z1 := z0.trans (hz.mono z0.size)
                  have hT20 := Tab.of_own hown
                  clear hz hown z0
                  go_wp2_with fail
                  refine ⟨⟨⟨_, z1⟩, rfl⟩, ?_⟩
                  unfold wpChain
                  go_wp2_with fail
                  refine (theirs_c A15 _ c15 _ hol ((hT15.below z1).more z1.size)).mono ?_
                  rintro e u2 ⟨A21, c21, rfl, hown, hz⟩
                  have z2 := z1.trans (hz.mono z1.size)
                  have hT21 := Tab.of_own hown
                  have hT20' := (hT20.below hz).more hz.size
                  clear hz hown z1 hT20
                  go_wp2_with fail
                  refine ⟨⟨⟨_, z2⟩, rfl⟩, ?_⟩
                  unfold wpChain
                  go_wp2_with fail
                  refine (same_c A20 A21 _ c20 c21 _ hol hT20' hT21).mono ?_
                  rintro e u3 ⟨rfl, hz⟩
                  have z3 := z2.trans (hz.mono z2.size)
                  clear hz z2 hT20' hT21
                  go_wp2_with fail
                  refine ⟨⟨⟨_, z3⟩, rfl⟩, ?_⟩
                  unfold wpChain
                  repeat (go_big_quiet_step (fail))
                  refine wpQuiet_nil ?_
                  unfold wpChain
                  go_wp2_with fail
                  have hxl : (joinF (layF x x)).length ≤ 4096 := by have := H.xx.len; have := H.lx; omega
                  refine (over_c A3 A3 x x c3 c3 _ ((hT3.below z3).more z3.size) ((hT3.below z3).more z3.size) (Nat.le_trans (Nat.mul_le_mul H.lx (show x.length + 1 ≤ 31 by have := H.lx; omega)) (by decide)) H.sx H.sx hc3 hm3 H.xx.rise hxl).mono ?_
                  rintro e u4 ⟨A22, c22, rfl, hT22, hz, _, _⟩
                  rw [show joinF (layF x x) = x from H.again] at hT22 ⊢
                  have z4 := z3.trans (hz.mono z3.size)
                  have hfld : ∀ V : World, (Instr.field 27 (.agg #[.slice A22 x.length c22]) 0).run Try.prog V = .ok (.slice A22 x.length c22) V := fun V => by kernel_rfl
                  clear hz z3
                  go_wp2_with fail
                  refine ⟨⟨⟨_, z4⟩, rfl⟩, ?_⟩
                  unfold wpChain
                  go_wp2_with fail
                  refine ⟨⟨⟨_, z4⟩, rfl⟩, ?_⟩
                  unfold wpChain
                  go_wp2_with fail
                  refine (theirs_c A22 x c22 _ (by have := H.lx; omega) hT22).mono ?_
                  rintro e u5 ⟨A23, c23, rfl, hown, hz⟩
                  have z5 := z4.trans (hz.mono z4.size)
                  have hT23 := Tab.of_own hown
                  clear hz hown z4 hT22
                  go_wp2_with fail
                  refine ⟨⟨⟨_, z5⟩, rfl⟩, ?_⟩
                  unfold wpChain
                  go_wp2_with fail
                  refine (theirs_c A3 x c3 _ (by have := H.lx; omega) ((hT3.below z5).more z5.size)).mono ?_
                  rintro e u6 ⟨A24, c24, rfl, hown, hz⟩
                  have z6 := z5.trans (hz.mono z5.size)
                  have hT24 := Tab.of_own hown
                  have hT23' := (hT23.below hz).more hz.size
                  clear hz hown z5 hT23
                  go_wp2_with fail
                  refine ⟨⟨⟨_, z6⟩, rfl⟩, ?_⟩
                  unfold wpChain
                  go_wp2_with fail
                  refine (same_c A23 A24 x c23 c24 _ (by have := H.lx; omega) hT23' hT24).mono ?_
                  rintro e u7 ⟨rfl, hz⟩
                  have z7 := z6.trans (hz.mono z6.size)
                  clear hz z6 hT23' hT24
                  go_wp2_with fail
                  refine ⟨⟨⟨_, z7⟩, rfl⟩, ?_⟩
                  unfold wpChain
                  repeat (go_big_quiet_step (fail))
                  refine wpQuiet_nil ?_
                  unfold wpChain
                  go_wp2
                  go_ret
                  exact ⟨rfl, hb10.trans (z7.mono hb10.size)⟩
end Go.Proofs.Ytgmcpmhpafcihaa
