/- PenFlags over the contracts. -/
import Derived.Test.YtlcnlfjjglcobaaDoorPenColL
import Derived.Test.YtlcnlfjjglcobaaDoorMath07c
namespace Go.Proofs.YtlcnlfjjglcobaaDoor
open Go Go.RowKit
set_option linter.unusedVariables false
set_option linter.unusedSimpArgs false

def onC : Array Value := #[.int .i64 1, .int .i64 2, .int .i64 3, .int .i64 5, .int .i64 7, .int .i64 8, .int .i64 9]
def offC : Array Value := #[.int .i64 22, .int .i64 22, .int .i64 23, .int .i64 25, .int .i64 27, .int .i64 28, .int .i64 29]
def bitC : Array Value := #[.int .i64 1, .int .i64 2, .int .i64 4, .int .i64 16, .int .i64 32, .int .i64 64, .int .i64 128]
theorem row_at {i : Nat} (hi : i < 7) : ∃ x ∈ rowN, onC[i]? = some (.int .i64 x.1) ∧ offC[i]? = some (.int .i64 x.2.1) ∧ bitC[i]? = some (.int .i64 x.2.2.1) ∧ (i < 2 → x.2.2.2 = 3) ∧ (¬ i < 2 → x.2.2.2 = x.2.2.1) := by
  match i, hi with
  | 0, _ => exact ⟨(1, 22, 1, 3), by decide, rfl, rfl, rfl, by decide, by decide⟩
  | 1, _ => exact ⟨(2, 22, 2, 3), by decide, rfl, rfl, rfl, by decide, by decide⟩
  | 2, _ => exact ⟨(3, 23, 4, 4), by decide, rfl, rfl, rfl, by decide, by decide⟩
  | 3, _ => exact ⟨(5, 25, 16, 16), by decide, rfl, rfl, rfl, by decide, by decide⟩
  | 4, _ => exact ⟨(7, 27, 32, 32), by decide, rfl, rfl, rfl, by decide, by decide⟩
  | 5, _ => exact ⟨(8, 28, 64, 64), by decide, rfl, rfl, rfl, by decide, by decide⟩
  | 6, _ => exact ⟨(9, 29, 128, 128), by decide, rfl, rfl, rfl, by decide, by decide⟩
/-- The law's own memory: the pen, and the three rows. -/
structure FlagW (w : World) (g1 g2 g3 : Nat) (W : World) (p : Pn) : Prop where
  b1 : Box W w.heap.size 23 #[.int .i64 p.fg, .int .i64 p.bg, .int .i64 p.fl]
  r1 : Box W g1 3 onC
  r2 : Box W g2 3 offC
  r3 : Box W g3 3 bitC
  bel : Below w.heap.size w W
theorem FlagW.on {w W W' : World} {g1 g2 g3 : Nat} {p : Pn} (h : FlagW w g1 g2 g3 W p) (hb : Below W.heap.size W W') : FlagW w g1 g2 g3 W' p :=
  ⟨h.b1.below hb h.b1.lt, h.r1.below hb h.r1.lt, h.r2.below hb h.r2.lt, h.r3.below hb h.r3.lt, h.bel.trans (hb.mono h.bel.size)⟩
theorem FlagW.new {w W : World} {p : Pn} (h : OneP w W p) : FlagW w W.heap.size (W.heap.size + 1) (W.heap.size + 1 + 1) (((W.alloc (.cells #[.int .i64 1, .int .i64 2, .int .i64 3, .int .i64 5, .int .i64 7, .int .i64 8, .int .i64 9] 3)).alloc (.cells #[.int .i64 22, .int .i64 22, .int .i64 23, .int .i64 25, .int .i64 27, .int .i64 28, .int .i64 29] 3)).alloc (.cells #[.int .i64 1, .int .i64 2, .int .i64 4, .int .i64 16, .int .i64 32, .int .i64 64, .int .i64 128] 3)) p := by
  have e1 : (W.alloc (.cells onC 3)).heap.size = W.heap.size + 1 := by simp
  have e2 : ((W.alloc (.cells onC 3)).alloc (.cells offC 3)).heap.size = W.heap.size + 1 + 1 := by simp
  have h2 := Box.new (W.alloc (.cells onC 3)) 3 offC
  have h3 := Box.new ((W.alloc (.cells onC 3)).alloc (.cells offC 3)) 3 bitC
  rw [e1] at h2
  rw [e2] at h3
  refine ⟨((h.b1.alloc _).alloc _).alloc _, ((Box.new W 3 onC).alloc _).alloc _, h2.alloc _, h3, ((h.bel.alloc h.bel.size _).alloc ?_ _).alloc ?_ _⟩
  · have := h.bel.size; simp; omega
  · have := h.bel.size; simp; omega
/-- Apply of one parameter of one number, wherever it lies. -/
theorem one_apply (ha : Apply7C) {p q : Pn} {n : Int} {V : World} {g1 g2 : Nat} (hp : PnOk p) (hn : I64 n) (h1 : Box V g1 3 #[.int .i64 n]) (h2 : Box V g2 34 #[.slice (some ⟨g1, 0, none⟩) 1 1]) (hq : applyN p [[n]] = q) (hT : Tog V) :
    Calls Tryd.prog 11 #[pnV p, .slice (some ⟨g2, 0, none⟩) 1 1] V fun e w' => e = .returned (pnV q) ∧ Below V.heap.size V w' := by
  have hin : InP V (some ⟨g2, 0, none⟩) 1 [⟨some ⟨g1, 0, none⟩, 1, [n]⟩] := by
    refine ⟨⟨Rd.of_box (f := elV) (l := [⟨some ⟨g1, 0, none⟩, 1, [n]⟩]) h2, fun e he => ?_⟩, Nat.le_refl _, by decide⟩
    rw [List.mem_singleton] at he
    subst he
    exact ⟨Rd.of_box (f := intV) (l := [n]) h1, Nat.le_refl _, by simp [maxLen]⟩
  have h := ha p _ _ _ V hp hin (by intro q hq x hx; simp [qs] at hq; subst hq; rw [List.mem_singleton] at hx; subst hx; exact hn) hT
  have e : qs [⟨some ⟨g1, 0, none⟩, 1, [n]⟩] = [[n]] := rfl
  rw [e, hq] at h
  exact h
/-- A pen in a new variable. -/
def KMet (W : World) (q : Pn) (u : Value) (wx : World) : Prop := ∃ g, u = .pointer (some ⟨g, 0, none⟩) ∧ Box wx g 23 #[.int .i64 q.fg, .int .i64 q.bg, .int .i64 q.fl] ∧ W.heap.size ≤ g ∧ Below W.heap.size W wx
theorem Box.put3 {w W : World} {B g : Nat} {t : TypeId} {o0 o1 o2 : Value} (h : Box W g t #[o0, o1, o2]) (hb : Below B w W) (hg : B ≤ g) (v0 v1 v2 : Value) :
    Box (((W.setCell ⟨g, 0, none⟩ v0).setCell ⟨g, 1, none⟩ v1).setCell ⟨g, 2, none⟩ v2) g t #[v0, v1, v2] ∧ Below B w (((W.setCell ⟨g, 0, none⟩ v0).setCell ⟨g, 1, none⟩ v1).setCell ⟨g, 2, none⟩ v2) := by
  have h0 : Box (W.setCell ⟨g, 0, none⟩ v0) g t #[v0, o1, o2] := h.set_ 0 v0
  have b0 : Below B w (W.setCell ⟨g, 0, none⟩ v0) := hb.setCell (p := ⟨g, 0, none⟩) hg v0
  have h1 : Box ((W.setCell ⟨g, 0, none⟩ v0).setCell ⟨g, 1, none⟩ v1) g t #[v0, v1, o2] := h0.set_ 1 v1
  have b1 : Below B w ((W.setCell ⟨g, 0, none⟩ v0).setCell ⟨g, 1, none⟩ v1) := b0.setCell (p := ⟨g, 1, none⟩) hg v1
  exact ⟨h1.set_ 2 v2, b1.setCell (p := ⟨g, 2, none⟩) hg v2⟩
set_option maxRecDepth 100000 in
set_option maxHeartbeats 4000000 in
theorem pflag_law (hp : ParseC) (hs : Sane7C) (ha : Apply7C) (hpr : Print7C) (p : Pn) (k : Int) (hp1 : PnOk p) (w : World) (hT : Tog w) :
    Calls Tryd.prog 6 #[pnV p, .int .i64 k] w fun e w' => e = .returned (.bool true) ∧ Below w.heap.size w w' := by
  obtain ⟨fg, bg, fl⟩ := p
  have v1 : pnV ⟨fg, bg, fl⟩ = .agg #[.int .i64 fg, .int .i64 bg, .int .i64 fl] := rfl
  have a1 := and_65535 k
  rw [v1]
  have hbox := Box.pen (w := w) (a := .int .i64 fg) (b := .int .i64 bg) (c := .int .i64 fl)
  have hbW := (Below.refl w.heap.size w).alloc (Nat.le_refl _) (.cells #[.int .i64 fg, .int .i64 bg, .int .i64 fl] 23)
  have hawake := awake7_c hp hs ha hpr (w.alloc (.cells #[.int .i64 fg, .int .i64 bg, .int .i64 fl] 23)) (hT.on hbW)
  have HE0 := Lib.hid (OneP.mk hbox hbW : OneP w _ ⟨fg, bg, fl⟩)
  clear hbox hbW
  go_enter Tryd.func6, Tryd.ntmps6
  go_wp2_with fail
  refine hawake.mono ?_
  rintro e w1 ⟨rfl, hb1⟩
  have hE := HE0.out.on hb1
  clear HE0 hb1
  obtain ⟨⟨k0, k1, k2⟩, -⟩ := hE.b1.three
  have HE := Lib.hid hE
  clear hE
  have h1 := hs ⟨fg, bg, fl⟩ w1 hp1
  rw [v1] at h1
  by_cases hsane : SaneN ⟨fg, bg, fl⟩
  · rw [decide_eq_true hsane] at h1
    clear hawake
    go_wp2_with fail
    refine h1.mono ?_
    rintro e w2 ⟨rfl, hb2⟩
    have hE := HE.out.on hb2
    clear h1 hb2 HE k0 k1 k2
    have HE := Lib.hid hE
    clear hE
    obtain ⟨z, hz⟩ : ∃ z, k % 65536 = z := ⟨_, rfl⟩
    have hz0 : 0 ≤ z := by omega
    have hz1 : z ≤ 65535 := by omega
    rw [hz] at a1
    obtain ⟨i, hi⟩ : ∃ i : Nat, z % 7 = (i : Int) := Int.eq_ofNat_of_zero_le (by omega)
    have hi7 : i < 7 := by omega
    have hit : z.tmod 7 = (i : Int) := by rw [Int.tmod_eq_emod_of_nonneg hz0]; exact hi
    clear hz
    go_upto_region 8 with fail
    have hF := FlagW.new HE.out
    generalize ((w2.alloc (.cells #[.int .i64 1, .int .i64 2, .int .i64 3, .int .i64 5, .int .i64 7, .int .i64 8, .int .i64 9] 3)).alloc (.cells #[.int .i64 22, .int .i64 22, .int .i64 23, .int .i64 25, .int .i64 27, .int .i64 28, .int .i64 29] 3)).alloc (.cells #[.int .i64 1, .int .i64 2, .int .i64 4, .int .i64 16, .int .i64 32, .int .i64 64, .int .i64 128] 3) = W at *
    obtain ⟨⟨a, b, bit, mk⟩, hxm, hr1, hr2, hr3, hm1, hm2⟩ := row_at hi7
    have htwo := flag_two hsane hxm
    have hnums := row_nums _ hxm
    simp only at hr1 hr2 hr3 hm1 hm2 htwo hnums
    have hq1 : PnOk (applyN ⟨fg, bg, fl⟩ [[a]]) := (apply_ok _ _).ok
    obtain ⟨q, hq⟩ : ∃ q, applyN ⟨fg, bg, fl⟩ [[a]] = q := ⟨_, rfl⟩
    obtain ⟨r, hr⟩ : ∃ r, applyN q [[b]] = r := ⟨_, rfl⟩
    rw [hq] at htwo hq1
    rw [hr] at htwo
    have hia : I64 a := by unfold I64; omega
    have hib : I64 b := by unfold I64; omega
    have HT := Lib.hid htwo
    have HH := Lib.hid (And.intro hia (And.intro hib (And.intro hm1 (And.intro hm2 (And.intro hxm (And.intro hq (And.intro hr hq1)))))))
    have HR := Lib.hid (And.intro hr1 (And.intro hr2 hr3))
    clear hr1 hr2 hr3 hm1 hm2 htwo hnums hia hib hxm hq hr hq1 a1 hi hit hz0 hz1 HE
    have HF := Lib.hid hF
    have zi : (i : Int) < 7 := by omega
    clear hF
    go_cut [10] (fun uu wx => KMet W q uu wx)
    case first =>
      have HP0 := Ext.cell (w := W) (B := W.heap.size) HF.out.b1.lt (show W.cell? ⟨w.heap.size, 0, none⟩ = some (.int .i64 fg) from HF.out.b1.cell 0)
      have HP1 := Ext.cell (w := W) (B := W.heap.size) HF.out.b1.lt (show W.cell? ⟨w.heap.size, 1, none⟩ = some (.int .i64 bg) from HF.out.b1.cell 1)
      have HP2 := Ext.cell (w := W) (B := W.heap.size) HF.out.b1.lt (show W.cell? ⟨w.heap.size, 2, none⟩ = some (.int .i64 fl) from HF.out.b1.cell 2)
      have HRW := Ext.cell (w := W) (B := W.heap.size) HF.out.r1.lt (show W.cell? ⟨w2.heap.size, i, none⟩ = some (.int .i64 a) from (HF.out.r1.cell i).trans HR.out.1)
      refine region_float [([0, 1, 2, 3, 4], [])] 1 [5, 6, 7] 8 [([], [9])] (fun w' => ∃ u : Ext W W.heap.size, w' = u.val) (by kernel_rfl) (by kernel_rfl) (fun _ _ _ _ _ h => h) ⟨⟨_, (Below.refl _ _).drew⟩, rfl⟩ ?_
      simp only [wpPlanK, sel, List.take_succ_cons, List.take_zero, List.drop_succ_cons, List.drop_zero, List.cons_append, List.nil_append]
      repeat (go_big_quiet_step (fail))
      refine wpQuiet_nil ?_
      simp only [wpChain, wpFloat, wpPlan, sel, List.take_succ_cons, List.take_zero, List.drop_succ_cons, List.drop_zero, List.cons_append, List.nil_append]
      clear HP0 HP1 HP2 HRW
      refine ⟨?_, ?_⟩
      · have zz : Below W.heap.size W W := Below.refl _ _
        have y0 : Below W.heap.size W (W.alloc (.cells #[.int .i64 0, .int .i64 0, .int .i64 0] 23)) := zz.alloc zz.size _
        have y1 : Below W.heap.size W ((W.alloc (.cells #[.int .i64 0, .int .i64 0, .int .i64 0] 23)).alloc (.cells #[.int .i64 a] 3)) := y0.alloc y0.size _
        have y2 : Below W.heap.size W (((W.alloc (.cells #[.int .i64 0, .int .i64 0, .int .i64 0] 23)).alloc (.cells #[.int .i64 a] 3)).alloc (.cells #[.slice (some ⟨W.heap.size + 1, 0, none⟩) 1 1] 34)) := y1.alloc y1.size _
        have bP : Box (((W.alloc (.cells #[.int .i64 0, .int .i64 0, .int .i64 0] 23)).alloc (.cells #[.int .i64 a] 3)).alloc (.cells #[.slice (some ⟨W.heap.size + 1, 0, none⟩) 1 1] 34)) (W.heap.size) 23 #[.int .i64 0, .int .i64 0, .int .i64 0] := by
          have h := (((Box.new W 23 (#[.int .i64 0, .int .i64 0, .int .i64 0])).alloc (.cells #[.int .i64 a] 3)).alloc (.cells #[.slice (some ⟨W.heap.size + 1, 0, none⟩) 1 1] 34))
          simpa using h
        have bA : Box (((W.alloc (.cells #[.int .i64 0, .int .i64 0, .int .i64 0] 23)).alloc (.cells #[.int .i64 a] 3)).alloc (.cells #[.slice (some ⟨W.heap.size + 1, 0, none⟩) 1 1] 34)) (W.heap.size + 1) 3 #[.int .i64 a] := by
          have h := ((Box.new (W.alloc (.cells #[.int .i64 0, .int .i64 0, .int .i64 0] 23)) 3 (#[.int .i64 a])).alloc (.cells #[.slice (some ⟨W.heap.size + 1, 0, none⟩) 1 1] 34))
          simpa using h
        have bS : Box (((W.alloc (.cells #[.int .i64 0, .int .i64 0, .int .i64 0] 23)).alloc (.cells #[.int .i64 a] 3)).alloc (.cells #[.slice (some ⟨W.heap.size + 1, 0, none⟩) 1 1] 34)) (W.heap.size + 1 + 1) 34 #[.slice (some ⟨W.heap.size + 1, 0, none⟩) 1 1] := by
          have h := (Box.new ((W.alloc (.cells #[.int .i64 0, .int .i64 0, .int .i64 0] 23)).alloc (.cells #[.int .i64 a] 3)) 34 (#[.slice (some ⟨W.heap.size + 1, 0, none⟩) 1 1]))
          simpa using h
        have hcl := one_apply ha (q := q) hp1 HH.out.1 bA.drew bS.drew HH.out.2.2.2.2.2.1 ((hT.on HF.out.bel).on (by first | exact y2.drew | exact y1.drew | exact y0.drew))
        simp only [pnV] at hcl
        have HY := Lib.hid (And.intro y0.drew (And.intro y1.drew y2.drew))
        have HBX := Lib.hid (And.intro bA bP)
        clear zz y0 y1 y2 bP bA bS
        go_wp2_with fail
        refine ⟨⟨⟨_, HY.out.1⟩, rfl⟩, ?_⟩
        go_wp2_with fail
        refine ⟨⟨⟨_, HY.out.2.1⟩, rfl⟩, ?_⟩
        go_wp2_with fail
        refine ⟨⟨⟨_, HY.out.2.2⟩, rfl⟩, ?_⟩
        go_wp2_with fail
        refine hcl.mono ?_
        rintro e v ⟨rfl, hv⟩
        have hpb := HBX.out.2.drew.below hv HBX.out.2.lt
        have hvb := HY.out.2.2.trans (hv.mono HY.out.2.2.size)
        have hput := hpb.put3 hvb (by omega) (.int .i64 q.fg) (.int .i64 q.bg) (.int .i64 q.fl)
        obtain ⟨⟨c0, c1, c2⟩, f0, f1, f2⟩ := hpb.three
        have HX := Lib.hid hput
        have HVB := Lib.hid hvb
        clear hput hpb hvb hcl hv
        go_wp2_with fail
        refine ⟨⟨⟨_, HVB.out⟩, rfl⟩, ?_⟩
        refine wpQuiet_nil ?_
        go_wp2_with fail
        refine ⟨⟨⟨_, HX.out.2⟩, rfl⟩, ?_⟩
        go_wp2_with fail
        go_meet
        exact ⟨_, rfl, HX.out.1, by omega, HX.out.2⟩
      · have y5 : Below W.heap.size W (W.alloc (.cells #[.int .i64 a] 3)).drew := ((Below.refl _ _).alloc (Nat.le_refl _) _).drew
        go_wp2_with fail
        refine ⟨⟨⟨_, y5⟩, rfl⟩, ?_⟩
        clear y5
        refine ⟨?_, ?_⟩
        · have zz : Below W.heap.size W W := Below.refl _ _
          have y0 : Below W.heap.size W (W.alloc (.cells #[.int .i64 a] 3)) := zz.alloc zz.size _
          have y1 : Below W.heap.size W ((W.alloc (.cells #[.int .i64 a] 3)).alloc (.cells #[.int .i64 0, .int .i64 0, .int .i64 0] 23)) := y0.alloc y0.size _
          have y2 : Below W.heap.size W (((W.alloc (.cells #[.int .i64 a] 3)).alloc (.cells #[.int .i64 0, .int .i64 0, .int .i64 0] 23)).alloc (.cells #[.slice (some ⟨W.heap.size, 0, none⟩) 1 1] 34)) := y1.alloc y1.size _
          have bA : Box (((W.alloc (.cells #[.int .i64 a] 3)).alloc (.cells #[.int .i64 0, .int .i64 0, .int .i64 0] 23)).alloc (.cells #[.slice (some ⟨W.heap.size, 0, none⟩) 1 1] 34)) (W.heap.size) 3 #[.int .i64 a] := by
            have h := (((Box.new W 3 (#[.int .i64 a])).alloc (.cells #[.int .i64 0, .int .i64 0, .int .i64 0] 23)).alloc (.cells #[.slice (some ⟨W.heap.size, 0, none⟩) 1 1] 34))
            simpa using h
          have bP : Box (((W.alloc (.cells #[.int .i64 a] 3)).alloc (.cells #[.int .i64 0, .int .i64 0, .int .i64 0] 23)).alloc (.cells #[.slice (some ⟨W.heap.size, 0, none⟩) 1 1] 34)) (W.heap.size + 1) 23 #[.int .i64 0, .int .i64 0, .int .i64 0] := by
            have h := ((Box.new (W.alloc (.cells #[.int .i64 a] 3)) 23 (#[.int .i64 0, .int .i64 0, .int .i64 0])).alloc (.cells #[.slice (some ⟨W.heap.size, 0, none⟩) 1 1] 34))
            simpa using h
          have bS : Box (((W.alloc (.cells #[.int .i64 a] 3)).alloc (.cells #[.int .i64 0, .int .i64 0, .int .i64 0] 23)).alloc (.cells #[.slice (some ⟨W.heap.size, 0, none⟩) 1 1] 34)) (W.heap.size + 1 + 1) 34 #[.slice (some ⟨W.heap.size, 0, none⟩) 1 1] := by
            have h := (Box.new ((W.alloc (.cells #[.int .i64 a] 3)).alloc (.cells #[.int .i64 0, .int .i64 0, .int .i64 0] 23)) 34 (#[.slice (some ⟨W.heap.size, 0, none⟩) 1 1]))
            simpa using h
          have hcl := one_apply ha (q := q) hp1 HH.out.1 bA.drew bS.drew HH.out.2.2.2.2.2.1 ((hT.on HF.out.bel).on (by first | exact y2.drew | exact y1.drew | exact y0.drew))
          simp only [pnV] at hcl
          have HY := Lib.hid (And.intro y0.drew (And.intro y1.drew y2.drew))
          have HBX := Lib.hid (And.intro bA bP)
          clear zz y0 y1 y2 bA bP bS
          go_wp2_with fail
          refine ⟨⟨⟨_, HY.out.2.1⟩, rfl⟩, ?_⟩
          go_wp2_with fail
          refine ⟨⟨⟨_, HY.out.2.2⟩, rfl⟩, ?_⟩
          go_wp2_with fail
          refine hcl.mono ?_
          rintro e v ⟨rfl, hv⟩
          have hpb := HBX.out.2.drew.below hv HBX.out.2.lt
          have hvb := HY.out.2.2.trans (hv.mono HY.out.2.2.size)
          have hput := hpb.put3 hvb (by omega) (.int .i64 q.fg) (.int .i64 q.bg) (.int .i64 q.fl)
          obtain ⟨⟨c0, c1, c2⟩, f0, f1, f2⟩ := hpb.three
          have HX := Lib.hid hput
          have HVB := Lib.hid hvb
          clear hput hpb hvb hcl hv
          go_wp2_with fail
          refine ⟨⟨⟨_, HVB.out⟩, rfl⟩, ?_⟩
          refine wpQuiet_nil ?_
          go_wp2_with fail
          refine ⟨⟨⟨_, HX.out.2⟩, rfl⟩, ?_⟩
          go_wp2_with fail
          go_meet
          exact ⟨_, rfl, HX.out.1, by omega, HX.out.2⟩
        · have y6 : Below W.heap.size W ((W.alloc (.cells #[.int .i64 a] 3)).alloc (.cells #[.slice (some ⟨W.heap.size, 0, none⟩) 1 1] 34)).drew := (((Below.refl _ _).alloc (Nat.le_refl _) _).alloc (by simp) _).drew
          go_wp2_with fail
          refine ⟨⟨⟨_, y6⟩, rfl⟩, ?_⟩
          clear y6
          refine ⟨?_, ?_⟩
          · have zz : Below W.heap.size W W := Below.refl _ _
            have y0 : Below W.heap.size W (W.alloc (.cells #[.int .i64 a] 3)) := zz.alloc zz.size _
            have y1 : Below W.heap.size W ((W.alloc (.cells #[.int .i64 a] 3)).alloc (.cells #[.slice (some ⟨W.heap.size, 0, none⟩) 1 1] 34)) := y0.alloc y0.size _
            have y2 : Below W.heap.size W (((W.alloc (.cells #[.int .i64 a] 3)).alloc (.cells #[.slice (some ⟨W.heap.size, 0, none⟩) 1 1] 34)).alloc (.cells #[.int .i64 0, .int .i64 0, .int .i64 0] 23)) := y1.alloc y1.size _
            have bA : Box (((W.alloc (.cells #[.int .i64 a] 3)).alloc (.cells #[.slice (some ⟨W.heap.size, 0, none⟩) 1 1] 34)).alloc (.cells #[.int .i64 0, .int .i64 0, .int .i64 0] 23)) (W.heap.size) 3 #[.int .i64 a] := by
              have h := (((Box.new W 3 (#[.int .i64 a])).alloc (.cells #[.slice (some ⟨W.heap.size, 0, none⟩) 1 1] 34)).alloc (.cells #[.int .i64 0, .int .i64 0, .int .i64 0] 23))
              simpa using h
            have bS : Box (((W.alloc (.cells #[.int .i64 a] 3)).alloc (.cells #[.slice (some ⟨W.heap.size, 0, none⟩) 1 1] 34)).alloc (.cells #[.int .i64 0, .int .i64 0, .int .i64 0] 23)) (W.heap.size + 1) 34 #[.slice (some ⟨W.heap.size, 0, none⟩) 1 1] := by
              have h := ((Box.new (W.alloc (.cells #[.int .i64 a] 3)) 34 (#[.slice (some ⟨W.heap.size, 0, none⟩) 1 1])).alloc (.cells #[.int .i64 0, .int .i64 0, .int .i64 0] 23))
              simpa using h
            have bP : Box (((W.alloc (.cells #[.int .i64 a] 3)).alloc (.cells #[.slice (some ⟨W.heap.size, 0, none⟩) 1 1] 34)).alloc (.cells #[.int .i64 0, .int .i64 0, .int .i64 0] 23)) (W.heap.size + 1 + 1) 23 #[.int .i64 0, .int .i64 0, .int .i64 0] := by
              have h := (Box.new ((W.alloc (.cells #[.int .i64 a] 3)).alloc (.cells #[.slice (some ⟨W.heap.size, 0, none⟩) 1 1] 34)) 23 (#[.int .i64 0, .int .i64 0, .int .i64 0]))
              simpa using h
            have hcl := one_apply ha (q := q) hp1 HH.out.1 bA.drew bS.drew HH.out.2.2.2.2.2.1 ((hT.on HF.out.bel).on (by first | exact y2.drew | exact y1.drew | exact y0.drew))
            simp only [pnV] at hcl
            have HY := Lib.hid (And.intro y0.drew (And.intro y1.drew y2.drew))
            have HBX := Lib.hid (And.intro bA bP)
            clear zz y0 y1 y2 bA bS bP
            go_wp2_with fail
            refine ⟨⟨⟨_, HY.out.2.2⟩, rfl⟩, ?_⟩
            go_wp2_with fail
            refine hcl.mono ?_
            rintro e v ⟨rfl, hv⟩
            have hpb := HBX.out.2.drew.below hv HBX.out.2.lt
            have hvb := HY.out.2.2.trans (hv.mono HY.out.2.2.size)
            have hput := hpb.put3 hvb (by omega) (.int .i64 q.fg) (.int .i64 q.bg) (.int .i64 q.fl)
            obtain ⟨⟨c0, c1, c2⟩, f0, f1, f2⟩ := hpb.three
            have HX := Lib.hid hput
            have HVB := Lib.hid hvb
            clear hput hpb hvb hcl hv
            go_wp2_with fail
            refine ⟨⟨⟨_, HVB.out⟩, rfl⟩, ?_⟩
            refine wpQuiet_nil ?_
            go_wp2_with fail
            refine ⟨⟨⟨_, HX.out.2⟩, rfl⟩, ?_⟩
            go_wp2_with fail
            go_meet
            exact ⟨_, rfl, HX.out.1, by omega, HX.out.2⟩
          · have zz : Below W.heap.size W W := Below.refl _ _
            have y0 : Below W.heap.size W (W.alloc (.cells #[.int .i64 a] 3)) := zz.alloc zz.size _
            have y1 : Below W.heap.size W ((W.alloc (.cells #[.int .i64 a] 3)).alloc (.cells #[.slice (some ⟨W.heap.size, 0, none⟩) 1 1] 34)) := y0.alloc y0.size _
            have bA : Box ((W.alloc (.cells #[.int .i64 a] 3)).alloc (.cells #[.slice (some ⟨W.heap.size, 0, none⟩) 1 1] 34)) (W.heap.size) 3 #[.int .i64 a] := by
              have h := ((Box.new W 3 (#[.int .i64 a])).alloc (.cells #[.slice (some ⟨W.heap.size, 0, none⟩) 1 1] 34))
              simpa using h
            have bS : Box ((W.alloc (.cells #[.int .i64 a] 3)).alloc (.cells #[.slice (some ⟨W.heap.size, 0, none⟩) 1 1] 34)) (W.heap.size + 1) 34 #[.slice (some ⟨W.heap.size, 0, none⟩) 1 1] := by
              have h := (Box.new (W.alloc (.cells #[.int .i64 a] 3)) 34 (#[.slice (some ⟨W.heap.size, 0, none⟩) 1 1]))
              simpa using h
            have hcl := one_apply ha (q := q) hp1 HH.out.1 bA.drew bS.drew HH.out.2.2.2.2.2.1 ((hT.on HF.out.bel).on (by first | exact y2.drew | exact y1.drew | exact y0.drew))
            simp only [pnV] at hcl
            have HY := Lib.hid (And.intro y0.drew (And.intro y1.drew y1.drew))
            have HBX := Lib.hid (And.intro bA bS)
            clear zz y0 y1 bA bS
            go_wp2_with fail
            refine hcl.mono ?_
            rintro e v ⟨rfl, hv⟩
            have hvb := HY.out.2.2.trans (hv.mono HY.out.2.2.size)
            have hvz := hvb.alloc hvb.size (.cells #[.int .i64 0, .int .i64 0, .int .i64 0] 23)
            have hvq := hvb.alloc hvb.size (.cells #[.int .i64 q.fg, .int .i64 q.bg, .int .i64 q.fl] 23)
            have HX := Lib.hid (And.intro (Box.pen (w := v) (a := .int .i64 q.fg) (b := .int .i64 q.bg) (c := .int .i64 q.fl)) hvq)
            have HVB := Lib.hid (And.intro hvb hvz)
            clear hvb hvz hvq hcl hv
            go_wp2_with fail
            refine ⟨⟨⟨_, HVB.out.1⟩, rfl⟩, ?_⟩
            go_wp2_with fail
            refine ⟨⟨⟨_, HVB.out.2⟩, rfl⟩, ?_⟩
            refine wpQuiet_nil ?_
            go_wp2_with fail
            refine ⟨⟨⟨_, HX.out.2⟩, rfl⟩, ?_⟩
            go_wp2_with fail
            go_meet
            exact ⟨_, rfl, HX.out.1, HVB.out.1.size, HX.out.2⟩
    case rest =>
      obtain ⟨ga, rfl, hba, hga, hbl⟩ := hcut
      have hF1 := HF.out.on hbl
      have HF0 := HF
      clear HF
      have HF := Lib.hid hF1
      have HBA := Lib.hid (And.intro hba hga)
      have HHQ := Lib.hid HH.out.2.2.2.2.2.2.2
      clear hF1 hba hga hbl
      go_upto_region 9 with fail
      obtain ⟨W0, rfl⟩ : ∃ W0, W0 = W := ⟨_, rfl⟩
      generalize hWW : wc = W at *
      clear hWW
      go_cut [11] (fun uu wx => KMet W r uu wx)
      case first =>
        have HP0 := Ext.cell (w := W) (B := W.heap.size) HBA.out.1.lt (show W.cell? ⟨ga, 0, none⟩ = some (.int .i64 q.fg) from HBA.out.1.cell 0)
        have HP1 := Ext.cell (w := W) (B := W.heap.size) HBA.out.1.lt (show W.cell? ⟨ga, 1, none⟩ = some (.int .i64 q.bg) from HBA.out.1.cell 1)
        have HP2 := Ext.cell (w := W) (B := W.heap.size) HBA.out.1.lt (show W.cell? ⟨ga, 2, none⟩ = some (.int .i64 q.fl) from HBA.out.1.cell 2)
        have HRW := Ext.cell (w := W) (B := W.heap.size) HF.out.r2.lt (show W.cell? ⟨(w2.heap.size + 1), i, none⟩ = some (.int .i64 b) from (HF.out.r2.cell i).trans HR.out.2.1)
        refine region_float [([0, 1, 2, 3, 4], [])] 1 [5, 6, 7] 8 [([], [9])] (fun w' => ∃ u : Ext W W.heap.size, w' = u.val) (by kernel_rfl) (by kernel_rfl) (fun _ _ _ _ _ h => h) ⟨⟨_, (Below.refl _ _).drew⟩, rfl⟩ ?_
        simp only [wpPlanK, sel, List.take_succ_cons, List.take_zero, List.drop_succ_cons, List.drop_zero, List.cons_append, List.nil_append]
        repeat (go_big_quiet_step (fail))
        refine wpQuiet_nil ?_
        simp only [wpChain, wpFloat, wpPlan, sel, List.take_succ_cons, List.take_zero, List.drop_succ_cons, List.drop_zero, List.cons_append, List.nil_append]
        clear HP0 HP1 HP2 HRW
        refine ⟨?_, ?_⟩
        · have zz : Below W.heap.size W W := Below.refl _ _
          have y0 : Below W.heap.size W (W.alloc (.cells #[.int .i64 0, .int .i64 0, .int .i64 0] 23)) := zz.alloc zz.size _
          have y1 : Below W.heap.size W ((W.alloc (.cells #[.int .i64 0, .int .i64 0, .int .i64 0] 23)).alloc (.cells #[.int .i64 b] 3)) := y0.alloc y0.size _
          have y2 : Below W.heap.size W (((W.alloc (.cells #[.int .i64 0, .int .i64 0, .int .i64 0] 23)).alloc (.cells #[.int .i64 b] 3)).alloc (.cells #[.slice (some ⟨W.heap.size + 1, 0, none⟩) 1 1] 34)) := y1.alloc y1.size _
          have bP : Box (((W.alloc (.cells #[.int .i64 0, .int .i64 0, .int .i64 0] 23)).alloc (.cells #[.int .i64 b] 3)).alloc (.cells #[.slice (some ⟨W.heap.size + 1, 0, none⟩) 1 1] 34)) (W.heap.size) 23 #[.int .i64 0, .int .i64 0, .int .i64 0] := by
            have h := (((Box.new W 23 (#[.int .i64 0, .int .i64 0, .int .i64 0])).alloc (.cells #[.int .i64 b] 3)).alloc (.cells #[.slice (some ⟨W.heap.size + 1, 0, none⟩) 1 1] 34))
            simpa using h
          have bA : Box (((W.alloc (.cells #[.int .i64 0, .int .i64 0, .int .i64 0] 23)).alloc (.cells #[.int .i64 b] 3)).alloc (.cells #[.slice (some ⟨W.heap.size + 1, 0, none⟩) 1 1] 34)) (W.heap.size + 1) 3 #[.int .i64 b] := by
            have h := ((Box.new (W.alloc (.cells #[.int .i64 0, .int .i64 0, .int .i64 0] 23)) 3 (#[.int .i64 b])).alloc (.cells #[.slice (some ⟨W.heap.size + 1, 0, none⟩) 1 1] 34))
            simpa using h
          have bS : Box (((W.alloc (.cells #[.int .i64 0, .int .i64 0, .int .i64 0] 23)).alloc (.cells #[.int .i64 b] 3)).alloc (.cells #[.slice (some ⟨W.heap.size + 1, 0, none⟩) 1 1] 34)) (W.heap.size + 1 + 1) 34 #[.slice (some ⟨W.heap.size + 1, 0, none⟩) 1 1] := by
            have h := (Box.new ((W.alloc (.cells #[.int .i64 0, .int .i64 0, .int .i64 0] 23)).alloc (.cells #[.int .i64 b] 3)) 34 (#[.slice (some ⟨W.heap.size + 1, 0, none⟩) 1 1]))
            simpa using h
          have hcl := one_apply ha (q := r) HHQ.out HH.out.2.1 bA.drew bS.drew HH.out.2.2.2.2.2.2.1 ((hT.on HF.out.bel).on (by first | exact y2.drew | exact y1.drew | exact y0.drew))
          simp only [pnV] at hcl
          have HY := Lib.hid (And.intro y0.drew (And.intro y1.drew y2.drew))
          have HBX := Lib.hid (And.intro bA bP)
          clear zz y0 y1 y2 bP bA bS
          go_wp2_with fail
          refine ⟨⟨⟨_, HY.out.1⟩, rfl⟩, ?_⟩
          go_wp2_with fail
          refine ⟨⟨⟨_, HY.out.2.1⟩, rfl⟩, ?_⟩
          go_wp2_with fail
          refine ⟨⟨⟨_, HY.out.2.2⟩, rfl⟩, ?_⟩
          go_wp2_with fail
          refine hcl.mono ?_
          rintro e v ⟨rfl, hv⟩
          have hpb := HBX.out.2.drew.below hv HBX.out.2.lt
          have hvb := HY.out.2.2.trans (hv.mono HY.out.2.2.size)
          have hput := hpb.put3 hvb (by omega) (.int .i64 r.fg) (.int .i64 r.bg) (.int .i64 r.fl)
          obtain ⟨⟨c0, c1, c2⟩, f0, f1, f2⟩ := hpb.three
          have HX := Lib.hid hput
          have HVB := Lib.hid hvb
          clear hput hpb hvb hcl hv
          go_wp2_with fail
          refine ⟨⟨⟨_, HVB.out⟩, rfl⟩, ?_⟩
          refine wpQuiet_nil ?_
          go_wp2_with fail
          refine ⟨⟨⟨_, HX.out.2⟩, rfl⟩, ?_⟩
          go_wp2_with fail
          go_meet
          exact ⟨_, rfl, HX.out.1, by omega, HX.out.2⟩
        · have y5 : Below W.heap.size W (W.alloc (.cells #[.int .i64 b] 3)).drew := ((Below.refl _ _).alloc (Nat.le_refl _) _).drew
          go_wp2_with fail
          refine ⟨⟨⟨_, y5⟩, rfl⟩, ?_⟩
          clear y5
          refine ⟨?_, ?_⟩
          · have zz : Below W.heap.size W W := Below.refl _ _
            have y0 : Below W.heap.size W (W.alloc (.cells #[.int .i64 b] 3)) := zz.alloc zz.size _
            have y1 : Below W.heap.size W ((W.alloc (.cells #[.int .i64 b] 3)).alloc (.cells #[.int .i64 0, .int .i64 0, .int .i64 0] 23)) := y0.alloc y0.size _
            have y2 : Below W.heap.size W (((W.alloc (.cells #[.int .i64 b] 3)).alloc (.cells #[.int .i64 0, .int .i64 0, .int .i64 0] 23)).alloc (.cells #[.slice (some ⟨W.heap.size, 0, none⟩) 1 1] 34)) := y1.alloc y1.size _
            have bA : Box (((W.alloc (.cells #[.int .i64 b] 3)).alloc (.cells #[.int .i64 0, .int .i64 0, .int .i64 0] 23)).alloc (.cells #[.slice (some ⟨W.heap.size, 0, none⟩) 1 1] 34)) (W.heap.size) 3 #[.int .i64 b] := by
              have h := (((Box.new W 3 (#[.int .i64 b])).alloc (.cells #[.int .i64 0, .int .i64 0, .int .i64 0] 23)).alloc (.cells #[.slice (some ⟨W.heap.size, 0, none⟩) 1 1] 34))
              simpa using h
            have bP : Box (((W.alloc (.cells #[.int .i64 b] 3)).alloc (.cells #[.int .i64 0, .int .i64 0, .int .i64 0] 23)).alloc (.cells #[.slice (some ⟨W.heap.size, 0, none⟩) 1 1] 34)) (W.heap.size + 1) 23 #[.int .i64 0, .int .i64 0, .int .i64 0] := by
              have h := ((Box.new (W.alloc (.cells #[.int .i64 b] 3)) 23 (#[.int .i64 0, .int .i64 0, .int .i64 0])).alloc (.cells #[.slice (some ⟨W.heap.size, 0, none⟩) 1 1] 34))
              simpa using h
            have bS : Box (((W.alloc (.cells #[.int .i64 b] 3)).alloc (.cells #[.int .i64 0, .int .i64 0, .int .i64 0] 23)).alloc (.cells #[.slice (some ⟨W.heap.size, 0, none⟩) 1 1] 34)) (W.heap.size + 1 + 1) 34 #[.slice (some ⟨W.heap.size, 0, none⟩) 1 1] := by
              have h := (Box.new ((W.alloc (.cells #[.int .i64 b] 3)).alloc (.cells #[.int .i64 0, .int .i64 0, .int .i64 0] 23)) 34 (#[.slice (some ⟨W.heap.size, 0, none⟩) 1 1]))
              simpa using h
            have hcl := one_apply ha (q := r) HHQ.out HH.out.2.1 bA.drew bS.drew HH.out.2.2.2.2.2.2.1 ((hT.on HF.out.bel).on (by first | exact y2.drew | exact y1.drew | exact y0.drew))
            simp only [pnV] at hcl
            have HY := Lib.hid (And.intro y0.drew (And.intro y1.drew y2.drew))
            have HBX := Lib.hid (And.intro bA bP)
            clear zz y0 y1 y2 bA bP bS
            go_wp2_with fail
            refine ⟨⟨⟨_, HY.out.2.1⟩, rfl⟩, ?_⟩
            go_wp2_with fail
            refine ⟨⟨⟨_, HY.out.2.2⟩, rfl⟩, ?_⟩
            go_wp2_with fail
            refine hcl.mono ?_
            rintro e v ⟨rfl, hv⟩
            have hpb := HBX.out.2.drew.below hv HBX.out.2.lt
            have hvb := HY.out.2.2.trans (hv.mono HY.out.2.2.size)
            have hput := hpb.put3 hvb (by omega) (.int .i64 r.fg) (.int .i64 r.bg) (.int .i64 r.fl)
            obtain ⟨⟨c0, c1, c2⟩, f0, f1, f2⟩ := hpb.three
            have HX := Lib.hid hput
            have HVB := Lib.hid hvb
            clear hput hpb hvb hcl hv
            go_wp2_with fail
            refine ⟨⟨⟨_, HVB.out⟩, rfl⟩, ?_⟩
            refine wpQuiet_nil ?_
            go_wp2_with fail
            refine ⟨⟨⟨_, HX.out.2⟩, rfl⟩, ?_⟩
            go_wp2_with fail
            go_meet
            exact ⟨_, rfl, HX.out.1, by omega, HX.out.2⟩
          · have y6 : Below W.heap.size W ((W.alloc (.cells #[.int .i64 b] 3)).alloc (.cells #[.slice (some ⟨W.heap.size, 0, none⟩) 1 1] 34)).drew := (((Below.refl _ _).alloc (Nat.le_refl _) _).alloc (by simp) _).drew
            go_wp2_with fail
            refine ⟨⟨⟨_, y6⟩, rfl⟩, ?_⟩
            clear y6
            refine ⟨?_, ?_⟩
            · have zz : Below W.heap.size W W := Below.refl _ _
              have y0 : Below W.heap.size W (W.alloc (.cells #[.int .i64 b] 3)) := zz.alloc zz.size _
              have y1 : Below W.heap.size W ((W.alloc (.cells #[.int .i64 b] 3)).alloc (.cells #[.slice (some ⟨W.heap.size, 0, none⟩) 1 1] 34)) := y0.alloc y0.size _
              have y2 : Below W.heap.size W (((W.alloc (.cells #[.int .i64 b] 3)).alloc (.cells #[.slice (some ⟨W.heap.size, 0, none⟩) 1 1] 34)).alloc (.cells #[.int .i64 0, .int .i64 0, .int .i64 0] 23)) := y1.alloc y1.size _
              have bA : Box (((W.alloc (.cells #[.int .i64 b] 3)).alloc (.cells #[.slice (some ⟨W.heap.size, 0, none⟩) 1 1] 34)).alloc (.cells #[.int .i64 0, .int .i64 0, .int .i64 0] 23)) (W.heap.size) 3 #[.int .i64 b] := by
                have h := (((Box.new W 3 (#[.int .i64 b])).alloc (.cells #[.slice (some ⟨W.heap.size, 0, none⟩) 1 1] 34)).alloc (.cells #[.int .i64 0, .int .i64 0, .int .i64 0] 23))
                simpa using h
              have bS : Box (((W.alloc (.cells #[.int .i64 b] 3)).alloc (.cells #[.slice (some ⟨W.heap.size, 0, none⟩) 1 1] 34)).alloc (.cells #[.int .i64 0, .int .i64 0, .int .i64 0] 23)) (W.heap.size + 1) 34 #[.slice (some ⟨W.heap.size, 0, none⟩) 1 1] := by
                have h := ((Box.new (W.alloc (.cells #[.int .i64 b] 3)) 34 (#[.slice (some ⟨W.heap.size, 0, none⟩) 1 1])).alloc (.cells #[.int .i64 0, .int .i64 0, .int .i64 0] 23))
                simpa using h
              have bP : Box (((W.alloc (.cells #[.int .i64 b] 3)).alloc (.cells #[.slice (some ⟨W.heap.size, 0, none⟩) 1 1] 34)).alloc (.cells #[.int .i64 0, .int .i64 0, .int .i64 0] 23)) (W.heap.size + 1 + 1) 23 #[.int .i64 0, .int .i64 0, .int .i64 0] := by
                have h := (Box.new ((W.alloc (.cells #[.int .i64 b] 3)).alloc (.cells #[.slice (some ⟨W.heap.size, 0, none⟩) 1 1] 34)) 23 (#[.int .i64 0, .int .i64 0, .int .i64 0]))
                simpa using h
              have hcl := one_apply ha (q := r) HHQ.out HH.out.2.1 bA.drew bS.drew HH.out.2.2.2.2.2.2.1 ((hT.on HF.out.bel).on (by first | exact y2.drew | exact y1.drew | exact y0.drew))
              simp only [pnV] at hcl
              have HY := Lib.hid (And.intro y0.drew (And.intro y1.drew y2.drew))
              have HBX := Lib.hid (And.intro bA bP)
              clear zz y0 y1 y2 bA bS bP
              go_wp2_with fail
              refine ⟨⟨⟨_, HY.out.2.2⟩, rfl⟩, ?_⟩
              go_wp2_with fail
              refine hcl.mono ?_
              rintro e v ⟨rfl, hv⟩
              have hpb := HBX.out.2.drew.below hv HBX.out.2.lt
              have hvb := HY.out.2.2.trans (hv.mono HY.out.2.2.size)
              have hput := hpb.put3 hvb (by omega) (.int .i64 r.fg) (.int .i64 r.bg) (.int .i64 r.fl)
              obtain ⟨⟨c0, c1, c2⟩, f0, f1, f2⟩ := hpb.three
              have HX := Lib.hid hput
              have HVB := Lib.hid hvb
              clear hput hpb hvb hcl hv
              go_wp2_with fail
              refine ⟨⟨⟨_, HVB.out⟩, rfl⟩, ?_⟩
              refine wpQuiet_nil ?_
              go_wp2_with fail
              refine ⟨⟨⟨_, HX.out.2⟩, rfl⟩, ?_⟩
              go_wp2_with fail
              go_meet
              exact ⟨_, rfl, HX.out.1, by omega, HX.out.2⟩
            · have zz : Below W.heap.size W W := Below.refl _ _
              have y0 : Below W.heap.size W (W.alloc (.cells #[.int .i64 b] 3)) := zz.alloc zz.size _
              have y1 : Below W.heap.size W ((W.alloc (.cells #[.int .i64 b] 3)).alloc (.cells #[.slice (some ⟨W.heap.size, 0, none⟩) 1 1] 34)) := y0.alloc y0.size _
              have bA : Box ((W.alloc (.cells #[.int .i64 b] 3)).alloc (.cells #[.slice (some ⟨W.heap.size, 0, none⟩) 1 1] 34)) (W.heap.size) 3 #[.int .i64 b] := by
                have h := ((Box.new W 3 (#[.int .i64 b])).alloc (.cells #[.slice (some ⟨W.heap.size, 0, none⟩) 1 1] 34))
                simpa using h
              have bS : Box ((W.alloc (.cells #[.int .i64 b] 3)).alloc (.cells #[.slice (some ⟨W.heap.size, 0, none⟩) 1 1] 34)) (W.heap.size + 1) 34 #[.slice (some ⟨W.heap.size, 0, none⟩) 1 1] := by
                have h := (Box.new (W.alloc (.cells #[.int .i64 b] 3)) 34 (#[.slice (some ⟨W.heap.size, 0, none⟩) 1 1]))
                simpa using h
              have hcl := one_apply ha (q := r) HHQ.out HH.out.2.1 bA.drew bS.drew HH.out.2.2.2.2.2.2.1 ((hT.on HF.out.bel).on (by first | exact y2.drew | exact y1.drew | exact y0.drew))
              simp only [pnV] at hcl
              have HY := Lib.hid (And.intro y0.drew (And.intro y1.drew y1.drew))
              have HBX := Lib.hid (And.intro bA bS)
              clear zz y0 y1 bA bS
              go_wp2_with fail
              refine hcl.mono ?_
              rintro e v ⟨rfl, hv⟩
              have hvb := HY.out.2.2.trans (hv.mono HY.out.2.2.size)
              have hvz := hvb.alloc hvb.size (.cells #[.int .i64 0, .int .i64 0, .int .i64 0] 23)
              have hvq := hvb.alloc hvb.size (.cells #[.int .i64 r.fg, .int .i64 r.bg, .int .i64 r.fl] 23)
              have HX := Lib.hid (And.intro (Box.pen (w := v) (a := .int .i64 r.fg) (b := .int .i64 r.bg) (c := .int .i64 r.fl)) hvq)
              have HVB := Lib.hid (And.intro hvb hvz)
              clear hvb hvz hvq hcl hv
              go_wp2_with fail
              refine ⟨⟨⟨_, HVB.out.1⟩, rfl⟩, ?_⟩
              go_wp2_with fail
              refine ⟨⟨⟨_, HVB.out.2⟩, rfl⟩, ?_⟩
              refine wpQuiet_nil ?_
              go_wp2_with fail
              refine ⟨⟨⟨_, HX.out.2⟩, rfl⟩, ?_⟩
              go_wp2_with fail
              go_meet
              exact ⟨_, rfl, HX.out.1, HVB.out.1.size, HX.out.2⟩
      case rest =>
        obtain ⟨gb, rfl, hbb, hgb, hbl⟩ := hcut
        have hF2 := HF.out.on hbl
        have hba2 := HBA.out.1.below hbl HBA.out.1.lt
        have hsr : SaneN r := by rw [← HH.out.2.2.2.2.2.2.1]; exact apply_ok _ _
        obtain ⟨hq2, hr2⟩ := HT.out
        subst hq2
        subst hr2
        obtain ⟨fo, hfo⟩ : ∃ fo, bits .or .i64 fl bit = fo := ⟨_, rfl⟩
        obtain ⟨fa, hfa⟩ : ∃ fa, bits .and .i64 fl mk = fa := ⟨_, rfl⟩
        have hs1 := hsr.2.2
        have hs2 := hsane.2.2
        simp only at hba2 hbb hs1 hs2
        rw [hfo] at hba2
        rw [hfa] at hbb hs1
        have b1 := hF2.b1
        have r3 := hF2.r3
        have hbw := hF2.bel
        have hbc := (r3.cell i).trans HR.out.2.2
        have hwr : wrap64 (fl - fa) = fl - fa := by unfold wrap64; omega
        have HM := Lib.hid (And.intro HH.out.2.2.1 HH.out.2.2.2.1)
        clear hF2 hsr hs1 hs2 HT HH HHQ HBA HF HF0
        go_upto_region 11 with fail
        have p0 := Ext.cell (w := wc) (B := wc.heap.size) b1.lt (show wc.cell? ⟨w.heap.size, 0, none⟩ = some (.int .i64 fg) from b1.cell 0)
        have p1 := Ext.cell (w := wc) (B := wc.heap.size) b1.lt (show wc.cell? ⟨w.heap.size, 1, none⟩ = some (.int .i64 bg) from b1.cell 1)
        have p2 := Ext.cell (w := wc) (B := wc.heap.size) b1.lt (show wc.cell? ⟨w.heap.size, 2, none⟩ = some (.int .i64 fl) from b1.cell 2)
        have q0 := Ext.cell (w := wc) (B := wc.heap.size) hba2.lt (show wc.cell? ⟨ga, 0, none⟩ = some (.int .i64 fg) from hba2.cell 0)
        have q1 := Ext.cell (w := wc) (B := wc.heap.size) hba2.lt (show wc.cell? ⟨ga, 1, none⟩ = some (.int .i64 bg) from hba2.cell 1)
        have q2 := Ext.cell (w := wc) (B := wc.heap.size) hba2.lt (show wc.cell? ⟨ga, 2, none⟩ = some (.int .i64 fo) from hba2.cell 2)
        have r0 := Ext.cell (w := wc) (B := wc.heap.size) hbb.lt (show wc.cell? ⟨gb, 0, none⟩ = some (.int .i64 fg) from hbb.cell 0)
        have r1 := Ext.cell (w := wc) (B := wc.heap.size) hbb.lt (show wc.cell? ⟨gb, 1, none⟩ = some (.int .i64 bg) from hbb.cell 1)
        have r2 := Ext.cell (w := wc) (B := wc.heap.size) hbb.lt (show wc.cell? ⟨gb, 2, none⟩ = some (.int .i64 (fl - fa)) from hbb.cell 2)
        have s0 := Ext.cell (w := wc) (B := wc.heap.size) r3.lt (show wc.cell? ⟨w2.heap.size + 1 + 1, i, none⟩ = some (.int .i64 bit) from hbc)
        clear hba2 hbb b1 r3 hbc
        by_cases hi2 : i < 2
        · have hmk := HM.out.1 hi2
          subst hmk
          have zi2 : (i : Int) < 2 := by omega
          clear hi2 HM
          go_upto_region 13 with fail
          refine region_plan [([0, 1, 2, 3, 4, 5, 6, 7, 8, 9, 10, 11, 12, 13, 14, 15, 16, 17, 18, 19, 20, 21, 22, 23, 24, 25, 26, 27, 28, 29, 30, 31, 32, 33, 34, 35, 36, 37, 38, 39, 40, 41, 42, 43, 44, 45, 46, 47, 48, 49, 50, 51, 52, 53], [])] (fun w' => ∃ u : Ext wc wc.heap.size, w' = u.val) (by kernel_rfl) (by kernel_rfl) (fun _ _ _ _ _ h => h) ⟨⟨_, (Below.refl _ _).drew⟩, rfl⟩ ?_
          simp only [wpPlan, sel, List.take_succ_cons, List.take_zero, List.drop_succ_cons, List.drop_zero, List.cons_append, List.nil_append]
          repeat (go_big_quiet_step (fail))
          refine wpQuiet_nil ?_
          unfold wpChain
          go_wp2_with fail
          go_ret
          exact ⟨rfl, hbw.drew⟩
        · have hmk := HM.out.2 hi2
          subst hmk
          have zi2 : ¬ (i : Int) < 2 := by omega
          clear hi2 HM
          go_upto_region 13 with fail
          refine region_plan [([0, 1, 2, 3, 4, 5, 6, 7, 8, 9, 10, 11, 12, 13, 14, 15, 16, 17, 18, 19, 20, 21, 22, 23, 24, 25, 26, 27, 28, 29, 30, 31, 32, 33, 34, 35, 36, 37, 38, 39, 40, 41, 42, 43, 44, 45, 46, 47, 48, 49, 50, 51, 52, 53], [])] (fun w' => ∃ u : Ext wc wc.heap.size, w' = u.val) (by kernel_rfl) (by kernel_rfl) (fun _ _ _ _ _ h => h) ⟨⟨_, (Below.refl _ _).drew⟩, rfl⟩ ?_
          simp only [wpPlan, sel, List.take_succ_cons, List.take_zero, List.drop_succ_cons, List.drop_zero, List.cons_append, List.nil_append]
          repeat (go_big_quiet_step (fail))
          refine wpQuiet_nil ?_
          unfold wpChain
          go_wp2_with fail
          go_ret
          exact ⟨rfl, hbw.drew⟩
  · rw [decide_eq_false hsane] at h1
    clear hawake
    go_wp2_with fail
    refine h1.mono ?_
    rintro e w2 ⟨rfl, hb2⟩
    have hb3 := HE.out.bel.trans (hb2.mono HE.out.bel.size)
    clear h1 hb2 HE k0 k1 k2
    go_wp2_with fail
    go_ret
    exact ⟨rfl, hb3⟩
end Go.Proofs.YtlcnlfjjglcobaaDoor
