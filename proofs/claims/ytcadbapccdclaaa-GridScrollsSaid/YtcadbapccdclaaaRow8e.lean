/- Package row, walked: whether a row may be. -/
import Derived.Test.YtcadbapccdclaaaRow8b
import Derived.Test.YtcadbapccdclaaaPenS
import Derived.Test.YtcadbapccdclaaaMath08e
namespace Go.Proofs.Ytcadbapccdclaaa
open Go Go.RowKit
set_option linter.unusedVariables false
set_option linter.unusedSimpArgs false

theorem Box.put3p {w W : World} {B g : Nat} {t : TypeId} {o0 o1 o2 : Value} (h : Box W g t #[o0, o1, o2]) (hb : Below B w W) (hg : B ≤ g) (v0 v1 v2 : Value) :
    Box (((W.setCell ⟨g, 0, none⟩ v0).setCell ⟨g, 1, none⟩ v1).setCell ⟨g, 2, none⟩ v2) g t #[v0, v1, v2] ∧
    Below B w (((W.setCell ⟨g, 0, none⟩ v0).setCell ⟨g, 1, none⟩ v1).setCell ⟨g, 2, none⟩ v2) :=
  have h0 : Box (W.setCell ⟨g, 0, none⟩ v0) g t #[v0, o1, o2] := h.set_ 0 v0
  have h1 : Box ((W.setCell ⟨g, 0, none⟩ v0).setCell ⟨g, 1, none⟩ v1) g t #[v0, v1, o2] := h0.set_ 1 v1
  ⟨h1.set_ 2 v2, ((hb.setCell (p := ⟨g, 0, none⟩) hg v0).setCell (p := ⟨g, 1, none⟩) hg v1).setCell (p := ⟨g, 2, none⟩) hg v2⟩
theorem Box.far3 {W : World} {g g' : Nat} {t : TypeId} {cs : Array Value} (h : Box W g t cs) (hg : g ≠ g') (v0 v1 v2 : Value) :
    Box (((W.setCell ⟨g', 0, none⟩ v0).setCell ⟨g', 1, none⟩ v1).setCell ⟨g', 2, none⟩ v2) g t cs :=
  ((h.far (p := ⟨g', _, none⟩) hg _).far (p := ⟨g', _, none⟩) hg _).far (p := ⟨g', _, none⟩) hg _
/-- Of a row: the row in the call's own variable, the pen that was had, and all cells so far. -/
structure SnM (w wr : World) (l : List Cl) (A : Option Addr) (c : Nat) (y1 : Bool) (y2 : Int) (y3 : Bool) (p : Pn) (i : Nat) : Prop where
  b1 : Box wr w.heap.size 35 #[.slice A l.length c, .bool y1, .int .i64 y2, .bool y3]
  b2 : Box wr (w.heap.size + 1) 31 #[.int .i64 p.fg, .int .i64 p.bg, .int .i64 p.fl]
  bl : Below w.heap.size w wr
  sn : SaneN p
  all : ∀ k y, k < i → l[k]? = some y → OneC y ∧ ¬ BadAt l k
theorem SnM.on {w wr v : World} {l : List Cl} {A : Option Addr} {c : Nat} {y1 : Bool} {y2 : Int} {y3 : Bool} {p : Pn} {i : Nat} (h : SnM w wr l A c y1 y2 y3 p i) (hv : Below wr.heap.size wr v) : SnM w v l A c y1 y2 y3 p i :=
  ⟨h.b1.below hv h.b1.lt, h.b2.below hv h.b2.lt, h.bl.trans (hv.mono h.bl.size), h.sn, h.all⟩
theorem SnM.put {w wr : World} {l : List Cl} {A : Option Addr} {c : Nat} {y1 : Bool} {y2 : Int} {y3 : Bool} {p : Pn} {i : Nat} (h : SnM w wr l A c y1 y2 y3 p i) (q : Pn) (hq : SaneN q) :
    SnM w (((wr.setCell ⟨w.heap.size + 1, 0, none⟩ (.int .i64 q.fg)).setCell ⟨w.heap.size + 1, 1, none⟩ (.int .i64 q.bg)).setCell ⟨w.heap.size + 1, 2, none⟩ (.int .i64 q.fl)) l A c y1 y2 y3 q i :=
  have h1 := h.b2.put3p h.bl (Nat.le_succ _) (.int .i64 q.fg) (.int .i64 q.bg) (.int .i64 q.fl)
  ⟨h.b1.far3 (by omega) _ _ _, h1.1, h1.2, hq, h.all⟩
theorem sane_len {r : Rw} (h : ¬ (1 ≤ r.cs.length ∧ r.cs.length ≤ 4096 ∧ 0 ≤ r.dir ∧ r.dir ≤ 2)) : decide (SaneR r) = false :=
  decide_eq_false fun k => h ⟨k.1.1, k.1.2, k.2.2.2⟩
set_option maxRecDepth 100000 in
set_option maxHeartbeats 1000000 in
theorem sane8_b (r : Rw) (A : Option Addr) (c : Nat) (w : World) (hin : InC w A c r.cs) (hok : RwOk r) : Calls Try.prog 21 #[.agg #[.slice A r.cs.length c, .bool r.wrap, .int .i64 r.dir, .bool r.ex]] w fun e w' => e = .returned (.bool (decide (SaneR r))) ∧ Below w.heap.size w w' := by
  obtain ⟨l, y1, y2, y3⟩ := r
  obtain ⟨hd, hcs⟩ := hok
  have hlen := hin.len
  unfold maxLen at hlen
  simp only at hin hd hcs hlen ⊢
  have hY : Box (w.alloc (.cells #[.slice A l.length c, .bool y1, .int .i64 y2, .bool y3] 35)) w.heap.size 35 #[.slice A l.length c, .bool y1, .int .i64 y2, .bool y3] := Box.new w _ _
  have hb : Below w.heap.size w (w.alloc (.cells #[.slice A l.length c, .bool y1, .int .i64 y2, .bool y3] 35)) := (Below.refl _ _).alloc (Nat.le_refl _) _
  have hs : (w.alloc (.cells #[.slice A l.length c, .bool y1, .int .i64 y2, .bool y3] 35)).heap.size = w.heap.size + 1 := by simp
  generalize hR : decide (SaneR ⟨l, y1, y2, y3⟩) = R
  have HR := Lib.hid hR
  have HC := Lib.hid hcs
  have HI0 := Lib.hid hin
  have hw8 := fun V => width8_c (l.length : Int) V (by unfold I64; omega)
  have HLE : Hid (¬ (1 ≤ l.length ∧ l.length ≤ 4096 ∧ 0 ≤ y2 ∧ y2 ≤ 2) → R = false) := Lib.hid fun h => by rw [← HR.out]; exact sane_len h
  have hcap := hin.cap
  have hmax := hin.max
  have hk0 := hY.cell 0
  have hk2 := hY.cell 2
  have HYB := Lib.hid (And.intro hY (And.intro hb hs))
  have hszl : w.heap.size < (w.alloc (.cells #[.slice A l.length c, .bool y1, .int .i64 y2, .bool y3] 35)).heap.size := by omega
  clear hR hcs hin hY hb hs hk0 hk2
  by_cases hlen1 : 1 ≤ l.length ∧ l.length ≤ 4096
  · have hmx : max 1 (min (l.length : Int) 4096) = (l.length : Int) := by omega
    rw [hmx] at hw8
    have hne : ((l.length : Int) != (l.length : Int)) = false := by simp
    have HW := Lib.hid hw8
    clear hw8 hmx
    go_enter Try.func21, Try.ntmps21
    go_upto_region 1 with fail
    generalize w.alloc (.cells #[.slice A l.length c, .bool y1, .int .i64 y2, .bool y3] 35) = W at *
    have m0 := Ext.cell (w := W) (B := W.heap.size) (p := ⟨w.heap.size, 0, none⟩) hszl (HYB.out.1.cell 0)
    have m2 := Ext.cell (w := W) (B := W.heap.size) (p := ⟨w.heap.size, 2, none⟩) hszl (HYB.out.1.cell 2)
    rcases (show y2 < 0 ∨ (0 ≤ y2 ∧ 2 < y2) ∨ (0 ≤ y2 ∧ y2 ≤ 2) by omega) with k | ⟨k, k'⟩ | ⟨k, k'⟩
    · have HS := Lib.hid (HLE.out (by omega))
      have zd : decide (y2 < 0) = true := decide_eq_true k
      refine region_plan [([0, 1, 2, 3, 4, 5], [6]), ([7, 8, 9, 10, 11, 12, 13, 14, 15, 16, 17], [])] (fun w' => ∃ u : Ext W W.heap.size, w' = u.val) (by kernel_rfl) (by kernel_rfl) (fun _ _ _ _ _ h => h) ⟨⟨_, (Below.refl _ _).drew⟩, rfl⟩ ?_
      simp only [wpPlan, sel, List.take_succ_cons, List.take_zero, List.drop_succ_cons, List.drop_zero, List.cons_append, List.nil_append]
      repeat (go_big_quiet_step (fail))
      refine wpQuiet_nil ?_
      unfold wpChain
      go_wp2_with fail
      refine (HW.out _).mono ?_
      rintro e v1 ⟨rfl, rfl⟩
      go_wp2_with fail
      refine ⟨⟨⟨_, (Below.refl _ _).drew⟩, rfl⟩, ?_⟩
      unfold wpChain
      repeat (go_big_quiet_step (fail))
      refine wpQuiet_nil ?_
      unfold wpChain
      go_wp2_with fail
      go_ret
      exact ⟨ret_bool HS.out.symm, HYB.out.2.1.drew⟩
    · have HS := Lib.hid (HLE.out (by omega))
      have zd : decide (y2 < 0) = false := decide_eq_false (by omega)
      refine region_plan [([0, 1, 2, 3, 4, 5], [6]), ([7, 8, 9, 10, 11, 12, 13, 14, 15, 16, 17], [])] (fun w' => ∃ u : Ext W W.heap.size, w' = u.val) (by kernel_rfl) (by kernel_rfl) (fun _ _ _ _ _ h => h) ⟨⟨_, (Below.refl _ _).drew⟩, rfl⟩ ?_
      simp only [wpPlan, sel, List.take_succ_cons, List.take_zero, List.drop_succ_cons, List.drop_zero, List.cons_append, List.nil_append]
      repeat (go_big_quiet_step (fail))
      refine wpQuiet_nil ?_
      unfold wpChain
      go_wp2_with fail
      refine (HW.out _).mono ?_
      rintro e v1 ⟨rfl, rfl⟩
      go_wp2_with fail
      refine ⟨⟨⟨_, (Below.refl _ _).drew⟩, rfl⟩, ?_⟩
      unfold wpChain
      repeat (go_big_quiet_step (fail))
      refine wpQuiet_nil ?_
      unfold wpChain
      go_wp2_with fail
      go_ret
      exact ⟨ret_bool HS.out.symm, HYB.out.2.1.drew⟩
    · have zd : decide (y2 < 0) = false := decide_eq_false (by omega)
      have HTL : Hid (R = true ↔ ∀ j y, l[j]? = some y → OneC y ∧ ¬ BadAt l j) := Lib.hid (by
        rw [← HR.out, decide_eq_true_iff]
        refine ⟨fun h j y hy => ⟨h.one hy, h.good j⟩, fun h => ⟨hlen1, fun x hx => ?_, ?_, k, k'⟩⟩
        · obtain ⟨j, hj, rfl⟩ := List.getElem_of_mem hx
          exact (h j _ (List.getElem?_eq_getElem hj)).1
        · simp only
          rw [mend_same]
          intro j hb
          obtain ⟨y, hy⟩ : ∃ y, l[j]? = some y := ⟨_, List.getElem?_eq_getElem (bad_lt hb)⟩
          exact (h j y hy).2 hb)
      refine region_plan [([0, 1, 2, 3, 4, 5], [6]), ([7, 8, 9, 10, 11, 12, 13, 14, 15, 16, 17], [])] (fun w' => ∃ u : Ext W W.heap.size, w' = u.val) (by kernel_rfl) (by kernel_rfl) (fun _ _ _ _ _ h => h) ⟨⟨_, (Below.refl _ _).drew⟩, rfl⟩ ?_
      simp only [wpPlan, sel, List.take_succ_cons, List.take_zero, List.drop_succ_cons, List.drop_zero, List.cons_append, List.nil_append]
      repeat (go_big_quiet_step (fail))
      refine wpQuiet_nil ?_
      unfold wpChain
      go_wp2_with fail
      refine (HW.out _).mono ?_
      rintro e v1 ⟨rfl, rfl⟩
      go_wp2_with fail
      refine ⟨⟨⟨_, (Below.refl _ _).drew⟩, rfl⟩, ?_⟩
      unfold wpChain
      repeat (go_big_quiet_step (fail))
      refine wpQuiet_nil ?_
      unfold wpChain
      go_upto_region 4 with fail
      have hM0 : SnM w (W.alloc (.cells #[.int .i64 0, .int .i64 0, .int .i64 0] 31)).drew l A c y1 y2 y3 zeroN 0 := by
        have hs := HYB.out.2.2
        have h2 := Box.new W 31 #[.int .i64 0, .int .i64 0, .int .i64 0]
        rw [hs] at h2
        refine ⟨(HYB.out.1.alloc _).drew, h2.drew, (HYB.out.2.1.alloc (by omega) _).drew, zeroN_sane, fun k y h => absurd h (Nat.not_lt_zero _)⟩
      have HM0 := Lib.hid hM0
      have hsz := HYB.out.2.2
      have hk0 : (W.alloc (.cells #[.int .i64 0, .int .i64 0, .int .i64 0] 31)).cell? ⟨w.heap.size, 0, none⟩ = some (.slice A l.length c) := HM0.out.b1.cell 0
      rw [hsz]
      clear hM0 m0 m2 HW zd hne hszl k k' HYB hsz
      generalize (W.alloc (.cells #[.int .i64 0, .int .i64 0, .int .i64 0] 31)) = W1 at *
      go_wp2_with fail
      go_loopw [27] (fun u27 wr => ∃ (i : Nat) (p : Pn), i ≤ l.length ∧ u27 = .int .i64 (i : Int) ∧ Hid (SnM w wr l A c y1 y2 y3 p i)) (fun u27 _ => l.length - (intOf u27).toNat)
      case atStart => exact ⟨0, zeroN, Nat.zero_le _, rfl, HM0⟩
      case round =>
        obtain ⟨i, p, hi, rfl, HM⟩ := hrel
        clear HM0 hk0
        by_cases hlt : i < l.length
        · have z1 : (i : Int) < (l.length : Int) := by omega
          obtain ⟨x, hx⟩ : ∃ x, l[i]? = some x := ⟨_, List.getElem?_eq_getElem hlt⟩
          obtain ⟨g, o, rfl, gB, p0, p1, p2, p3, p4, p5, p6⟩ := (HI0.out.on HM.out.bl).at_ hx
          have k0 : wr.cell? ⟨w.heap.size, 0, none⟩ = some (.slice (some ⟨g, o, none⟩) l.length c) := HM.out.b1.cell 0
          have hpok : PnOk x.pen := (HC.out x (List.mem_of_getElem? hx)).2.2.2.2
          have HX := Lib.hid hx
          have n4 := Ext.cell (w := wr) (B := wr.heap.size) (p := ⟨g, o + i * 7 + 4, none⟩) gB p4
          have n5 := Ext.cell (w := wr) (B := wr.heap.size) (p := ⟨g, o + i * 7 + 5, none⟩) gB p5
          have n6 := Ext.cell (w := wr) (B := wr.heap.size) (p := ⟨g, o + i * 7 + 6, none⟩) gB p6
          have q0 := Ext.cell (w := wr) (B := wr.heap.size) (p := ⟨w.heap.size + 1, 0, none⟩) HM.out.b2.lt (HM.out.b2.cell 0)
          have q1 := Ext.cell (w := wr) (B := wr.heap.size) (p := ⟨w.heap.size + 1, 1, none⟩) HM.out.b2.lt (HM.out.b2.cell 1)
          have q2 := Ext.cell (w := wr) (B := wr.heap.size) (p := ⟨w.heap.size + 1, 2, none⟩) HM.out.b2.lt (HM.out.b2.cell 2)
          have hpn := fun V => pen_neq x.pen p V
          clear hx p0 p1 p2 p3 p4 p5 p6
          go_upto_region 8 with fail
          by_cases hpe : x.pen = p
          · have HSN : Hid (SaneN x.pen) := Lib.hid (by rw [hpe]; exact HM.out.sn)
            rw [decide_eq_true hpe] at hpn
            clear hpe
            refine region_plan [([0, 1, 2, 3, 4, 5, 6, 7, 8, 9, 10], [11]), ([12, 13], [])] (fun w' => ∃ u : Ext wr wr.heap.size, w' = u.val) (by kernel_rfl) (by kernel_rfl) (fun _ _ _ _ _ h => h) ⟨⟨_, (Below.refl _ _).drew⟩, rfl⟩ ?_
            simp only [wpPlan, sel, List.take_succ_cons, List.take_zero, List.drop_succ_cons, List.drop_zero, List.cons_append, List.nil_append]
            repeat (go_big_quiet_step (fail))
            refine wpQuiet_nil ?_
            unfold wpChain
            refine ⟨⟨⟨_, (Below.refl _ _).drew⟩, rfl⟩, ?_⟩
            unfold wpChain
            simp only [Act.put, List.setIfInBounds_toArray, List.set_cons_succ, List.set_cons_zero]
            repeat (go_big_quiet_step (fail))
            refine wpQuiet_nil ?_
            unfold wpChain
            have HM1 : Hid (SnM w wr.drew l (some ⟨g, o, none⟩) c y1 y2 y3 p i) := Lib.hid (HM.out.on (Below.refl _ _).drew)
            go_upto_region 10 with fail
            generalize wr.drew = V1 at *
            clear n4 n5 n6 q0 q1 q2 hpn k0 HM
            obtain ⟨f0, f1, f2⟩ : V1.frozen? ⟨w.heap.size + 1, 0, none⟩ = false ∧ V1.frozen? ⟨w.heap.size + 1, 1, none⟩ = false ∧ V1.frozen? ⟨w.heap.size + 1, 2, none⟩ = false := ⟨HM1.out.b2.free 0, HM1.out.b2.free 1, HM1.out.b2.free 2⟩
            obtain ⟨j0, j1, j2⟩ : V1.cell? ⟨w.heap.size + 1, 0, none⟩ = some (.int .i64 p.fg) ∧ V1.cell? ⟨w.heap.size + 1, 1, none⟩ = some (.int .i64 p.bg) ∧ V1.cell? ⟨w.heap.size + 1, 2, none⟩ = some (.int .i64 p.fl) := ⟨HM1.out.b2.cell 0, HM1.out.b2.cell 1, HM1.out.b2.cell 2⟩
            obtain ⟨g', o', eA, -, -, -, -, -, p4, p5, p6⟩ := (HI0.out.on HM1.out.bl).at_ HX.out
            injection eA with eA
            injection eA with eA1 eA2
            subst eA1; subst eA2
            go_upto_region 11 with fail
            have HM2 := Lib.hid (HM1.out.put x.pen HSN.out)
            clear f0 f1 f2 j0 j1 j2 p4 p5 p6 HM1
            generalize ((V1.setCell ⟨w.heap.size + 1, 0, none⟩ (.int .i64 x.pen.fg)).setCell ⟨w.heap.size + 1, 1, none⟩ (.int .i64 x.pen.bg)).setCell ⟨w.heap.size + 1, 2, none⟩ (.int .i64 x.pen.fl) = V2 at *
            obtain ⟨g', o', eA, -, p0, p1, p2, p3, -, -, -⟩ := (HI0.out.on HM2.out.bl).at_ HX.out
            injection eA with eA
            injection eA with eA1 eA2
            subst eA1; subst eA2
            have hmay := may8_c x g (o + i * 7) V2 p0 p1 p2 p3
            have htorn := torn8_c (some ⟨g, o, none⟩) c l i V2 (HI0.out.on HM2.out.bl) hlt
            have k0 : V2.cell? ⟨w.heap.size, 0, none⟩ = some (.slice (some ⟨g, o, none⟩) l.length c) := HM2.out.b1.cell 0
            clear p0 p1 p2 p3
            cases hm : decide (MayC x) with
            | false =>
              rw [hm] at hmay
              have HS : Hid (R = false) := Lib.hid (by
                cases hr : R with
                | false => rfl
                | true => exact absurd (one_may.1 (HTL.out.1 hr i x HX.out).1).2 (of_decide_eq_false hm))
              clear hm htorn
              go_wp2_with fail
              refine hmay.mono ?_
              rintro e w' ⟨rfl, rfl⟩
              clear hmay
              go_wp2_with fail
              go_ret
              exact ⟨ret_bool HS.out.symm, HM2.out.bl⟩
            | true =>
              rw [hm] at hmay
              have HMY : Hid (MayC x) := Lib.hid (of_decide_eq_true hm)
              clear hm
              cases ht : decide (BadAt l i) with
              | true =>
                rw [ht] at htorn
                have HS : Hid (R = false) := Lib.hid (by
                  cases hr : R with
                  | false => rfl
                  | true => exact absurd (of_decide_eq_true ht) (HTL.out.1 hr i x HX.out).2)
                clear ht
                go_wp2_with fail
                refine hmay.mono ?_
                rintro e w' ⟨rfl, rfl⟩
                clear hmay
                go_wp2_with fail
                refine htorn.mono ?_
                rintro e w' ⟨rfl, rfl⟩
                clear htorn
                go_wp2_with fail
                go_ret
                exact ⟨ret_bool HS.out.symm, HM2.out.bl⟩
              | false =>
                rw [ht] at htorn
                have HM3 : Hid (SnM w V2 l (some ⟨g, o, none⟩) c y1 y2 y3 x.pen (i + 1)) := Lib.hid ⟨HM2.out.b1, HM2.out.b2, HM2.out.bl, HSN.out, fun k y hk hy => by
                  rcases Nat.lt_succ_iff_lt_or_eq.1 hk with h | h
                  · exact HM2.out.all k y h hy
                  · subst h
                    have e := HX.out.symm.trans hy
                    injection e with e
                    subst e
                    exact ⟨one_may.2 ⟨HSN.out, HMY.out⟩, of_decide_eq_false ht⟩⟩
                clear ht
                go_wp2_with fail
                refine hmay.mono ?_
                rintro e w' ⟨rfl, rfl⟩
                clear hmay
                go_wp2_with fail
                refine htorn.mono ?_
                rintro e w' ⟨rfl, rfl⟩
                clear htorn
                go_wp2_with fail
                exact ⟨⟨i + 1, x.pen, by omega, by go_num, HM3⟩, by simp [intOf]; omega⟩
          · rw [decide_eq_false hpe] at hpn
            have hsn := fun V => sane7_c x.pen V hpok
            cases hsd : decide (SaneN x.pen) with
            | true =>
              rw [hsd] at hsn
              have HSN : Hid (SaneN x.pen) := Lib.hid (of_decide_eq_true hsd)
              clear hpe hsd
              refine region_plan [([0, 1, 2, 3, 4, 5, 6, 7, 8, 9, 10], [11]), ([12, 13], [])] (fun w' => ∃ u : Ext wr wr.heap.size, w' = u.val) (by kernel_rfl) (by kernel_rfl) (fun _ _ _ _ _ h => h) ⟨⟨_, (Below.refl _ _).drew⟩, rfl⟩ ?_
              simp only [wpPlan, sel, List.take_succ_cons, List.take_zero, List.drop_succ_cons, List.drop_zero, List.cons_append, List.nil_append]
              repeat (go_big_quiet_step (fail))
              refine wpQuiet_nil ?_
              unfold wpChain
              go_wp2_with fail
              refine (hsn _).mono ?_
              rintro e v1 ⟨rfl, hv1⟩
              have hv2 : Below wr.heap.size wr v1 := (Below.refl wr.heap.size wr).drew.trans hv1
              have HM1 : Hid (SnM w v1 l (some ⟨g, o, none⟩) c y1 y2 y3 p i) := Lib.hid (HM.out.on hv2)
              have HV2 := Lib.hid hv2
              clear hv1 hv2 hsn
              go_wp2_with fail
              refine ⟨⟨⟨_, HV2.out⟩, rfl⟩, ?_⟩
              unfold wpChain
              repeat (go_big_quiet_step (fail))
              refine wpQuiet_nil ?_
              unfold wpChain
              go_upto_region 10 with fail
              clear HV2
              generalize v1 = V1 at *
              clear n4 n5 n6 q0 q1 q2 hpn k0 HM
              obtain ⟨f0, f1, f2⟩ : V1.frozen? ⟨w.heap.size + 1, 0, none⟩ = false ∧ V1.frozen? ⟨w.heap.size + 1, 1, none⟩ = false ∧ V1.frozen? ⟨w.heap.size + 1, 2, none⟩ = false := ⟨HM1.out.b2.free 0, HM1.out.b2.free 1, HM1.out.b2.free 2⟩
              obtain ⟨j0, j1, j2⟩ : V1.cell? ⟨w.heap.size + 1, 0, none⟩ = some (.int .i64 p.fg) ∧ V1.cell? ⟨w.heap.size + 1, 1, none⟩ = some (.int .i64 p.bg) ∧ V1.cell? ⟨w.heap.size + 1, 2, none⟩ = some (.int .i64 p.fl) := ⟨HM1.out.b2.cell 0, HM1.out.b2.cell 1, HM1.out.b2.cell 2⟩
              obtain ⟨g', o', eA, -, -, -, -, -, p4, p5, p6⟩ := (HI0.out.on HM1.out.bl).at_ HX.out
              injection eA with eA
              injection eA with eA1 eA2
              subst eA1; subst eA2
              go_upto_region 11 with fail
              have HM2 := Lib.hid (HM1.out.put x.pen HSN.out)
              clear f0 f1 f2 j0 j1 j2 p4 p5 p6 HM1
              generalize ((V1.setCell ⟨w.heap.size + 1, 0, none⟩ (.int .i64 x.pen.fg)).setCell ⟨w.heap.size + 1, 1, none⟩ (.int .i64 x.pen.bg)).setCell ⟨w.heap.size + 1, 2, none⟩ (.int .i64 x.pen.fl) = V2 at *
              obtain ⟨g', o', eA, -, p0, p1, p2, p3, -, -, -⟩ := (HI0.out.on HM2.out.bl).at_ HX.out
              injection eA with eA
              injection eA with eA1 eA2
              subst eA1; subst eA2
              have hmay := may8_c x g (o + i * 7) V2 p0 p1 p2 p3
              have htorn := torn8_c (some ⟨g, o, none⟩) c l i V2 (HI0.out.on HM2.out.bl) hlt
              have k0 : V2.cell? ⟨w.heap.size, 0, none⟩ = some (.slice (some ⟨g, o, none⟩) l.length c) := HM2.out.b1.cell 0
              clear p0 p1 p2 p3
              cases hm : decide (MayC x) with
              | false =>
                rw [hm] at hmay
                have HS : Hid (R = false) := Lib.hid (by
                  cases hr : R with
                  | false => rfl
                  | true => exact absurd (one_may.1 (HTL.out.1 hr i x HX.out).1).2 (of_decide_eq_false hm))
                clear hm htorn
                go_wp2_with fail
                refine hmay.mono ?_
                rintro e w' ⟨rfl, rfl⟩
                clear hmay
                go_wp2_with fail
                go_ret
                exact ⟨ret_bool HS.out.symm, HM2.out.bl⟩
              | true =>
                rw [hm] at hmay
                have HMY : Hid (MayC x) := Lib.hid (of_decide_eq_true hm)
                clear hm
                cases ht : decide (BadAt l i) with
                | true =>
                  rw [ht] at htorn
                  have HS : Hid (R = false) := Lib.hid (by
                    cases hr : R with
                    | false => rfl
                    | true => exact absurd (of_decide_eq_true ht) (HTL.out.1 hr i x HX.out).2)
                  clear ht
                  go_wp2_with fail
                  refine hmay.mono ?_
                  rintro e w' ⟨rfl, rfl⟩
                  clear hmay
                  go_wp2_with fail
                  refine htorn.mono ?_
                  rintro e w' ⟨rfl, rfl⟩
                  clear htorn
                  go_wp2_with fail
                  go_ret
                  exact ⟨ret_bool HS.out.symm, HM2.out.bl⟩
                | false =>
                  rw [ht] at htorn
                  have HM3 : Hid (SnM w V2 l (some ⟨g, o, none⟩) c y1 y2 y3 x.pen (i + 1)) := Lib.hid ⟨HM2.out.b1, HM2.out.b2, HM2.out.bl, HSN.out, fun k y hk hy => by
                    rcases Nat.lt_succ_iff_lt_or_eq.1 hk with h | h
                    · exact HM2.out.all k y h hy
                    · subst h
                      have e := HX.out.symm.trans hy
                      injection e with e
                      subst e
                      exact ⟨one_may.2 ⟨HSN.out, HMY.out⟩, of_decide_eq_false ht⟩⟩
                  clear ht
                  go_wp2_with fail
                  refine hmay.mono ?_
                  rintro e w' ⟨rfl, rfl⟩
                  clear hmay
                  go_wp2_with fail
                  refine htorn.mono ?_
                  rintro e w' ⟨rfl, rfl⟩
                  clear htorn
                  go_wp2_with fail
                  exact ⟨⟨i + 1, x.pen, by omega, by go_num, HM3⟩, by simp [intOf]; omega⟩
            | false =>
              rw [hsd] at hsn
              have HS : Hid (R = false) := Lib.hid (by
                cases hr : R with
                | false => rfl
                | true => exact absurd (one_may.1 (HTL.out.1 hr i x HX.out).1).1 (of_decide_eq_false hsd))
              clear hpe hsd
              refine region_plan [([0, 1, 2, 3, 4, 5, 6, 7, 8, 9, 10], [11]), ([12, 13], [])] (fun w' => ∃ u : Ext wr wr.heap.size, w' = u.val) (by kernel_rfl) (by kernel_rfl) (fun _ _ _ _ _ h => h) ⟨⟨_, (Below.refl _ _).drew⟩, rfl⟩ ?_
              simp only [wpPlan, sel, List.take_succ_cons, List.take_zero, List.drop_succ_cons, List.drop_zero, List.cons_append, List.nil_append]
              repeat (go_big_quiet_step (fail))
              refine wpQuiet_nil ?_
              unfold wpChain
              go_wp2_with fail
              refine (hsn _).mono ?_
              rintro e v1 ⟨rfl, hv1⟩
              have hv2 : Below wr.heap.size wr v1 := (Below.refl wr.heap.size wr).drew.trans hv1
              have HV2 := Lib.hid hv2
              clear hv1 hv2 hsn
              go_wp2_with fail
              refine ⟨⟨⟨_, HV2.out⟩, rfl⟩, ?_⟩
              unfold wpChain
              repeat (go_big_quiet_step (fail))
              refine wpQuiet_nil ?_
              unfold wpChain
              go_wp2_with fail
              go_ret
              exact ⟨ret_bool HS.out.symm, HM.out.bl.trans (HV2.out.mono HM.out.bl.size)⟩
        · obtain rfl : i = l.length := by omega
          have z1 : ¬ (l.length : Int) < (l.length : Int) := by omega
          have HS : Hid (R = true) := Lib.hid (HTL.out.2 fun j y hy => HM.out.all j y (List.getElem?_eq_some_iff.1 hy).1 hy)
          go_wp2_with fail
          go_ret
          exact ⟨ret_bool HS.out.symm, HM.out.bl⟩
  · have hne : ((l.length : Int) != max 1 (min (l.length : Int) 4096)) = true := bne_iff_ne.2 (by omega)
    have HS := Lib.hid (HLE.out (by omega))
    generalize max 1 (min (l.length : Int) 4096) = mx at *
    have HW := Lib.hid hw8
    clear hw8 hlen1
    go_enter Try.func21, Try.ntmps21
    go_upto_region 1 with fail
    generalize w.alloc (.cells #[.slice A l.length c, .bool y1, .int .i64 y2, .bool y3] 35) = W at *
    have m0 := Ext.cell (w := W) (B := W.heap.size) (p := ⟨w.heap.size, 0, none⟩) hszl (HYB.out.1.cell 0)
    have m2 := Ext.cell (w := W) (B := W.heap.size) (p := ⟨w.heap.size, 2, none⟩) hszl (HYB.out.1.cell 2)
    refine region_plan [([0, 1, 2, 3, 4, 5], [6]), ([7, 8, 9, 10, 11, 12, 13, 14, 15, 16, 17], [])] (fun w' => ∃ u : Ext W W.heap.size, w' = u.val) (by kernel_rfl) (by kernel_rfl) (fun _ _ _ _ _ h => h) ⟨⟨_, (Below.refl _ _).drew⟩, rfl⟩ ?_
    simp only [wpPlan, sel, List.take_succ_cons, List.take_zero, List.drop_succ_cons, List.drop_zero, List.cons_append, List.nil_append]
    repeat (go_big_quiet_step (fail))
    refine wpQuiet_nil ?_
    unfold wpChain
    go_wp2_with fail
    refine (HW.out _).mono ?_
    rintro e v1 ⟨rfl, rfl⟩
    go_wp2_with fail
    refine ⟨⟨⟨_, (Below.refl _ _).drew⟩, rfl⟩, ?_⟩
    unfold wpChain
    repeat (go_big_quiet_step (fail))
    refine wpQuiet_nil ?_
    unfold wpChain
    go_wp2_with fail
    go_ret
    exact ⟨ret_bool HS.out.symm, HYB.out.2.1.drew⟩
theorem sane8_c : Sane8C := fun r A c w hin hok => sane8_b r A c w hin hok
end Go.Proofs.Ytcadbapccdclaaa
