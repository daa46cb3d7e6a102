/- Package grid, walked: rows that move. -/
import Derived.Test.YtcadbapccdclaaaGrd9c
import Derived.Test.YtcadbapccdclaaaMem09c
namespace Go.Proofs.Ytcadbapccdclaaa
open Go Go.RowKit
set_option linter.unusedVariables false
set_option linter.unusedSimpArgs false

theorem box9_2 (w : World) (o1 o2 : Obj) (t : TypeId) (cs : Array Value) : Box (((w.alloc o1).alloc o2).alloc (.cells cs t)) (w.heap.size + 2) t cs := by
  have h := Box.new ((w.alloc o1).alloc o2) t cs
  simpa using h
def GivesMv (el : List Rl) (t b : Nat) (n : Int) (B : Rw) (W : World) (e : Ending) (w' : World) : Prop := ∃ A c es, e = .returned (.agg #[.slice A (List.length es) c]) ∧ InG w' A c es ∧ (∀ i, (rws es)[i]? = movAt (rws el) t b n B i) ∧ Below W.heap.size W w' ∧ OwnG w' W.heap.size A c es ∧ (∀ x ∈ es, x ∈ el ∨ Fresh W.heap.size x)
structure MvM (w wr : World) (g d : Nat) (es : List Rl) (t b : Nat) (n : Int) (p : Pn) (B : Rw) (k : Nat) : Prop where
  own : ∃ es', OwnH wr (w.heap.size + 3) g d es' ∧ es'.length = es.length ∧ (∀ i, (rws es')[i]? = if t ≤ i ∧ i < t + k then movAt (rws es) t b n B i else (rws es)[i]?) ∧ ∀ e ∈ es', e ∈ es ∨ Fresh w.heap.size e
  bp : Box wr (w.heap.size + 1) 31 #[.int .i64 p.fg, .int .i64 p.bg, .int .i64 p.fl]
  br : Box wr (w.heap.size + 2) 26 #[.slice none 0 0]
  bl : Below w.heap.size w wr
theorem MvM.on {w wr v : World} {g d : Nat} {es : List Rl} {t b : Nat} {n : Int} {p : Pn} {B : Rw} {k : Nat} (h : MvM w wr g d es t b n p B k) (hv : Below wr.heap.size wr v) : MvM w v g d es t b n p B k := by
  obtain ⟨⟨es', h1, h2, h2'⟩, h3, h4, h5⟩ := h
  exact ⟨⟨es', h1.on hv, h2, h2'⟩, h3.below hv h3.lt, h4.below hv h4.lt, h5.trans (hv.mono h5.size)⟩
theorem MvM.put {w wr : World} {g d : Nat} {es : List Rl} {t b : Nat} {n : Int} {p : Pn} {B : Rw} {k : Nat} (h : MvM w wr g d es t b n p B k) (hi : t + k < es.length) {x : Rl} (hx : InC wr x.A x.c x.r.cs) (hf : FarG g x) (e : movAt (rws es) t b n B (t + k) = some x.r) (hfr : x ∈ es ∨ Fresh w.heap.size x) : MvM w (putG wr g (t + k) x) g d es t b n p B (k + 1) := by
  obtain ⟨⟨es', h1, h2, h2'⟩, h3, h4, h5⟩ := h
  have hb := h1.base_le
  refine ⟨⟨es'.set (t + k) x, h1.put (by omega) hx hf, by rw [List.length_set]; exact h2, fun i => ?_, fun q hq => (List.mem_or_eq_of_mem_set hq).elim (h2'.2 q) (fun k => k ▸ hfr)⟩, putG_box h3 (by omega), putG_box h4 (by omega), putG_below h5 (by omega)⟩
  rw [rws_set, List.getElem?_set]
  by_cases q : t + k = i
  · subst q
    rw [if_pos rfl, if_pos (by rw [rws_length]; omega), if_pos (by omega), e]
  · rw [if_neg q, h2'.1 i]
    by_cases q2 : t ≤ i ∧ i < t + k
    · rw [if_pos q2, if_pos (by omega)]
    · rw [if_neg q2, if_neg (by omega)]
theorem MvM.cells {w wr : World} {g d : Nat} {es : List Rl} {t b : Nat} {n : Int} {p : Pn} {B : Rw} {k : Nat} (h : MvM w wr g d es t b n p B k) {i : Nat} (hi : i < es.length) :
    ∃ u0 u1 u2 u3, (wr.frozen? ⟨g, i * 4, none⟩ = false ∧ wr.frozen? ⟨g, i * 4 + 1, none⟩ = false ∧ wr.frozen? ⟨g, i * 4 + 2, none⟩ = false ∧ wr.frozen? ⟨g, i * 4 + 3, none⟩ = false) ∧
    (wr.cell? ⟨g, i * 4, none⟩ = some u0 ∧ wr.cell? ⟨g, i * 4 + 1, none⟩ = some u1 ∧ wr.cell? ⟨g, i * 4 + 2, none⟩ = some u2 ∧ wr.cell? ⟨g, i * 4 + 3, none⟩ = some u3) := by
  obtain ⟨⟨es', h1, h2, h2'⟩, h3, h4, h5⟩ := h
  have := h1.cells (k := i) (e := es'[i]'(by omega)) (List.getElem?_eq_getElem (by omega))
  exact ⟨_, _, _, _, this.1, this.2⟩
theorem MvM.at_ {w wr : World} {g d : Nat} {es : List Rl} {t b : Nat} {n : Int} {p : Pn} {B : Rw} {k : Nat} (h : MvM w wr g d es t b n p B k) : w.heap.size + 3 ≤ g ∧ g < wr.heap.size ∧ es.length ≤ d := by
  obtain ⟨⟨es', h1, h2, h2'⟩, h3, h4, h5⟩ := h
  have := h1.own.cap
  exact ⟨h1.base_le.1, h1.base_le.2, by omega⟩
set_option maxRecDepth 100000 in
set_option maxHeartbeats 1000000 in
theorem moved9_c (A : Option Addr) (c : Nat) (es : List Rl) (t b m : Nat) (n : Int) (p : Pn) (w : World) (hin : InG w A c es) (hS : SaneG (rws es)) (hm : b = t + m) (h2 : b ≤ es.length) (hn1 : -(m : Int) ≤ n) (hn2 : n ≤ m) (hp : PnOk p) :
    Calls Try.prog 25 #[.agg #[.slice A es.length c], .int .i64 (t : Int), .int .i64 (b : Int), .int .i64 n, .agg #[.int .i64 p.fg, .int .i64 p.bg, .int .i64 p.fl]] w (GivesMv es t b n (newR (widthG (rws es)) p) w) := by
  have hlen : 1 ≤ es.length ∧ es.length ≤ 1000 := by have := hS.1; rw [rws_length] at this; exact this
  obtain ⟨PB, pd, hcut, hpart, hpl⟩ := hin.cut (a := t) (b := b) (by omega) h2
  rw [show b - t = m from by omega] at hcut hpl
  have hpat : ∀ f, f < m → ((es.take b).drop t)[f]? = es[t + f]? := fun f hf => by rw [List.getElem?_drop, List.getElem?_take, if_pos (by omega)]
  generalize (es.take b).drop t = part at *
  have hrn := fun V => new8_o (widthG (rws es)) p V (by unfold I64; have := hS.width; omega) hp
  rw [show pnV p = .agg #[.int .i64 p.fg, .int .i64 p.bg, .int .i64 p.fl] from rfl] at hrn
  have hwid : ∀ (k : Nat) e, es[k]? = some e → e.r.cs.length = widthG (rws es) := fun k e he => (hS.row (rws_at he)).2
  generalize widthG (rws es) = wd at *
  generalize newR wd p = B at *
  have hcl := fun V (hV : Below w.heap.size w V) => clone9_c A c es es.length rfl (by omega) V (hin.on hV).rows
  have hbl : Below w.heap.size w (((w.alloc (.cells #[.slice A es.length c] 26)).alloc (.cells #[.int .i64 p.fg, .int .i64 p.bg, .int .i64 p.fl] 31)).alloc (.cells #[.slice none 0 0] 26)) := (((Below.refl _ _).alloc (Nat.le_refl _) _).alloc (by simp) _).alloc (by simp; omega) _
  have hX : Box (((w.alloc (.cells #[.slice A es.length c] 26)).alloc (.cells #[.int .i64 p.fg, .int .i64 p.bg, .int .i64 p.fl] 31)).alloc (.cells #[.slice none 0 0] 26)) w.heap.size 26 #[.slice A es.length c] := ((Box.new w _ _).alloc _).alloc _
  have hY : Box (((w.alloc (.cells #[.slice A es.length c] 26)).alloc (.cells #[.int .i64 p.fg, .int .i64 p.bg, .int .i64 p.fl] 31)).alloc (.cells #[.slice none 0 0] 26)) (w.heap.size + 1) 31 #[.int .i64 p.fg, .int .i64 p.bg, .int .i64 p.fl] := (box8_1 w _ _ _).alloc _
  have hZ : Box (((w.alloc (.cells #[.slice A es.length c] 26)).alloc (.cells #[.int .i64 p.fg, .int .i64 p.bg, .int .i64 p.fl] 31)).alloc (.cells #[.slice none 0 0] 26)) (w.heap.size + 2) 26 #[.slice none 0 0] := box9_2 w _ _ _ _
  have hs : (((w.alloc (.cells #[.slice A es.length c] 26)).alloc (.cells #[.int .i64 p.fg, .int .i64 p.bg, .int .i64 p.fl] 31)).alloc (.cells #[.slice none 0 0] 26)).heap.size = w.heap.size + 3 := by simp
  have HH := Lib.hid (And.intro hbl (And.intro hX (And.intro hY (And.intro hZ hs))))
  have HIN := Lib.hid hin
  have HPART := Lib.hid (And.intro hpart (And.intro hpl hpat))
  have HCL := Lib.hid hcl
  have HRN := Lib.hid hrn
  have HWID := Lib.hid hwid
  have HB := Lib.hid (And.intro hm (And.intro h2 hlen))
  have hsub : (b : Int) - (t : Int) = (m : Int) := by omega
  have hb1 : b ≤ 1000 := by omega
  have ht1 : t ≤ 1000 := by omega
  have hm1 : m ≤ 1000 := by omega
  clear hbl hX hY hZ hs hin hpart hpl hpat hcl hrn hwid hm h2 hS hp hlen
  go_enter Try.func25, Try.ntmps25
  go_upto_region 1 with fail
  generalize ((w.alloc (.cells #[.slice A es.length c] 26)).alloc (.cells #[.int .i64 p.fg, .int .i64 p.bg, .int .i64 p.fl] 31)).alloc (.cells #[.slice none 0 0] 26) = W at *
  have k0 : W.cell? ⟨w.heap.size, 0, none⟩ = some (.slice A es.length c) := HH.out.2.1.cell 0
  go_wp2_with fail
  refine (HCL.out _ HH.out.1).mono ?_
  rintro e v1 ⟨C, d, rfl, hC, hv1⟩
  obtain ⟨g, rfl, hg, hgv, -⟩ := hC.at_ (by intro h0; have := HB.out.2.2.1; rw [h0] at this; simp at this)
  have hs := HH.out.2.2.2.2
  have hbg : Box v1 w.heap.size 26 #[.slice A es.length c] := HH.out.2.1.below hv1 HH.out.2.1.lt
  have HM0 : Hid (MvM w v1 g d es t b n p B 0) := Lib.hid ⟨⟨es, ⟨hC.le (by omega), fun e he => ⟨(HIN.out.els e he).on (HH.out.1.trans (hv1.mono HH.out.1.size)), FarG.old (HIN.out.els e he) (by omega)⟩⟩, rfl, fun i => by rw [if_neg (by omega)], fun q hq => .inl hq⟩, HH.out.2.2.1.below hv1 HH.out.2.2.1.lt, HH.out.2.2.2.1.below hv1 HH.out.2.2.2.1.lt, HH.out.1.trans (hv1.mono HH.out.1.size)⟩
  have k1 : v1.cell? ⟨w.heap.size, 0, none⟩ = some (.slice A es.length c) := hbg.cell 0
  clear hv1 hC hg hgv hs hbg HH HCL k0
  have HSUB := Lib.hid hsub
  go_upto_region 4 with fail
  clear hsub k1 hcut
  go_wp2_with fail
  go_loopw [26] (fun u26 wr => ∃ k : Nat, k ≤ m ∧ u26 = .int .i64 (k : Int) ∧ Hid (MvM w wr g d es t b n p B k)) (fun u26 _ => m - (intOf u26).toNat)
  case atStart => exact ⟨0, Nat.zero_le _, rfl, HM0⟩
  case round =>
    obtain ⟨k, hk, rfl, HM⟩ := hrel
    clear HM0
    by_cases hlt : k < m
    · have z1 : (k : Int) < (m : Int) := by omega
      have htk : t + k < es.length := by have := HB.out; omega
      obtain ⟨hg3, hgw, hd⟩ := HM.out.at_
      by_cases hc : 0 ≤ (k : Int) + n ∧ (k : Int) + n < m
      · obtain ⟨f, hf⟩ : ∃ f : Nat, (k : Int) + n = (f : Int) := ⟨((k : Int) + n).toNat, by omega⟩
        have hfm : f < m := by omega
        obtain ⟨x, hx⟩ : ∃ x, part[f]? = some x := ⟨_, List.getElem?_eq_getElem (by rw [HPART.out.2.1]; exact hfm)⟩
        have hex : es[t + f]? = some x := by rw [← HPART.out.2.2 f hfm]; exact hx
        have hmv : movAt (rws es) t b n B (t + k) = some x.r := by
          have := HB.out.1
          unfold movAt
          rw [if_neg (by omega), if_pos (by omega), if_pos (by omega), show (((t + k : Nat) : Int) + n).toNat = t + f from by omega]
          exact rws_at hex
        have hxin := (HIN.out.els x (List.mem_of_getElem? hex)).on HM.out.bl
        have hxf : FarG g x := FarG.old (HIN.out.els x (List.mem_of_getElem? hex)) (by omega)
        have HPUT := Lib.hid (HM.out.put htk hxin hxf hmv (.inl (List.mem_of_getElem? hex)))
        obtain ⟨u0, u1, u2, u3, ⟨f0, f1, f2, f3⟩, m0, m1, m2, m3⟩ := HM.out.cells htk
        obtain ⟨pb, po, rfl, hpB, p0, p1, p2, p3⟩ := HPART.out.1.rows.at_ hx
        have hb0 := HM.out.bl
        replace p0 := (hb0.cell (by exact hpB)).trans p0
        replace p1 := (hb0.cell (by exact hpB)).trans p1
        replace p2 := (hb0.cell (by exact hpB)).trans p2
        replace p3 := (hb0.cell (by exact hpB)).trans p3
        have hpc := HPART.out.1.rows.cap
        rw [HPART.out.2.1] at hpc
        clear hx hex hmv hxin hxf hb0 hpB HM
        go_wp2_with fail
        exact ⟨⟨k + 1, by omega, by go_num, HPUT⟩, by simp [intOf]; omega⟩
      · obtain ⟨x, hx⟩ : ∃ x, part[k]? = some x := ⟨_, List.getElem?_eq_getElem (by rw [HPART.out.2.1]; exact hlt)⟩
        have hex : es[t + k]? = some x := by rw [← HPART.out.2.2 k hlt]; exact hx
        have hwx := HWID.out _ _ hex
        have hmv : movAt (rws es) t b n B (t + k) = some B := by
          have := HB.out.1
          unfold movAt
          rw [if_neg (by omega), if_pos (by omega), if_neg (by omega)]
        obtain ⟨pb, po, rfl, hpB, p0, -, -, -⟩ := HPART.out.1.rows.at_ hx
        rw [hwx] at p0
        replace p0 := (HM.out.bl.cell (by exact hpB)).trans p0
        have hpc := HPART.out.1.rows.cap
        rw [HPART.out.2.1] at hpc
        have m0 := Ext.cell (w := wr) (B := g) (p := ⟨pb, po + k * 4, none⟩) (by show pb < g; omega) p0
        have n0 := Ext.cell (w := wr) (B := g) (p := ⟨w.heap.size + 1, 0, none⟩) (by show w.heap.size + 1 < g; omega) (HM.out.bp.cell 0)
        have n1 := Ext.cell (w := wr) (B := g) (p := ⟨w.heap.size + 1, 1, none⟩) (by show w.heap.size + 1 < g; omega) (HM.out.bp.cell 1)
        have n2 := Ext.cell (w := wr) (B := g) (p := ⟨w.heap.size + 1, 2, none⟩) (by show w.heap.size + 1 < g; omega) (HM.out.bp.cell 2)
        have HMV := Lib.hid hmv
        have HHC := Lib.hid hc
        have HGW := Lib.hid hgw
        clear hx hex hwx hmv p0 hpB hc hgw
        rcases (show (k : Int) + n < 0 ∨ (0 ≤ (k : Int) + n ∧ (m : Int) ≤ (k : Int) + n) by have := HHC.out; omega) with q | ⟨q, q'⟩
        · have q1 : ¬ 0 ≤ (k : Int) + n := by omega
          go_upto_region 9 with fail
          refine region_plan [([0, 1, 2, 3, 4, 5, 6, 7, 8, 9, 10], [11]), ([12], [13])] (fun w' => ∃ u : Ext wr g, w' = u.val) (by kernel_rfl) (by kernel_rfl) (fun _ _ _ _ _ h => h) ⟨⟨_, (Below.refl _ _).drew⟩, rfl⟩ ?_
          simp only [wpPlan, sel, List.take_succ_cons, List.take_zero, List.drop_succ_cons, List.drop_zero, List.cons_append, List.nil_append]
          repeat (go_big_quiet_step (fail))
          refine wpQuiet_nil ?_
          unfold wpChain
          go_wp2_with fail
          refine (HRN.out _).mono ?_
          rintro e v1 ⟨X, xc, rfl, hX, hv1⟩
          have hv2 : Below wr.heap.size wr v1 := (Below.refl wr.heap.size wr).drew.trans hv1
          have HM1 := Lib.hid (HM.out.on hv2)
          have HV2 := Lib.hid (hv2.mono (Nat.le_of_lt HGW.out))
          have HXX : Hid (OwnC v1 wr.heap.size X xc B.cs) := Lib.hid hX
          clear hv1 hv2 hX HM
          go_wp2_with fail
          refine ⟨⟨⟨_, HV2.out⟩, rfl⟩, ?_⟩
          unfold wpChain
          repeat (go_big_quiet_step (fail))
          refine wpQuiet_nil ?_
          unfold wpChain
          obtain ⟨u0, u1, u2, u3, ⟨f0, f1, f2, f3⟩, j0, j1, j2, j3⟩ := HM1.out.cells htk
          clear m0 n0 n1 n2
          simp only [rwV_eq]
          go_wp2_with fail
          refine ⟨⟨⟨_, putG_below (x := ⟨X, xc, B⟩) (k := t + k) HV2.out (Nat.le_refl _)⟩, rfl⟩, ?_⟩
          unfold wpChain
          go_wp2_with fail
          exact ⟨⟨k + 1, by omega, by go_num, Lib.hid (HM1.out.put htk (x := ⟨X, xc, B⟩) HXX.out.in_ (FarG.own HXX.out HGW.out) HMV.out (.inr (fun _ b' o' he' => by have h9 := own_block HXX.out (g := b') (by rw [show X = some ⟨b', o', none⟩ from he']; rfl); have h8 := hg3; have h7 := HGW.out; omega)))⟩, by simp [intOf]; omega⟩
        · have q1 : ¬ (k : Int) + n < m := by omega
          go_upto_region 9 with fail
          refine region_plan [([0, 1, 2, 3, 4, 5, 6, 7, 8, 9, 10], [11]), ([12], [13])] (fun w' => ∃ u : Ext wr g, w' = u.val) (by kernel_rfl) (by kernel_rfl) (fun _ _ _ _ _ h => h) ⟨⟨_, (Below.refl _ _).drew⟩, rfl⟩ ?_
          simp only [wpPlan, sel, List.take_succ_cons, List.take_zero, List.drop_succ_cons, List.drop_zero, List.cons_append, List.nil_append]
          repeat (go_big_quiet_step (fail))
          refine wpQuiet_nil ?_
          unfold wpChain
          go_wp2_with fail
          refine (HRN.out _).mono ?_
          rintro e v1 ⟨X, xc, rfl, hX, hv1⟩
          have hv2 : Below wr.heap.size wr v1 := (Below.refl wr.heap.size wr).drew.trans hv1
          have HM1 := Lib.hid (HM.out.on hv2)
          have HV2 := Lib.hid (hv2.mono (Nat.le_of_lt HGW.out))
          have HXX : Hid (OwnC v1 wr.heap.size X xc B.cs) := Lib.hid hX
          clear hv1 hv2 hX HM
          go_wp2_with fail
          refine ⟨⟨⟨_, HV2.out⟩, rfl⟩, ?_⟩
          unfold wpChain
          repeat (go_big_quiet_step (fail))
          refine wpQuiet_nil ?_
          unfold wpChain
          obtain ⟨u0, u1, u2, u3, ⟨f0, f1, f2, f3⟩, j0, j1, j2, j3⟩ := HM1.out.cells htk
          clear m0 n0 n1 n2
          simp only [rwV_eq]
          go_wp2_with fail
          refine ⟨⟨⟨_, putG_below (x := ⟨X, xc, B⟩) (k := t + k) HV2.out (Nat.le_refl _)⟩, rfl⟩, ?_⟩
          unfold wpChain
          go_wp2_with fail
          exact ⟨⟨k + 1, by omega, by go_num, Lib.hid (HM1.out.put htk (x := ⟨X, xc, B⟩) HXX.out.in_ (FarG.own HXX.out HGW.out) HMV.out (.inr (fun _ b' o' he' => by have h9 := own_block HXX.out (g := b') (by rw [show X = some ⟨b', o', none⟩ from he']; rfl); have h8 := hg3; have h7 := HGW.out; omega)))⟩, by simp [intOf]; omega⟩
    · obtain rfl : k = m := by omega
      have z1 : ¬ (k : Int) < (k : Int) := by omega
      have f0 : wr.frozen? ⟨w.heap.size + 2, 0, none⟩ = false := HM.out.br.free 0
      have k0 : wr.cell? ⟨w.heap.size + 2, 0, none⟩ = some (.slice none 0 0) := HM.out.br.cell 0
      go_wp2_with fail
      obtain ⟨es', h1, h2, h3, h4⟩ := HM.out.own
      refine bodyPost_ret (ret9_g rfl (some ⟨g, 0, none⟩) es.length d _ _ (w.heap.size + 2) 26 rfl (HM.out.br.set_ 0 (.slice (some ⟨g, 0, none⟩) es.length d))) rfl ⟨some ⟨g, 0, none⟩, d, es', by rw [h2], h1.in_.far1 HM.out.br (by simp) 0 _, fun i => ?_, HM.out.bl.setCell (p := ⟨w.heap.size + 2, 0, none⟩) (by show w.heap.size ≤ w.heap.size + 2; omega) _, ?_, h4⟩
      · rw [h3]
        have := HB.out.1
        by_cases q : t ≤ i ∧ i < t + k
        · rw [if_pos q]
        · rw [if_neg q, mov_none (by omega)]
      · have h5 := (h1.own.le (show w.heap.size ≤ w.heap.size + 3 by omega))
        have h6 := h1.base_le.1
        unfold OwnG at h5 ⊢
        exact own_far h5 (p := ⟨w.heap.size + 2, 0, none⟩) (by simp [Value.ownBlock]; omega) _
end Go.Proofs.Ytcadbapccdclaaa
