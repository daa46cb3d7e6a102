/- GridSteps over the contracts. -/
import Derived.Test.YtcadbapccdclaaaAwake09
import Derived.Test.YtcadbapccdclaaaRef09
import Derived.Test.YtcadbapccdclaaaRefRow
import Derived.Test.YtcadbapccdclaaaBitsR
import Derived.Test.YtcadbapccdclaaaAt2
import Derived.Test.YtcadbapccdclaaaMem09c
namespace Go.Proofs.Ytcadbapccdclaaa
open Go Go.RowKit
set_option linter.unusedVariables false
set_option linter.unusedSimpArgs false

theorem and_255 (r : Int) : bits .and .i64 r 255 = r % 256 := and_low r 8 (by decide)
/-- Memory beside a row of the call's own that turns. -/
theorem InC.own1 {w w' : World} {v v' : Value} {A : Option Addr} {c : Nat} {l : List Cl} (h : InC w A c l) (ho : Own1 w w' v v') (hne : l ≠ [] → ∀ b o, A = some ⟨b, o, none⟩ → v.ownBlock ≠ some b) : InC w' A c l := by
  refine ⟨fun hl => ?_, h.cap, h.max⟩
  obtain ⟨b, o, e, hB, hc⟩ := h.rd hl
  refine ⟨b, o, e, Nat.lt_of_lt_of_le hB ho.gr.size, fun k x hx j u hu => ?_⟩
  rw [← hc k x hx j u hu]
  have := ho.gr.block b hB (fun q => hne hl b o e q.symm)
  unfold World.cell?
  simp only [this]
theorem RdG.own1 {w w' : World} {v v' : Value} {A : Option Addr} {c : Nat} {l : List Rl} (h : RdG w A c l) (ho : Own1 w w' v v') (hne : l ≠ [] → ∀ b o, A = some ⟨b, o, none⟩ → v.ownBlock ≠ some b) : RdG w' A c l := by
  refine ⟨fun hl => ?_, h.cap, h.max⟩
  obtain ⟨b, o, e, hB, hc⟩ := h.rd hl
  refine ⟨b, o, e, Nat.lt_of_lt_of_le hB ho.gr.size, fun k x hx j u hu => ?_⟩
  rw [← hc k x hx j u hu]
  have := ho.gr.block b hB (fun q => hne hl b o e q.symm)
  unfold World.cell?
  simp only [this]
/-- One by one: the grid so far, and what was told so far, in memory of its own. -/
structure Tl9 (W0 wr : World) (Ao : Option Addr) (co : Nat) (eo : List Rl) (Bt : Option Addr) (dt : Nat) (et : List Rl) : Prop where
  bw : Below W0.heap.size W0 wr
  bo : Box wr W0.heap.size 26 #[.slice Ao eo.length co]
  io : InG wr Ao co eo
  it : OwnG wr (W0.heap.size + 1) Bt dt et
  ie : ∀ x ∈ et, InC wr x.A x.c x.r.cs
  fo : ∀ g, (Value.slice Bt et.length dt).ownBlock = some g → (∀ b o, Ao = some ⟨b, o, none⟩ → b ≠ g) ∧ (∀ x ∈ eo, FarG g x) ∧ ∀ x ∈ et, FarG g x
theorem own_far_new {w v : World} {g : Nat} {e : Rl} (h : Fresh w.heap.size e) (hg : g < w.heap.size) : FarG g e := fun hl b o he => by
  have := h hl b o he
  omega
theorem farG_lt {v : World} {g : Nat} {e : Rl} (h : InC v e.A e.c e.r.cs) (hg : v.heap.size ≤ g) : FarG g e := FarG.old h hg
/-- A step: the grid goes up by one, what is gone is told. -/
theorem Tl9.step {W0 wr v1 va v2 v3 : World} {Ao A1 A2 Bt B' : Option Addr} {co c1 c2 dt d' : Nat} {eo e1 e2 et : List Rl} (h : Tl9 W0 wr Ao co eo Bt dt et) (hb : Below wr.heap.size wr v1)
    (hi1 : InG v1 A1 c1 e1) (hnew : NewG9 wr v1 eo e1 e2 A1 A2 c1 c2)
    (hal : Below v1.heap.size v1 va) (hv2 : v2 = va.setCell ⟨W0.heap.size, 0, none⟩ (.slice A1 e1.length c1))
    (hown : OwnG v3 (W0.heap.size + 1) B' d' (et ++ e2)) (hO : Own1 v2 v3 (.slice Bt et.length dt) (.slice B' (et ++ e2).length d')) :
    Tl9 W0 v3 A1 c1 e1 B' d' (et ++ e2) := by
  have hob := h.bo.lt
  have hb1 := hb.trans (hal.mono hb.size)
  have hbo1 := h.bo.below hb1 hob
  have hsz2 : v2.heap.size = va.heap.size := by rw [hv2]; simp
  have hbo2 : Box v2 W0.heap.size 26 #[.slice A1 e1.length c1] := by rw [hv2]; exact hbo1.set_ 0 _
  have hbw2 : Below W0.heap.size W0 v2 := by
    rw [hv2]
    exact (h.bw.trans (hb1.mono h.bw.size)).setCell (p := ⟨W0.heap.size, 0, none⟩) (Nat.le_refl _) _
  have hi2 : InG v2 A1 c1 e1 := by rw [hv2]; exact (hi1.on hal).far1 hbo1 (by simp) 0 _
  have hlt : ∀ g, (Value.slice Bt et.length dt).ownBlock = some g → W0.heap.size + 1 ≤ g ∧ g < wr.heap.size := fun g hg => own_block h.it hg
  have hsz : wr.heap.size ≤ v2.heap.size := by rw [hsz2]; exact hb1.size
  have hA1 : ∀ b o, A1 = some ⟨b, o, none⟩ → wr.heap.size ≤ b := fun b o e => (own_block hnew.1 (g := b) (by rw [e]; rfl)).1
  have hte : ∀ x ∈ et, InC v2 x.A x.c x.r.cs := fun x hx => by rw [hv2]; exact ((h.ie x hx).on hb1).far1 hbo1 (by simp) 0 _
  have hoe : ∀ x ∈ eo, InC v2 x.A x.c x.r.cs := fun x hx => by rw [hv2]; exact ((h.io.els x hx).on hb1).far1 hbo1 (by simp) 0 _
  have hfar : ∀ x ∈ e1, ∀ g, (Value.slice Bt et.length dt).ownBlock = some g → FarG g x := fun x hx g hg => by
    rcases hnew.2.1 x hx with k | k
    · exact (h.fo g hg).2.1 x k
    · exact own_far_new (v := wr) k (hlt g hg).2
  have hin2 : ∀ x ∈ et ++ e2, InC v2 x.A x.c x.r.cs ∧ ∀ g, (Value.slice Bt et.length dt).ownBlock = some g → FarG g x := fun x hx => by
    rcases List.mem_append.1 hx with k | k
    · exact ⟨hte x k, fun g hg => (h.fo g hg).2.2 x k⟩
    · have k2 := hnew.2.2.2 x k
      exact ⟨hoe x k2, fun g hg => (h.fo g hg).2.1 x k2⟩
  have hne1 : ∀ b o, A1 = some ⟨b, o, none⟩ → (Value.slice Bt et.length dt).ownBlock ≠ some b := fun b o e q => by
    have h1 := hA1 b o e
    have h2 := (hlt b q).2
    omega
  refine ⟨hbw2.trans ((hO.belowBase (base := W0.heap.size) (by omega) (fun g hg => by have := (hlt g hg).1; omega)).mono (Nat.le_refl _)), hO.box hbo2 (fun q => by have := (hlt _ q).1; omega), ⟨hi2.rows.own1 hO (fun _ b o e => hne1 b o e), fun x hx => (hi2.els x hx).own1 hO (fun hl b o e q => (hfar x hx b q) hl b o e rfl)⟩, hown, fun x hx => (hin2 x hx).1.own1 hO (fun hl b o e q => ((hin2 x hx).2 b q) hl b o e rfl), fun g hg => ?_⟩
  rcases hO.at_ with k | k
  · rw [k] at hg
    exact ⟨fun b o e q => hne1 b o e (by rw [q]; exact hg), fun x hx => hfar x hx g hg, fun x hx => (hin2 x hx).2 g hg⟩
  · have hge := k g hg
    refine ⟨fun b o e q => ?_, fun x hx => farG_lt (hi2.els x hx) hge, fun x hx => farG_lt (hin2 x hx).1 hge⟩
    have h1 := (own_block hnew.1 (g := b) (by rw [e]; rfl)).2
    have h2 : v1.heap.size ≤ v2.heap.size := by rw [hsz2]; exact hal.size
    omega
theorem Tl9.mid {W0 wr va : World} {Ao A3 A4 Bt : Option Addr} {co c3 c4 dt : Nat} {eo e3 e4 et : List Rl} (h : Tl9 W0 wr Ao co eo Bt dt et) (hb : Below wr.heap.size wr va) (h4 : InG va A4 c4 e4) (u : Value) :
    OwnG (va.setCell ⟨W0.heap.size, 0, none⟩ u) (W0.heap.size + 1) Bt dt et ∧ RdG (va.setCell ⟨W0.heap.size, 0, none⟩ u) A4 c4 e4 ∧ W0.heap.size + 1 ≤ (va.setCell ⟨W0.heap.size, 0, none⟩ u).heap.size := by
  have hbo1 := h.bo.below hb h.bo.lt
  refine ⟨?_, h4.rows.far1 hbo1 (by simp) 0 _, by have := hbo1.lt; simp; omega⟩
  have h5 := h.it.on hb
  have h6 := h5
  unfold OwnG at h5 h6 ⊢
  exact own_far h5 (p := ⟨W0.heap.size, 0, none⟩) (fun k => by have := (own_block h6 k).1; have h7 : (⟨W0.heap.size, 0, none⟩ : Addr).block = W0.heap.size := rfl; omega) _
theorem goneG_le (g : List Rw) (t b n : Int) (p : Pn) : (goneG g t b n p).length ≤ g.length := by
  unfold goneG goneL
  split
  · simp only [List.length_drop, List.length_take]; omega
  · simp
/-- The law's own variables behind the loop. -/
structure Sf9 (w V : World) (A : Option Addr) (c : Nat) (es : List Rl) (ab : Nat) (A1 : Option Addr) (c1 : Nat) (e1 : List Rl) (A2 : Option Addr) (c2 : Nat) (e2 : List Rl) (ob : Nat) (Ao : Option Addr) (co : Nat) (eo : List Rl) (Bt : Option Addr) (dt : Nat) (et : List Rl) (cb : Nat) (A5 : Option Addr) (c5 : Nat) (e5 : List Rl) (A6 : Option Addr) (c6 : Nat) (e6 : List Rl) : Prop where
  ba : Box V ab 26 #[.slice A1 e1.length c1]
  bo : Box V ob 26 #[.slice Ao eo.length co]
  bc : Box V cb 26 #[.slice A5 e5.length c5]
  il : InG V A c es
  ia : InG V A1 c1 e1
  ig : InG V A2 c2 e2
  io : InG V Ao co eo
  it : InG V Bt dt et
  ic : InG V A5 c5 e5
  ik : InG V A6 c6 e6
  bl : Below w.heap.size w V
theorem Sf9.on {w V V' : World} {A : Option Addr} {c : Nat} {es : List Rl} {ab : Nat} {A1 : Option Addr} {c1 : Nat} {e1 : List Rl} {A2 : Option Addr} {c2 : Nat} {e2 : List Rl} {ob : Nat} {Ao : Option Addr} {co : Nat} {eo : List Rl} {Bt : Option Addr} {dt : Nat} {et : List Rl} {cb : Nat} {A5 : Option Addr} {c5 : Nat} {e5 : List Rl} {A6 : Option Addr} {c6 : Nat} {e6 : List Rl} (h : Sf9 w V A c es ab A1 c1 e1 A2 c2 e2 ob Ao co eo Bt dt et cb A5 c5 e5 A6 c6 e6) (hb : Below V.heap.size V V') : Sf9 w V' A c es ab A1 c1 e1 A2 c2 e2 ob Ao co eo Bt dt et cb A5 c5 e5 A6 c6 e6 :=
  ⟨h.ba.below hb h.ba.lt, h.bo.below hb h.bo.lt, h.bc.below hb h.bc.lt, h.il.on hb, h.ia.on hb, h.ig.on hb, h.io.on hb, h.it.on hb, h.ic.on hb, h.ik.on hb, h.bl.trans (hb.mono h.bl.size)⟩
set_option maxRecDepth 100000 in
set_option maxHeartbeats 4000000 in
theorem steps_law9 (hn : New9C) (hset : Set9C) (hup : Up9O) (hsz : Size9C) (hs : Sane9C) (A : Option Addr) (c : Nat) (es : List Rl) (k1 k2 k3 : Int) (w : World) (hin : InG w A c es) (hok : RsOk (rws es)) :
    Calls Try.prog 5 #[.slice A es.length c, .int .i64 k1, .int .i64 k2, .int .i64 k3] w fun e w' => e = .returned (.bool true) ∧ Below w.heap.size w w' := by
  have hawake := awake9_c hn hset hup.c hsz hs w
  have a1 := and_65535 k1
  have a2 := and_65535 k2
  have a3 := and_65535 k3
  have a4 := and_255 k3
  have hlen := hin.rows.len
  have hcap := hin.rows.cap
  unfold maxLen at hlen
  have HIN := Lib.hid hin
  have HOK := Lib.hid hok
  clear hin hok hn hsz hset
  go_enter Try.func5, Try.ntmps5
  go_wp2_with fail
  refine hawake.mono ?_
  rintro e v1 ⟨rfl, hb1⟩
  have HE1 := Lib.hid (And.intro (HIN.out.on hb1) hb1)
  clear hawake hb1
  have hfew := few_c A c es v1 HE1.out.1
  cases hf : decide (FewR (rws es)) with
  | false =>
    rw [hf] at hfew
    clear hf
    go_wp2_with fail
    refine hfew.mono ?_
    rintro e v2 ⟨rfl, hb2⟩
    have hbl := HE1.out.2.trans (hb2.mono HE1.out.2.size)
    clear hb2 hfew
    go_wp2_with fail
    go_ret
    exact ⟨rfl, hbl⟩
  | true =>
  rw [hf] at hfew
  have HFEW := Lib.hid (of_decide_eq_true hf)
  clear hf
  go_wp2_with fail
  refine hfew.mono ?_
  rintro e v2 ⟨rfl, hb2⟩
  have HE2 := Lib.hid (And.intro (HE1.out.1.on hb2) (HE1.out.2.trans (hb2.mono HE1.out.2.size)))
  clear hb2 hfew HE1
  have h1 := hs A c es v2 HE2.out.1 HOK.out
  cases hsg : decide (SaneG (rws es)) with
  | false =>
    rw [hsg] at h1
    clear hsg
    go_wp2_with fail
    refine h1.mono ?_
    rintro e v4 ⟨rfl, hb4⟩
    have hbl := HE2.out.2.trans (hb4.mono HE2.out.2.size)
    clear hb4 h1
    go_wp2_with fail
    go_ret
    exact ⟨rfl, hbl⟩
  | true =>
  rw [hsg] at h1
  have HS := Lib.hid (of_decide_eq_true hsg)
  clear hsg
  go_wp2_with fail
  refine h1.mono ?_
  rintro e v4 ⟨rfl, hb4⟩
  have HE3 := Lib.hid (And.intro (HE2.out.1.on hb4) (HE2.out.2.trans (hb4.mono HE2.out.2.size)))
  clear hb4 h1 HE2
  go_upto_region 5 with fail
  have hal : Below v4.heap.size v4 (v4.alloc (.cells #[.slice A es.length c] 26)) := (Below.refl _ _).alloc (Nat.le_refl _) _
  have HE4 := Lib.hid (And.intro (HE3.out.1.on hal) (And.intro (HE3.out.2.trans (hal.mono HE3.out.2.size)) (Box.new v4 26 #[.slice A es.length c])))
  clear hal HE3
  generalize hgb : v4.heap.size = gb at *
  generalize v4.alloc (.cells #[.slice A es.length c] 26) = v5 at *
  clear hgb
  have hlen1 : 1 ≤ es.length := by have := HS.out.1; rw [rws_length] at this; exact this.1
  have hlen2 : es.length ≤ 1000 := by have := HS.out.1; rw [rws_length] at this; exact this.2
  obtain ⟨x, hx⟩ : ∃ x, k1 % 65536 = x := ⟨_, rfl⟩
  obtain ⟨y, hy⟩ : ∃ y, k2 % 65536 = y := ⟨_, rfl⟩
  obtain ⟨u, hu⟩ : ∃ u, k3 % 65536 = u := ⟨_, rfl⟩
  rw [hx] at a1
  rw [hy] at a2
  rw [hu] at a3
  have hx0 : 0 ≤ x := by omega
  have hx1 : x ≤ 65535 := by omega
  have hy0 : 0 ≤ y := by omega
  have hy1 : y ≤ 65535 := by omega
  have hu0 : 0 ≤ u := by omega
  have hu1 : u ≤ 65535 := by omega
  clear hx hy hu
  have q1 := Int.emod_nonneg x (show (es.length : Int) ≠ 0 by omega)
  have q2 := Int.emod_lt_of_pos x (show (0 : Int) < (es.length : Int) by omega)
  obtain ⟨T, hT⟩ : ∃ T : Nat, x % (es.length : Int) = (T : Int) := Int.eq_ofNat_of_zero_le q1
  have hTT : x.tmod (es.length : Int) = (T : Int) := by rw [Int.tmod_eq_emod_of_nonneg hx0]; exact hT
  have hTl : T < es.length := by omega
  clear q1 q2 hT
  have q1 := Int.emod_nonneg y (show (es.length : Int) - T ≠ 0 by omega)
  have q2 := Int.emod_lt_of_pos y (show (0 : Int) < (es.length : Int) - T by omega)
  obtain ⟨M, hM⟩ : ∃ M : Nat, y % ((es.length : Int) - T) = (M : Int) := Int.eq_ofNat_of_zero_le q1
  have hMM : y.tmod ((es.length : Int) - T) = (M : Int) := by rw [Int.tmod_eq_emod_of_nonneg hy0]; exact hM
  have hMl : T + 1 + M ≤ es.length := by omega
  clear q1 q2 hM
  obtain ⟨E, hE⟩ : ∃ E : Nat, T + 1 + M = E := ⟨_, rfl⟩
  have hEl : E ≤ es.length := by omega
  have hTE : T < E := by omega
  have HEM : Hid (T + 1 + M = E) := Lib.hid hE
  clear hE
  have q1 := Int.emod_nonneg u (show (E : Int) - T + 1 ≠ 0 by omega)
  have q2 := Int.emod_lt_of_pos u (show (0 : Int) < (E : Int) - T + 1 by omega)
  obtain ⟨K, hK⟩ : ∃ K : Nat, u % ((E : Int) - T + 1) = (K : Int) := Int.eq_ofNat_of_zero_le q1
  have hKK : u.tmod ((E : Int) - T + 1) = (K : Int) := by rw [Int.tmod_eq_emod_of_nonneg hu0]; exact hK
  have hKl : T + K ≤ E := by omega
  clear q1 q2 hK
  have zn1 : ¬ (es.length : Int) = 0 := by omega
  have zn2 : ¬ (es.length : Int) - T = 0 := by omega
  have zn3 : ¬ (E : Int) - T + 1 = 0 := by omega
  go_upto_region 7 with fail
  clear a1 hTT zn1
  go_cut [13] (fun u wx => u = .int .i64 (E : Int) ∧ wx = v5)
  case first =>
    go_wp2_with fail
    all_goals
      go_meet
      refine ⟨?_, by first | trivial | rfl⟩
      have hN := HEM.out
      congr 1
      omega
  case rest =>
  obtain ⟨rfl, hwc⟩ := hcut
  subst wc
  clear a2 hMM zn2
  go_upto_region 9 with fail
  clear a3 hKK zn3 hx0 hx1 hy0 hy1 hu0 hu1 hMl HEM
  obtain ⟨q, hq⟩ : ∃ q, k3 % 256 = q := ⟨_, rfl⟩
  rw [hq] at a4
  have hq0 : 0 ≤ q := by omega
  have hq1 : q ≤ 255 := by omega
  clear hq
  obtain ⟨e0, he0⟩ : ∃ e0, es[0]? = some e0 := ⟨_, List.getElem?_eq_getElem (by omega)⟩
  obtain ⟨b0, o0, rfl, -, -, -, -, -⟩ := HE4.out.1.rows.at_ he0
  have hwid : widthG (rws es) = e0.r.cs.length := by unfold widthG; rw [rws_at he0]; rfl
  have HE0 := Lib.hid (And.intro he0 hwid)
  have HSAID := Lib.hid (steps_said HS.out (t := T) (b := E) hTE (by rw [rws_length]; exact hEl))
  have h1 := hup.c (some ⟨b0, o0, none⟩) c es (T : Int) (E : Int) (K : Int) zeroN v5 HE4.out.1 HOK.out (by unfold I64; omega) (by unfold I64; omega) (by unfold I64; omega) zero_ok
  rw [show pnV zeroN = .agg #[.int .i64 0, .int .i64 0, .int .i64 0] from rfl] at h1
  clear he0 hwid
  have j0 : v5.cell? ⟨gb, 0, none⟩ = some (.slice (some ⟨b0, o0, none⟩) es.length c) := HE4.out.2.2.cell 0
  go_wp2_with fail
  refine h1.mono ?_
  rintro e v6 ⟨A1, c1, e1, A2, c2, e2, rfl, hI1, hr1, hI2, hr2, hb5⟩
  have hal : Below v6.heap.size v6 (v6.alloc (.cells #[.slice A1 e1.length c1] 26)) := (Below.refl _ _).alloc (Nat.le_refl _) _
  have hbb := hb5.trans (hal.mono hb5.size)
  have HE5 := Lib.hid (And.intro (HE4.out.1.on hbb) (And.intro (HE4.out.2.1.trans (hbb.mono HE4.out.2.1.size)) (And.intro (HE4.out.2.2.below hbb HE4.out.2.2.lt) (And.intro (Box.new v6 26 #[.slice A1 e1.length c1]) (And.intro (hI1.on hal) (hI2.on hal))))))
  have HR1 := Lib.hid hr1
  have HR2 := Lib.hid hr2
  clear hal hbb hI1 hI2 hr1 hr2 hb5 h1 j0 HE4
  go_upto_region 10 with fail
  generalize hab : v6.heap.size = ab at *
  generalize v6.alloc (.cells #[.slice A1 e1.length c1] 26) = W0 at *
  clear hab
  have j0 : W0.cell? ⟨gb, 0, none⟩ = some (.slice (some ⟨b0, o0, none⟩) es.length c) := HE5.out.2.2.1.cell 0
  go_upto_region 13 with fail
  have hal0 : Below W0.heap.size W0 (W0.alloc (.cells #[.slice (some ⟨b0, o0, none⟩) es.length c] 26)) := (Below.refl _ _).alloc (Nat.le_refl _) _
  have HT0 : Hid (Tl9 W0 (W0.alloc (.cells #[.slice (some ⟨b0, o0, none⟩) es.length c] 26)) (some ⟨b0, o0, none⟩) c es none 0 [] ∧ rws es = upG (rws es) (T : Int) (E : Int) ((0 : Nat) : Int) zeroN ∧ rws [] = goneG (rws es) (T : Int) (E : Int) ((0 : Nat) : Int) zeroN) := Lib.hid ⟨⟨hal0, Box.new W0 _ _, HE5.out.1.on hal0, nil_ownG _ _, by simp, fun g hg => by simp [Value.ownBlock] at hg⟩, HSAID.out.1.1.symm, HSAID.out.1.2.symm⟩
  clear hal0 j0
  have hK1 : K ≤ 1000 := by omega
  have hE1 : E ≤ 1000 := by omega
  have HW0 := HE5
  clear HE5
  go_wp2_with fail
  go_loopw [18, 19] (fun u18 u19 wr => ∃ (i : Nat) (Ao : Option Addr) (co : Nat) (eo : List Rl) (Bt : Option Addr) (dt : Nat) (et : List Rl), i ≤ K ∧ u19 = .int .i64 (i : Int) ∧ u18 = .slice Bt (List.length et) dt ∧ Hid (Tl9 W0 wr Ao co eo Bt dt et ∧ rws eo = upG (rws es) (T : Int) (E : Int) (i : Int) zeroN ∧ rws et = goneG (rws es) (T : Int) (E : Int) (i : Int) zeroN)) (fun _ u19 _ => K - (intOf u19).toNat)
  case atStart => exact ⟨0, some ⟨b0, o0, none⟩, c, es, none, 0, [], Nat.zero_le _, rfl, rfl, HT0⟩
  case round =>
    obtain ⟨i, Ao, co, eo, Bt, dt, et, hi, rfl, rfl, HL⟩ := hrel
    clear HT0
    by_cases hlt : i < K
    · have z1 : (i : Int) < (K : Int) := by omega
      have hus := upG_sane HS.out (T : Int) (E : Int) (i : Int) zeroN
      rw [← HL.out.2.1] at hus
      have h1 := hup Ao co eo (T : Int) (E : Int) 1 zeroN wr HL.out.1.io hus.1.ok (by unfold I64; omega) (by unfold I64; omega) (by unfold I64; omega) zero_ok
      rw [show pnV zeroN = .agg #[.int .i64 0, .int .i64 0, .int .i64 0] from rfl] at h1
      have HMAY : Hid (MayG (rws eo) (T : Int) (E : Int) zeroN) := Lib.hid ⟨hus.1, zeroN_sane, by omega, by omega, by rw [hus.2.2, rws_length]; omega⟩
      have k0 : wr.cell? ⟨W0.heap.size, 0, none⟩ = some (.slice Ao eo.length co) := HL.out.1.bo.cell 0
      have hel : et.length ≤ 1000 := by
        have := goneG_le (rws es) (T : Int) (E : Int) (i : Int) zeroN
        rw [← HL.out.2.2, rws_length, rws_length] at this
        omega
      have heo : eo.length ≤ 1000 := by have := hus.1.1.2; rw [rws_length] at this; exact this
      have HEO := Lib.hid heo
      clear hus
      go_wp2_with fail
      refine h1.mono ?_
      rintro e v1 ⟨A3, c3, e3, A4, c4, e4, rfl, ⟨hI3, hr3, hI4, hr4, hb⟩, hnew⟩
      have hal : Below v1.heap.size v1 (v1.alloc (.cells #[.slice A3 e3.length c3] 26)) := (Below.refl _ _).alloc (Nat.le_refl _) _
      have HN := Lib.hid (And.intro hb (And.intro hI3 (And.intro (hnew HMAY.out) (And.intro hal (And.intro (hI4.on hal) (Box.new v1 26 #[.slice A3 e3.length c3]))))))
      have HR3 := Lib.hid (And.intro hr3 hr4)
      have he4 : e4.length ≤ 1000 := by
        have := goneG_le (rws eo) (T : Int) (E : Int) 1 zeroN
        rw [← hr4, rws_length, rws_length] at this
        omega
      clear hal hI3 hI4 hr3 hr4 hb hnew h1 k0 heo
      go_upto_region 16 with fail
      generalize hxb : v1.heap.size = xb at *
      generalize v1.alloc (.cells #[.slice A3 e3.length c3] 26) = va at *
      have HXB := Lib.hid hxb
      clear hxb
      have hbva : Below wr.heap.size wr va := HN.out.1.trans (HN.out.2.2.2.1.mono (by have := HXB.out; have := HN.out.1.size; omega))
      have hob := HL.out.1.bo.below hbva HL.out.1.bo.lt
      have k0 : va.cell? ⟨W0.heap.size, 0, none⟩ = some (.slice Ao eo.length co) := hob.cell 0
      have f0 : va.frozen? ⟨W0.heap.size, 0, none⟩ = false := hob.free 0
      have k1 : va.cell? ⟨xb, 0, none⟩ = some (.slice A3 e3.length c3) := HN.out.2.2.2.2.2.cell 0
      have HMID := Lib.hid (HL.out.1.mid (e3 := e3) (c3 := c3) (A3 := A3) hbva HN.out.2.2.2.2.1 (.slice A3 e3.length c3))
      have HVA := Lib.hid hbva
      clear hbva hob
      go_upto_region 17 with fail
      go_wp2_with (at_builtin; refine wpList_append_rows rfl _ _ rfl (W0.heap.size + 1) dt Bt et et.length rfl rfl HMID.out.1 A4 c4 e4 e4.length rfl rfl HMID.out.2.1 (by omega) HMID.out.2.2 ?_)
      intro B' d' v3 hown hO
      have HT3 : Hid (Tl9 W0 v3 A3 c3 e3 B' d' (et ++ e4) ∧ rws e3 = upG (rws es) (T : Int) (E : Int) ((i + 1 : Nat) : Int) zeroN ∧ rws (et ++ e4) = goneG (rws es) (T : Int) (E : Int) ((i + 1 : Nat) : Int) zeroN) := Lib.hid (by
        have hst := HSAID.out.2.1 i (by omega)
        refine ⟨HL.out.1.step HN.out.1 HN.out.2.1 HN.out.2.2.1 (by have := HXB.out; rw [this]; exact HN.out.2.2.2.1) rfl hown (by rw [List.length_append]; exact hO), ?_, ?_⟩
        · rw [HR3.out.1, HL.out.2.1]; exact hst.1
        · rw [rws_app, HR3.out.2, HL.out.2.2, HL.out.2.1]; exact hst.2.symm)
      clear hown hO HL HN HR3 HMID HVA k0 f0 k1 HXB HMAY
      go_wp2_with fail
      exact ⟨⟨i + 1, A3, c3, e3, B', d', et ++ e4, by omega, by go_num, by rw [List.length_append], HT3⟩, by simp [intOf]; omega⟩
    · obtain rfl : i = K := by omega
      have z1 : ¬ (i : Int) < (i : Int) := by omega
      have hgb := HW0.out.2.2.1.below HL.out.1.bw HW0.out.2.2.1.lt
      have k0 : wr.cell? ⟨gb, 0, none⟩ = some (.slice (some ⟨b0, o0, none⟩) es.length c) := hgb.cell 0
      have hil := HW0.out.1.on HL.out.1.bw
      have h1 := hup.c (some ⟨b0, o0, none⟩) c es (T : Int) (E : Int) ((E : Int) - (T : Int) + q) zeroN wr hil HOK.out (by unfold I64; omega) (by unfold I64; omega) (by unfold I64; omega) zero_ok
      rw [show pnV zeroN = .agg #[.int .i64 0, .int .i64 0, .int .i64 0] from rfl] at h1
      have HS8 : Hid (goneG (rws es) (T : Int) (E : Int) ((E : Int) - (T : Int) + q) zeroN = ((rws es).take E).drop T ∧ (∀ y, T ≤ y → y < E → (upG (rws es) (T : Int) (E : Int) ((E : Int) - (T : Int) + q) zeroN)[y]? = some (newR (e0.r.cs.length : Int) zeroN)) ∧ SaneG (upG (rws es) (T : Int) (E : Int) ((E : Int) - (T : Int) + q) zeroN) ∧ (upG (rws es) (T : Int) (E : Int) ((E : Int) - (T : Int) + q) zeroN).length = es.length) := Lib.hid (by
        have h3 := HSAID.out.2.2 ((E : Int) - (T : Int) + q) (by omega)
        have h4 := upG_sane HS.out (T : Int) (E : Int) ((E : Int) - (T : Int) + q) zeroN
        rw [HE0.out.2] at h3
        exact ⟨h3.1, h3.2, h4.1, by rw [h4.2.2, rws_length]⟩)
      clear hgb hil
      go_upto_region 18 with fail
      go_wp2_with fail
      refine h1.mono ?_
      rintro e v1 ⟨A5, c5, e5, A6, c6, e6, rfl, hI5, hr5, hI6, hr6, hb⟩
      have hal : Below v1.heap.size v1 (v1.alloc (.cells #[.slice A5 e5.length c5] 26)) := (Below.refl _ _).alloc (Nat.le_refl _) _
      have hbb := hb.trans (hal.mono hb.size)
      have hbw : Below W0.heap.size W0 (v1.alloc (.cells #[.slice A5 e5.length c5] 26)) := HL.out.1.bw.trans (hbb.mono (Nat.le_of_lt HL.out.1.bo.lt))
      have HF : Hid (Sf9 w (v1.alloc (.cells #[.slice A5 e5.length c5] 26)) (some ⟨b0, o0, none⟩) c es ab A1 c1 e1 A2 c2 e2 W0.heap.size Ao co eo Bt dt et v1.heap.size A5 c5 e5 A6 c6 e6) := Lib.hid ⟨HW0.out.2.2.2.1.below hbw HW0.out.2.2.2.1.lt, HL.out.1.bo.below hbb HL.out.1.bo.lt, Box.new v1 _ _, HW0.out.1.on hbw, HW0.out.2.2.2.2.1.on hbw, HW0.out.2.2.2.2.2.on hbw, HL.out.1.io.on hbb, ⟨HL.out.1.it.in_.on hbb, fun x hx => (HL.out.1.ie x hx).on hbb⟩, hI5.on hal, hI6.on hal, HW0.out.2.1.trans (hbw.mono HW0.out.2.1.size)⟩
      have HR5 := Lib.hid hr5
      have HR6 := Lib.hid (hr6.trans HS8.out.1)
      have HRO : Hid (rws e1 = rws eo ∧ rws e2 = rws et) := Lib.hid ⟨HR1.out.trans HL.out.2.1.symm, HR2.out.trans HL.out.2.2.symm⟩
      clear hal hbb hbw hI5 hI6 hr5 hr6 hb h1 k0 HL HW0 a4 hq0 hq1
      go_upto_region 19 with fail
      generalize hcb : v1.heap.size = cb at *
      generalize v1.alloc (.cells #[.slice A5 e5.length c5] 26) = V at *
      clear hcb
      have hl5 : e5.length = es.length := by
        have := HS8.out.2.2.2
        rw [← HR5.out, rws_length] at this
        exact this
      have HL5 := Lib.hid hl5
      have hn5 : ((e5.length : Int) != (es.length : Int)) = false := by rw [hl5]; simp
      have k0 : V.cell? ⟨cb, 0, none⟩ = some (.slice A5 e5.length c5) := HF.out.bc.cell 0
      clear hl5
      go_upto_region 22 with fail
      clear hn5 k0
      obtain ⟨f5, hf5⟩ : ∃ f5, e5[0]? = some f5 := ⟨_, List.getElem?_eq_getElem (by have := HL5.out; omega)⟩
      obtain ⟨b5, o5, rfl, -, -, -, -, -⟩ := HF.out.ic.rows.at_ hf5
      clear hf5
      have hcap5 := HF.out.ic.rows.cap
      have he5m : e5.length ≤ 1000 := by have := HL5.out; omega
      have HRN : Hid (∀ V', Calls Try.prog 11 #[.int .i64 (e0.r.cs.length : Int), .agg #[.int .i64 0, .int .i64 0, .int .i64 0]] V' (GivesRow (newR (e0.r.cs.length : Int) zeroN) V')) := Lib.hid fun V' => rNew_c (e0.r.cs.length : Int) zeroN V' (by unfold I64; have := HS.out.width; rw [HE0.out.2] at this; omega)
      go_loopw [24] (fun u24 wr => ∃ y : Nat, T ≤ y ∧ y ≤ E ∧ u24 = .int .i64 (y : Int) ∧ Hid (Sf9 w wr (some ⟨b0, o0, none⟩) c es ab A1 c1 e1 A2 c2 e2 W0.heap.size Ao co eo Bt dt et cb (some ⟨b5, o5, none⟩) c5 e5 A6 c6 e6)) (fun u24 _ => E - (intOf u24).toNat)
      case atStart => exact ⟨T, Nat.le_refl _, by omega, rfl, HF⟩
      case round =>
        obtain ⟨y, hyT, hyE, rfl, HG⟩ := hrel
        clear HF
        by_cases hlt2 : y < E
        · have z2 : (y : Int) < (E : Int) := by omega
          obtain ⟨x, hx⟩ : ∃ x, e5[y]? = some x := ⟨_, List.getElem?_eq_getElem (by have := HL5.out; omega)⟩
          have hxe : x.r = newR (e0.r.cs.length : Int) zeroN := by
            have := HS8.out.2.1 y hyT hlt2
            rw [← HR5.out, rws_at hx] at this
            injection this
          obtain ⟨pB, p0, p1, p2, p3⟩ := HG.out.ic.rows.at2 hx
          obtain ⟨qB, q0, -, -, -⟩ := HG.out.il.rows.at2 HE0.out.1
          simp only [Nat.zero_mul, Nat.add_zero] at q0
          have ze5 : (y : Int) < (e5.length : Int) := by have := HL5.out; omega
          have HXI := Lib.hid (And.intro (HG.out.ic.els x (List.mem_of_getElem? hx)) hxe)
          have q5 := Ext.cell (w := wr) (B := wr.heap.size) (p := ⟨b0, o0, none⟩) qB q0
          have n0 := Ext.cell (w := wr) (B := wr.heap.size) (p := ⟨b5, o5 + y * 4, none⟩) pB p0
          have n1 := Ext.cell (w := wr) (B := wr.heap.size) (p := ⟨b5, o5 + y * 4 + 1, none⟩) pB p1
          have n2 := Ext.cell (w := wr) (B := wr.heap.size) (p := ⟨b5, o5 + y * 4 + 2, none⟩) pB p2
          have n3 := Ext.cell (w := wr) (B := wr.heap.size) (p := ⟨b5, o5 + y * 4 + 3, none⟩) pB p3
          have d0 := Ext.cell (w := wr) (B := wr.heap.size) HG.out.bc.lt (show wr.cell? ⟨cb, 0, none⟩ = some (.slice (some ⟨b5, o5, none⟩) e5.length c5) from HG.out.bc.cell 0)
          clear hx hxe pB p0 p1 p2 p3 qB q0
          go_upto_region 24 with fail
          refine region_plan [([0, 1, 2, 3, 4, 5, 6, 7, 8, 9, 10], [11, 12]), ([13], [])] (fun w' => ∃ u : Ext wr wr.heap.size, w' = u.val) (by kernel_rfl) (by kernel_rfl) (fun _ _ _ _ _ h => h) ⟨⟨_, (Below.refl _ _).drew⟩, rfl⟩ ?_
          simp only [wpPlan, sel, List.take_succ_cons, List.take_zero, List.drop_succ_cons, List.drop_zero, List.cons_append, List.nil_append]
          repeat (go_big_quiet_step (fail))
          refine wpQuiet_nil ?_
          unfold wpChain
          go_wp2_with fail
          refine (HRN.out _).mono ?_
          rintro e v11 ⟨A8, c8, rfl, hI8, hb11⟩
          have hv11 : Below wr.heap.size wr v11 := (Below.refl wr.heap.size wr).drew.trans hb11
          have hs11 := same_c x.r (newR (e0.r.cs.length : Int) zeroN) x.A A8 x.c c8 v11 (HXI.out.1.on hv11) hI8
          rw [decide_eq_true HXI.out.2] at hs11
          simp only [rwV_eq] at hs11
          have HS11 := Lib.hid hs11
          have HV11 := Lib.hid hv11
          clear hb11 hv11 hI8 hs11
          simp only [rwV_eq]
          go_wp2_with fail
          refine ⟨⟨⟨_, HV11.out⟩, rfl⟩, ?_⟩
          unfold wpChain
          go_wp2_with fail
          refine HS11.out.mono ?_
          rintro e v12 ⟨rfl, hb12⟩
          have HV12 : Hid (Below wr.heap.size wr v12) := Lib.hid (HV11.out.trans (hb12.mono HV11.out.size))
          clear hb12 HS11 HV11 q5 n0 n1 n2 n3 d0
          go_wp2_with fail
          refine ⟨⟨⟨_, HV12.out⟩, rfl⟩, ?_⟩
          unfold wpChain
          try simp only [Act.put, List.setIfInBounds_toArray, List.set_cons_succ, List.set_cons_zero]
          repeat (go_big_quiet_step (fail))
          refine wpQuiet_nil ?_
          unfold wpChain
          have HG2 := Lib.hid (HG.out.on HV12.out)
          go_wp2_with fail
          exact ⟨⟨y + 1, by omega, by omega, by go_num, HG2⟩, by simp [intOf]; omega⟩
        · obtain rfl : y = E := by omega
          have z2 : ¬ (y : Int) < (y : Int) := by omega
          obtain ⟨B, d, hcut, hpart, hpl⟩ := HG.out.il.cut (a := T) (b := y) (by omega) (by omega)
          obtain ⟨m, hm⟩ : ∃ m, y - T = m := ⟨_, rfl⟩
          rw [hm] at hcut hpl
          have hpr : rws ((es.take y).drop T) = ((rws es).take y).drop T := by rw [rws_drop, rws_take]
          generalize (es.take y).drop T = part at *
          have hs1 := same9_c A1 Ao e1 eo c1 co wr HG.out.ia HG.out.io
          rw [decide_eq_true HRO.out.1] at hs1
          have hs2 := fun V (hV : Below wr.heap.size wr V) => same9_c A2 Bt e2 et c2 dt V (HG.out.ig.on hV) (HG.out.it.on hV)
          rw [decide_eq_true HRO.out.2] at hs2
          have hs3 := fun V (hV : Below wr.heap.size wr V) => same9_c A6 B e6 part c6 d V (HG.out.ik.on hV) (hpart.on hV)
          rw [decide_eq_true (HR6.out.trans hpr.symm), hpl] at hs3
          have HS1 := Lib.hid hs1
          have HS2 := Lib.hid hs2
          have HS3 := Lib.hid hs3
          have k0 : wr.cell? ⟨ab, 0, none⟩ = some (.slice A1 e1.length c1) := HG.out.ba.cell 0
          have k1 : wr.cell? ⟨W0.heap.size, 0, none⟩ = some (.slice Ao eo.length co) := HG.out.bo.cell 0
          clear hs1 hs2 hs3 hpr hpl hpart hm
          go_wp2_with fail
          refine HS1.out.mono ?_
          rintro e v1 ⟨rfl, hb⟩
          have HV1 := Lib.hid hb
          clear hb k0 k1
          go_wp2_with fail
          refine (HS2.out _ HV1.out).mono ?_
          rintro e v2 ⟨rfl, hb⟩
          have HV2 := Lib.hid (HV1.out.trans (hb.mono HV1.out.size))
          clear hb
          go_wp2_with fail
          refine (HS3.out _ HV2.out).mono ?_
          rintro e v3 ⟨rfl, hb⟩
          have HV3 := Lib.hid (HV2.out.trans (hb.mono HV2.out.size))
          clear hb
          go_wp2_with fail
          go_ret
          exact ⟨rfl, HG.out.bl.trans (HV3.out.mono HG.out.bl.size)⟩
end Go.Proofs.Ytcadbapccdclaaa
