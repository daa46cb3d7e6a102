/- GridScrolls over the contracts. -/
import Derived.Test.YtcadbapccdclaaaAwake09
import Derived.Test.YtcadbapccdclaaaRef09
import Derived.Test.YtcadbapccdclaaaRefRow
import Derived.Test.YtcadbapccdclaaaBitsR
import Derived.Test.YtcadbapccdclaaaAt2
namespace Go.Proofs.Ytcadbapccdclaaa
open Go Go.RowKit
set_option linter.unusedVariables false
set_option linter.unusedSimpArgs false

/-- The law's own variables: what went up, what came down again, a blank row. -/
structure Sc9 (w V : World) (A : Option Addr) (c : Nat) (es : List Rl) (ab : Nat) (A1 : Option Addr) (c1 : Nat) (e1 : List Rl) (A2 : Option Addr) (c2 : Nat) (e2 : List Rl) (cb : Nat) (A3 : Option Addr) (c3 : Nat) (e3 : List Rl) (bb : Nat) (z : Rl) : Prop where
  ba : Box V ab 26 #[.slice A1 e1.length c1]
  bc : Box V cb 26 #[.slice A3 e3.length c3]
  bz : Box V bb 35 #[.slice z.A z.r.cs.length z.c, .bool z.r.wrap, .int .i64 z.r.dir, .bool z.r.ex]
  il : InG V A c es
  ia : InG V A1 c1 e1
  ig : InG V A2 c2 e2
  ic : InG V A3 c3 e3
  iz : InC V z.A z.c z.r.cs
  bl : Below w.heap.size w V
theorem Sc9.on {w V V' : World} {A : Option Addr} {c : Nat} {es : List Rl} {ab : Nat} {A1 : Option Addr} {c1 : Nat} {e1 : List Rl} {A2 : Option Addr} {c2 : Nat} {e2 : List Rl} {cb : Nat} {A3 : Option Addr} {c3 : Nat} {e3 : List Rl} {bb : Nat} {z : Rl} (h : Sc9 w V A c es ab A1 c1 e1 A2 c2 e2 cb A3 c3 e3 bb z) (hb : Below V.heap.size V V') : Sc9 w V' A c es ab A1 c1 e1 A2 c2 e2 cb A3 c3 e3 bb z :=
  ⟨h.ba.below hb h.ba.lt, h.bc.below hb h.bc.lt, h.bz.below hb h.bz.lt, h.il.on hb, h.ia.on hb, h.ig.on hb, h.ic.on hb, h.iz.on hb, h.bl.trans (hb.mono h.bl.size)⟩
theorem upG_ok {g : List Rw} (h : RsOk g) (t b n : Int) {p : Pn} (hp : PnOk p) : RsOk (upG g t b n p) := by
  unfold upG
  split
  · rename_i hm
    exact (upG_sane hm.1 t b n p).1 |> fun _ => by
      intro r hr
      have := (upG_sane hm.1 t b n p).1.ok
      unfold upG at this
      rw [if_pos hm] at this
      exact this r hr
  · exact h
set_option maxRecDepth 100000 in
set_option maxHeartbeats 4000000 in
theorem scrolls_law (hn : New9C) (hset : Set9C) (hup : Up9C) (hdn : Down9C) (hsz : Size9C) (hs : Sane9C) (A : Option Addr) (c : Nat) (es : List Rl) (k1 k2 k3 : Int) (w : World) (hin : InG w A c es) (hok : RsOk (rws es)) :
    Calls Try.prog 3 #[.slice A es.length c, .int .i64 k1, .int .i64 k2, .int .i64 k3] w fun e w' => e = .returned (.bool true) ∧ Below w.heap.size w w' := by
  have hawake := awake9_c hn hset hup hsz hs w
  have a1 := and_65535 k1
  have a2 := and_65535 k2
  have a3 := and_65535 k3
  have hlen := hin.rows.len
  have hcap := hin.rows.cap
  unfold maxLen at hlen
  have HIN := Lib.hid hin
  have HOK := Lib.hid hok
  clear hin hok hn hsz hset
  go_enter Try.func3, Try.ntmps3
  go_wp2_with fail
  refine hawake.mono ?_
  rintro e v1 ⟨rfl, hb1⟩
  have HE1 := Lib.hid (And.intro (HIN.out.on hb1) hb1)
  clear hawake hb1
  have hfew := few_c A c es v1 HE1.out.1
  cases hf : decide (FewR (rws es)) with
  | false =>
    rw [hf] at hfew
    clear hf
    go_wp2_with fail
    refine hfew.mono ?_
    rintro e v2 ⟨rfl, hb2⟩
    have hbl := HE1.out.2.trans (hb2.mono HE1.out.2.size)
    clear hb2 hfew
    go_wp2_with fail
    go_ret
    exact ⟨rfl, hbl⟩
  | true =>
  rw [hf] at hfew
  have HFEW := Lib.hid (of_decide_eq_true hf)
  clear hf
  go_wp2_with fail
  refine hfew.mono ?_
  rintro e v2 ⟨rfl, hb2⟩
  have HE2 := Lib.hid (And.intro (HE1.out.1.on hb2) (HE1.out.2.trans (hb2.mono HE1.out.2.size)))
  clear hb2 hfew HE1
  go_upto_region 5 with fail
  have hal : Below v2.heap.size v2 (v2.alloc (.cells #[.slice A es.length c] 26)) := (Below.refl _ _).alloc (Nat.le_refl _) _
  have HE3 := Lib.hid (And.intro (HE2.out.1.on hal) (And.intro (HE2.out.2.trans (hal.mono HE2.out.2.size)) (Box.new v2 26 #[.slice A es.length c])))
  clear hal HE2
  generalize hgb : v2.heap.size = gb at *
  generalize v2.alloc (.cells #[.slice A es.length c] 26) = v3 at *
  clear hgb
  have h1 := hs A c es v3 HE3.out.1 HOK.out
  have j0 : v3.cell? ⟨gb, 0, none⟩ = some (.slice A es.length c) := HE3.out.2.2.cell 0
  cases hsg : decide (SaneG (rws es)) with
  | false =>
    rw [hsg] at h1
    clear hsg
    go_wp2_with fail
    refine h1.mono ?_
    rintro e v4 ⟨rfl, hb4⟩
    have hbl := HE3.out.2.1.trans (hb4.mono HE3.out.2.1.size)
    clear hb4 h1 j0
    go_wp2_with fail
    go_ret
    exact ⟨rfl, hbl⟩
  | true =>
  rw [hsg] at h1
  have HS := Lib.hid (of_decide_eq_true hsg)
  clear hsg
  go_wp2_with fail
  refine h1.mono ?_
  rintro e v4 ⟨rfl, hb4⟩
  have HE4 := Lib.hid (And.intro (HE3.out.1.on hb4) (And.intro (HE3.out.2.1.trans (hb4.mono HE3.out.2.1.size)) (HE3.out.2.2.below hb4 HE3.out.2.2.lt)))
  clear hb4 h1 j0 HE3
  have hlen1 : 1 ≤ es.length := by have := HS.out.1; rw [rws_length] at this; exact this.1
  have hlen2 : es.length ≤ 1000 := by have := HS.out.1; rw [rws_length] at this; exact this.2
  obtain ⟨x, hx⟩ : ∃ x, k1 % 65536 = x := ⟨_, rfl⟩
  obtain ⟨y, hy⟩ : ∃ y, k2 % 65536 = y := ⟨_, rfl⟩
  obtain ⟨u, hu⟩ : ∃ u, k3 % 65536 = u := ⟨_, rfl⟩
  rw [hx] at a1
  rw [hy] at a2
  rw [hu] at a3
  have hx0 : 0 ≤ x := by omega
  have hx1 : x ≤ 65535 := by omega
  have hy0 : 0 ≤ y := by omega
  have hy1 : y ≤ 65535 := by omega
  have hu0 : 0 ≤ u := by omega
  have hu1 : u ≤ 65535 := by omega
  clear hx hy hu
  have q1 := Int.emod_nonneg x (show (es.length : Int) ≠ 0 by omega)
  have q2 := Int.emod_lt_of_pos x (show (0 : Int) < (es.length : Int) by omega)
  obtain ⟨T, hT⟩ : ∃ T : Nat, x % (es.length : Int) = (T : Int) := Int.eq_ofNat_of_zero_le q1
  have hTT : x.tmod (es.length : Int) = (T : Int) := by rw [Int.tmod_eq_emod_of_nonneg hx0]; exact hT
  have hTl : T < es.length := by omega
  clear q1 q2 hT
  have q1 := Int.emod_nonneg y (show (es.length : Int) - T ≠ 0 by omega)
  have q2 := Int.emod_lt_of_pos y (show (0 : Int) < (es.length : Int) - T by omega)
  obtain ⟨M, hM⟩ : ∃ M : Nat, y % ((es.length : Int) - T) = (M : Int) := Int.eq_ofNat_of_zero_le q1
  have hMM : y.tmod ((es.length : Int) - T) = (M : Int) := by rw [Int.tmod_eq_emod_of_nonneg hy0]; exact hM
  have hMl : T + 1 + M ≤ es.length := by omega
  clear q1 q2 hM
  obtain ⟨E, hE⟩ : ∃ E : Nat, T + 1 + M = E := ⟨_, rfl⟩
  have hEl : E ≤ es.length := by omega
  have hTE : T < E := by omega
  have HEM : Hid (T + 1 + M = E) := Lib.hid hE
  clear hE
  have q1 := Int.emod_nonneg u (show (E : Int) - T + 1 ≠ 0 by omega)
  have q2 := Int.emod_lt_of_pos u (show (0 : Int) < (E : Int) - T + 1 by omega)
  obtain ⟨K, hK⟩ : ∃ K : Nat, u % ((E : Int) - T + 1) = (K : Int) := Int.eq_ofNat_of_zero_le q1
  have hKK : u.tmod ((E : Int) - T + 1) = (K : Int) := by rw [Int.tmod_eq_emod_of_nonneg hu0]; exact hK
  have hKl : T + K ≤ E := by omega
  clear q1 q2 hK
  have zn1 : ¬ (es.length : Int) = 0 := by omega
  have zn2 : ¬ (es.length : Int) - T = 0 := by omega
  have zn3 : ¬ (E : Int) - T + 1 = 0 := by omega
  go_upto_region 9 with fail
  clear a1 hTT zn1
  go_cut [13] (fun u wx => u = .int .i64 (E : Int) ∧ wx = v4)
  case first =>
    go_wp2_with fail
    all_goals
      go_meet
      refine ⟨?_, by first | trivial | rfl⟩
      have hN := HEM.out
      congr 1
      omega
  case rest =>
  obtain ⟨rfl, hwc⟩ := hcut
  subst wc
  clear a2 hMM zn2
  go_upto_region 11 with fail
  clear a3 hKK zn3 hx0 hx1 hy0 hy1 hu0 hu1 hMl HEM
  obtain ⟨e0, he0⟩ : ∃ e0, es[0]? = some e0 := ⟨_, List.getElem?_eq_getElem (by omega)⟩
  obtain ⟨b0, o0, rfl, -, -, -, -, -⟩ := HE4.out.1.rows.at_ he0
  have hwid : widthG (rws es) = e0.r.cs.length := by unfold widthG; rw [rws_at he0]; rfl
  have HE0 := Lib.hid (And.intro he0 hwid)
  have hsaid := scrolls_said HS.out (t := T) (b := E) (k := K) hTE (by rw [rws_length]; exact hEl) hKl
  have h1 := hup (some ⟨b0, o0, none⟩) c es (T : Int) (E : Int) (K : Int) zeroN v4 HE4.out.1 HOK.out (by unfold I64; omega) (by unfold I64; omega) (by unfold I64; omega) zero_ok
  rw [show pnV zeroN = .agg #[.int .i64 0, .int .i64 0, .int .i64 0] from rfl] at h1
  simp only [hwid] at hsaid
  generalize upG (rws es) (T : Int) (E : Int) (K : Int) zeroN = Ga at *
  generalize goneG (rws es) (T : Int) (E : Int) (K : Int) zeroN = Go1 at *
  have HSAID := Lib.hid hsaid
  clear hsaid he0 hwid
  have j0 : v4.cell? ⟨gb, 0, none⟩ = some (.slice (some ⟨b0, o0, none⟩) es.length c) := HE4.out.2.2.cell 0
  go_wp2_with fail
  refine h1.mono ?_
  rintro e v5 ⟨A1, c1, e1, A2, c2, e2, rfl, hI1, hr1, hI2, hr2, hb5⟩
  have hal : Below v5.heap.size v5 (v5.alloc (.cells #[.slice A1 e1.length c1] 26)) := (Below.refl _ _).alloc (Nat.le_refl _) _
  have HE5 := Lib.hid (And.intro ((HE4.out.1.on hb5).on hal) (And.intro ((HE4.out.2.1.trans (hb5.mono HE4.out.2.1.size)).trans (hal.mono (HE4.out.2.1.trans (hb5.mono HE4.out.2.1.size)).size)) (And.intro (Box.new v5 26 #[.slice A1 e1.length c1]) (And.intro (hI1.on hal) (hI2.on hal)))))
  have HR1 := Lib.hid hr1
  have HR2 := Lib.hid hr2
  clear hal hI1 hI2 hr1 hr2 hb5 h1 j0 HE4
  go_upto_region 12 with fail
  generalize hab : v5.heap.size = ab at *
  generalize v5.alloc (.cells #[.slice A1 e1.length c1] 26) = v6 at *
  clear hab
  have h1 := hdn A1 c1 e1 (T : Int) (E : Int) (K : Int) zeroN v6 HE5.out.2.2.2.1 (by rw [HR1.out]; exact HSAID.out.1.1.ok) (by unfold I64; omega) (by unfold I64; omega) (by unfold I64; omega) zero_ok
  rw [show pnV zeroN = .agg #[.int .i64 0, .int .i64 0, .int .i64 0] from rfl, HR1.out] at h1
  have j0 : v6.cell? ⟨ab, 0, none⟩ = some (.slice A1 e1.length c1) := HE5.out.2.2.1.cell 0
  go_wp2_with fail
  refine h1.mono ?_
  rintro e v7 ⟨A3, c3, e3, rfl, hI3, hr3, hb7⟩
  have hal : Below v7.heap.size v7 (v7.alloc (.cells #[.slice A3 e3.length c3] 26)) := (Below.refl _ _).alloc (Nat.le_refl _) _
  have hq : Below v6.heap.size v6 (v7.alloc (.cells #[.slice A3 e3.length c3] 26)) := hb7.trans (hal.mono hb7.size)
  have HE6 := Lib.hid (And.intro (HE5.out.1.on hq) (And.intro (HE5.out.2.1.trans (hq.mono HE5.out.2.1.size)) (And.intro (HE5.out.2.2.1.below hq HE5.out.2.2.1.lt) (And.intro (HE5.out.2.2.2.1.on hq) (And.intro (HE5.out.2.2.2.2.on hq) (And.intro (Box.new v7 26 #[.slice A3 e3.length c3]) (hI3.on hal)))))))
  have HR3 := Lib.hid hr3
  clear hal hq hI3 hr3 hb7 h1 j0 HE5
  go_upto_region 13 with fail
  generalize hcb : v7.heap.size = cb at *
  generalize v7.alloc (.cells #[.slice A3 e3.length c3] 26) = v8 at *
  clear hcb
  have hl1 : e1.length = es.length := by
    have := HSAID.out.1.2.2.1
    rw [← HR1.out, rws_length, rws_length] at this
    exact this
  have hl3 : e3.length = es.length := by
    have := HSAID.out.1.2.2.2.1
    rw [← HR3.out, rws_length, rws_length] at this
    exact this
  have hl2 : e2.length = K := by
    have := HSAID.out.1.2.2.2.2
    rw [← HR2.out, rws_length] at this
    exact this
  have hn1 : ((e1.length : Int) != (es.length : Int)) = false := by rw [hl1]; simp
  have hn2 : ((e2.length : Int) != (K : Int)) = false := by rw [hl2]; simp
  have hn3 : ((e3.length : Int) != (es.length : Int)) = false := by rw [hl3]; simp
  have HL := Lib.hid (And.intro hl1 (And.intro hl2 hl3))
  have hsa := fun V (hV : Below v8.heap.size v8 V) => hs A1 c1 e1 V (HE6.out.2.2.2.1.on hV) (by rw [HR1.out]; exact HSAID.out.1.1.ok)
  rw [HR1.out, decide_eq_true HSAID.out.1.1] at hsa
  have hsc := fun V (hV : Below v8.heap.size v8 V) => hs A3 c3 e3 V (HE6.out.2.2.2.2.2.2.on hV) (by rw [HR3.out]; exact HSAID.out.1.2.1.ok)
  rw [HR3.out, decide_eq_true HSAID.out.1.2.1] at hsc
  have HSA := Lib.hid hsa
  have HSC := Lib.hid hsc
  clear hl1 hl2 hl3 hsa hsc
  have j0 : v8.cell? ⟨ab, 0, none⟩ = some (.slice A1 e1.length c1) := HE6.out.2.2.1.cell 0
  have j1 : v8.cell? ⟨cb, 0, none⟩ = some (.slice A3 e3.length c3) := HE6.out.2.2.2.2.2.1.cell 0
  go_wp2_with fail
  refine (HSA.out _ (Below.refl _ _)).mono ?_
  rintro e v9 ⟨rfl, hb9⟩
  have hcx := HE6.out.2.2.2.2.2.1.below hb9 HE6.out.2.2.2.2.2.1.lt
  have j2 : v9.cell? ⟨cb, 0, none⟩ = some (.slice A3 e3.length c3) := hcx.cell 0
  have HV9 := Lib.hid hb9
  clear hb9 hcx j0 j1
  go_wp2_with fail
  refine (HSC.out _ HV9.out).mono ?_
  rintro e v10 ⟨rfl, hb10⟩
  have HV10 := Lib.hid (HV9.out.trans (hb10.mono HV9.out.size))
  clear hb10 j2 HV9 HSA HSC hn1 hn2 hn3
  go_upto_region 15 with fail
  have hI := HE6.out.1.on HV10.out
  obtain ⟨-, u0, -, -, -⟩ := hI.rows.at2 HE0.out.1
  simp only [Nat.zero_mul, Nat.add_zero] at u0
  have hrn := rNew_c (e0.r.cs.length : Int) zeroN v10 (by unfold I64; have := HS.out.width; rw [HE0.out.2] at this; omega)
  rw [show (zeroN.fg : Int) = 0 from rfl, show (zeroN.bg : Int) = 0 from rfl, show (zeroN.fl : Int) = 0 from rfl] at hrn
  clear hI
  go_wp2_with fail
  refine hrn.mono ?_
  rintro e v11 ⟨A4, c4, rfl, hI4, hb11⟩
  obtain ⟨z, hzA, hzr⟩ : ∃ z : Rl, rwV (newR (e0.r.cs.length : Int) zeroN) A4 c4 = .agg #[.slice z.A z.r.cs.length z.c, .bool z.r.wrap, .int .i64 z.r.dir, .bool z.r.ex] ∧ z = ⟨A4, c4, newR (e0.r.cs.length : Int) zeroN⟩ := ⟨⟨A4, c4, newR (e0.r.cs.length : Int) zeroN⟩, rfl, rfl⟩
  have hzin : InC v11 z.A z.c z.r.cs := by rw [hzr]; exact hI4
  have hze : z.r = newR (e0.r.cs.length : Int) zeroN := by rw [hzr]
  rw [hzA]
  have hal : Below v11.heap.size v11 (v11.alloc (.cells #[.slice z.A z.r.cs.length z.c, .bool z.r.wrap, .int .i64 z.r.dir, .bool z.r.ex] 35)) := (Below.refl _ _).alloc (Nat.le_refl _) _
  have hq : Below v8.heap.size v8 (v11.alloc (.cells #[.slice z.A z.r.cs.length z.c, .bool z.r.wrap, .int .i64 z.r.dir, .bool z.r.ex] 35)) := (HV10.out.trans (hb11.mono HV10.out.size)).trans (hal.mono (HV10.out.trans (hb11.mono HV10.out.size)).size)
  have HE7 : Hid (Sc9 w (v11.alloc (.cells #[.slice z.A z.r.cs.length z.c, .bool z.r.wrap, .int .i64 z.r.dir, .bool z.r.ex] 35)) (some ⟨b0, o0, none⟩) c es ab A1 c1 e1 A2 c2 e2 cb A3 c3 e3 v11.heap.size z) := Lib.hid ⟨HE6.out.2.2.1.below hq HE6.out.2.2.1.lt, HE6.out.2.2.2.2.2.1.below hq HE6.out.2.2.2.2.2.1.lt, Box.new v11 _ _, HE6.out.1.on hq, HE6.out.2.2.2.1.on hq, HE6.out.2.2.2.2.1.on hq, HE6.out.2.2.2.2.2.2.on hq, hzin.on hal, HE6.out.2.1.trans (hq.mono HE6.out.2.1.size)⟩
  have HZ := Lib.hid hze
  clear hze hzin hzr hzA hal hq hI4 hb11 HE6 HV10 hrn u0
  go_upto_region 16 with fail
  generalize hbb : v11.heap.size = bb at *
  generalize v11.alloc (.cells #[.slice z.A z.r.cs.length z.c, .bool z.r.wrap, .int .i64 z.r.dir, .bool z.r.ex] 35) = v12 at *
  clear hbb
  obtain ⟨f1, hf1⟩ : ∃ f1, e1[0]? = some f1 := ⟨_, List.getElem?_eq_getElem (by have := HL.out.1; omega)⟩
  obtain ⟨f3, hf3⟩ : ∃ f3, e3[0]? = some f3 := ⟨_, List.getElem?_eq_getElem (by have := HL.out.2.2; omega)⟩
  obtain ⟨ba, oa, rfl, -, -, -, -, -⟩ := HE7.out.ia.rows.at_ hf1
  obtain ⟨bc, oc, rfl, -, -, -, -, -⟩ := HE7.out.ic.rows.at_ hf3
  clear hf1 hf3
  have hcap1 := HE7.out.ia.rows.cap
  have hcap3 := HE7.out.ic.rows.cap
  have he1m : e1.length ≤ 1000 := by have := HL.out.1; omega
  have he3m : e3.length ≤ 1000 := by have := HL.out.2.2; omega
  go_wp2_with fail
  go_loopw [19] (fun u19 wr => ∃ i : Nat, i ≤ es.length ∧ u19 = .int .i64 (i : Int) ∧ Hid (Sc9 w wr (some ⟨b0, o0, none⟩) c es ab (some ⟨ba, oa, none⟩) c1 e1 A2 c2 e2 cb (some ⟨bc, oc, none⟩) c3 e3 bb z)) (fun u19 _ => es.length - (intOf u19).toNat)
  case atStart => exact ⟨0, Nat.zero_le _, rfl, HE7⟩
  case round =>
    obtain ⟨i, hi, rfl, HE8⟩ := hrel
    clear HE7
    by_cases hlt : i < es.length
    · have z1 : (i : Int) < (es.length : Int) := by omega
      have hsd := HSAID.out.2 i (by rw [rws_length]; exact hlt)
      have HSD := Lib.hid hsd
      obtain ⟨y, hy⟩ : ∃ y, es[i]? = some y := ⟨_, List.getElem?_eq_getElem hlt⟩
      obtain ⟨x1, hx1⟩ : ∃ x1, e1[i]? = some x1 := ⟨_, List.getElem?_eq_getElem (by have := HL.out.1; omega)⟩
      obtain ⟨x3, hx3⟩ : ∃ x3, e3[i]? = some x3 := ⟨_, List.getElem?_eq_getElem (by have := HL.out.2.2; omega)⟩
      obtain ⟨pB, p0, p1, p2, p3⟩ := HE8.out.il.rows.at2 hy
      obtain ⟨rB, r0, r1, r2, r3⟩ := HE8.out.ic.rows.at2 hx3
      have qB : True := trivial
      have q0 : True := trivial
      have q1 : True := trivial
      have q2 : True := trivial
      have q3 : True := trivial
      have ze1 : (i : Int) < (e1.length : Int) := by have := HL.out.1; omega
      have ze3 : (i : Int) < (e3.length : Int) := by have := HL.out.2.2; omega
      have HY := Lib.hid (And.intro hy hx1)
      have HEo := HE8
      by_cases hin1 : T ≤ i ∧ i < T + K
      · obtain ⟨hin1, hin2⟩ := hin1
        have hz1 : (i : Int) ≥ (T : Int) := by omega
        have hz2 : (i : Int) < (T : Int) + (K : Int) := by omega
        go_upto_if 117 with fail
        go_cut [] (fun wx => Hid (Below wr.heap.size wr wx))
        case first =>
          obtain ⟨j, hj⟩ : ∃ j : Nat, i = T + j := ⟨i - T, by omega⟩
          have hji : (i : Int) - (T : Int) = (j : Int) := by omega
          have hjl : j < e2.length := by have := HL.out.2.1; omega
          obtain ⟨x2, hx2⟩ : ∃ x2, e2[j]? = some x2 := ⟨_, List.getElem?_eq_getElem hjl⟩
          have hsA := hsd.1 (by omega) (by omega)
          rw [show i - T = j from by omega, ← HR2.out, ← HR3.out, rws_at hx2, rws_at hy, rws_at hx3] at hsA
          have HEQ2 : Hid (x2.r = y.r) := Lib.hid (by have := hsA.1; injection this)
          have HEQ3 : Hid (x3.r = z.r) := Lib.hid (by have := hsA.2; injection this with this; rw [this]; exact HZ.out.symm)
          obtain ⟨bg, og, rfl, gB, g0, g1, g2, g3⟩ := HE8.out.ig.rows.at_ hx2
          have hcapg := HE8.out.ig.rows.cap
          have zj : (j : Int) < (e2.length : Int) := by omega
          have he2m : e2.length ≤ 1000 := by have := HL.out.2.1; omega
          have hHS2 := fun V' (hV : Below wr.heap.size wr V') => same_c x2.r y.r x2.A y.A x2.c y.c V' ((HE8.out.ig.els x2 (List.mem_of_getElem? hx2)).on hV) ((HE8.out.il.els y (List.mem_of_getElem? hy)).on hV)
          rw [decide_eq_true HEQ2.out] at hHS2
          simp only [rwV_eq] at hHS2
          have HS2 := Lib.hid hHS2
          clear hHS2
          have hHS3 := fun V' (hV : Below wr.heap.size wr V') => same_c x3.r z.r x3.A z.A x3.c z.c V' ((HE8.out.ic.els x3 (List.mem_of_getElem? hx3)).on hV) (HE8.out.iz.on hV)
          rw [decide_eq_true HEQ3.out] at hHS3
          simp only [rwV_eq] at hHS3
          have HS3 := Lib.hid hHS3
          clear hHS3
          have m0 := Ext.cell (w := wr) (B := wr.heap.size) (p := ⟨bg, og + j * 4, none⟩) gB g0
          have m1 := Ext.cell (w := wr) (B := wr.heap.size) (p := ⟨bg, og + j * 4 + 1, none⟩) gB g1
          have m2 := Ext.cell (w := wr) (B := wr.heap.size) (p := ⟨bg, og + j * 4 + 2, none⟩) gB g2
          have m3 := Ext.cell (w := wr) (B := wr.heap.size) (p := ⟨bg, og + j * 4 + 3, none⟩) gB g3
          have n0 := Ext.cell (w := wr) (B := wr.heap.size) (p := ⟨b0, o0 + i * 4, none⟩) pB p0
          have n1 := Ext.cell (w := wr) (B := wr.heap.size) (p := ⟨b0, o0 + i * 4 + 1, none⟩) pB p1
          have n2 := Ext.cell (w := wr) (B := wr.heap.size) (p := ⟨b0, o0 + i * 4 + 2, none⟩) pB p2
          have n3 := Ext.cell (w := wr) (B := wr.heap.size) (p := ⟨b0, o0 + i * 4 + 3, none⟩) pB p3
          have l0 := Ext.cell (w := wr) (B := wr.heap.size) (p := ⟨bc, oc + i * 4, none⟩) rB r0
          have l1 := Ext.cell (w := wr) (B := wr.heap.size) (p := ⟨bc, oc + i * 4 + 1, none⟩) rB r1
          have l2 := Ext.cell (w := wr) (B := wr.heap.size) (p := ⟨bc, oc + i * 4 + 2, none⟩) rB r2
          have l3 := Ext.cell (w := wr) (B := wr.heap.size) (p := ⟨bc, oc + i * 4 + 3, none⟩) rB r3
          have k0 := Ext.cell (w := wr) (B := wr.heap.size) HE8.out.bz.lt (show wr.cell? ⟨bb, 0, none⟩ = some (.slice z.A z.r.cs.length z.c) from HE8.out.bz.cell 0)
          have k1 := Ext.cell (w := wr) (B := wr.heap.size) HE8.out.bz.lt (show wr.cell? ⟨bb, 1, none⟩ = some (.bool z.r.wrap) from HE8.out.bz.cell 1)
          have k2 := Ext.cell (w := wr) (B := wr.heap.size) HE8.out.bz.lt (show wr.cell? ⟨bb, 2, none⟩ = some (.int .i64 z.r.dir) from HE8.out.bz.cell 2)
          have k3 := Ext.cell (w := wr) (B := wr.heap.size) HE8.out.bz.lt (show wr.cell? ⟨bb, 3, none⟩ = some (.bool z.r.ex) from HE8.out.bz.cell 3)
          have d0 := Ext.cell (w := wr) (B := wr.heap.size) HE8.out.bc.lt (show wr.cell? ⟨cb, 0, none⟩ = some (.slice (some ⟨bc, oc, none⟩) e3.length c3) from HE8.out.bc.cell 0)
          have HJ := Lib.hid hj
          clear hsA hx2 hj hjl gB g0 g1 g2 g3 pB p0 p1 p2 p3 rB r0 r1 r2 r3 qB q0 q1 q2 q3 hy hx1 hx3 hsd
          go_upto_region 20 with fail
          refine region_plan [([0, 1, 2, 3, 4, 5, 6, 7, 8, 9], [10]), ([11, 12, 13, 14, 15, 16, 17, 18], [19]), ([20, 21], [])] (fun w' => ∃ u : Ext wr wr.heap.size, w' = u.val) (by kernel_rfl) (by kernel_rfl) (fun _ _ _ _ _ h => h) ⟨⟨_, (Below.refl _ _).drew⟩, rfl⟩ ?_
          simp only [wpPlan, sel, List.take_succ_cons, List.take_zero, List.drop_succ_cons, List.drop_zero, List.cons_append, List.nil_append]
          repeat (go_big_quiet_step (fail))
          refine wpQuiet_nil ?_
          unfold wpChain
          go_wp2_with fail
          refine (HS2.out _ (Below.refl _ _).drew).mono ?_
          rintro e v9 ⟨rfl, hb⟩
          have Hv9 : Hid (Below wr.heap.size wr v9) := Lib.hid ((Below.refl wr.heap.size wr).drew.trans hb)
          clear hb
          go_wp2_with fail
          refine ⟨⟨⟨_, Hv9.out⟩, rfl⟩, ?_⟩
          unfold wpChain
          try simp only [Act.put, List.setIfInBounds_toArray, List.set_cons_succ, List.set_cons_zero]
          repeat (go_big_quiet_step (fail))
          refine wpQuiet_nil ?_
          unfold wpChain
          go_wp2_with fail
          refine (HS3.out _ Hv9.out).mono ?_
          rintro e v10 ⟨rfl, hb⟩
          have Hv10 : Hid (Below wr.heap.size wr v10) := Lib.hid (Hv9.out.trans (hb.mono Hv9.out.size))
          clear hb
          go_wp2_with fail
          refine ⟨⟨⟨_, Hv10.out⟩, rfl⟩, ?_⟩
          unfold wpChain
          try simp only [Act.put, List.setIfInBounds_toArray, List.set_cons_succ, List.set_cons_zero]
          repeat (go_big_quiet_step (fail))
          refine wpQuiet_nil ?_
          unfold wpChain
          go_wp2_with fail
          go_meet
          exact Hv10
        case rest =>
          clear pB p0 p1 p2 p3 rB r0 r1 r2 r3 qB q0 q1 q2 q3 hy hx1 hx3 hsd HE8
          have HE8 := Lib.hid (HEo.out.on hcut.out)
          clear hcut HEo
          obtain ⟨pB, p0, p1, p2, p3⟩ := HE8.out.il.rows.at2 HY.out.1
          obtain ⟨qB, q0, q1, q2, q3⟩ := HE8.out.ia.rows.at2 HY.out.2
          have hy := HY.out.1
          have hx1 := HY.out.2
          have hsd := HSD.out
          clear HY
          rcases (show i < T ∨ E ≤ i ∨ (T ≤ i ∧ i < E ∧ (i : Int) < (E : Int) - K) ∨ (T ≤ i ∧ i < E ∧ (E : Int) - K ≤ i) by omega) with hc | hc | ⟨hc, hc1, hc2⟩ | ⟨hc, hc1, hc2⟩
          · exfalso; omega
          · exfalso; omega
          · have y1 : ¬ (i : Int) < (T : Int) := by omega
            have d1 : decide ((i : Int) < (T : Int)) = false := decide_eq_false y1
            have y2 : ¬ (i : Int) ≥ (E : Int) := by omega
            have d2 : decide ((i : Int) ≥ (E : Int)) = false := decide_eq_false y2
            have y3 : ¬ (i : Int) ≥ (E : Int) - (K : Int) := by omega
            have d3 : decide ((i : Int) ≥ (E : Int) - (K : Int)) = false := decide_eq_false y3
            clear pB p0 p1 p2 p3 qB q0 q1 q2 q3 hy hx1 hsd
            go_upto_region 24 with fail
            refine region_plan [([0, 1, 2, 3, 4, 5, 6, 7, 8, 9, 10, 11, 12, 13, 14, 15, 16, 17], [18]), ([19, 20, 21, 22, 23, 24, 25, 26, 27, 28, 29, 30, 31, 32, 33, 34, 35, 36, 37, 38], [39]), ([40, 41, 42], [])] (fun w' => ∃ u : Ext wc wc.heap.size, w' = u.val) (by kernel_rfl) (by kernel_rfl) (fun _ _ _ _ _ h => h) ⟨⟨_, (Below.refl _ _).drew⟩, rfl⟩ ?_
            simp only [wpPlan, sel, List.take_succ_cons, List.take_zero, List.drop_succ_cons, List.drop_zero, List.cons_append, List.nil_append]
            repeat (go_big_quiet_step (fail))
            refine wpQuiet_nil ?_
            unfold wpChain
            refine ⟨⟨⟨_, (Below.refl _ _).drew⟩, rfl⟩, ?_⟩
            unfold wpChain
            try simp only [Act.put, List.setIfInBounds_toArray, List.set_cons_succ, List.set_cons_zero]
            repeat (go_big_quiet_step (fail))
            refine wpQuiet_nil ?_
            unfold wpChain
            refine ⟨⟨⟨_, (Below.refl _ _).drew⟩, rfl⟩, ?_⟩
            unfold wpChain
            try simp only [Act.put, List.setIfInBounds_toArray, List.set_cons_succ, List.set_cons_zero]
            repeat (go_big_quiet_step (fail))
            refine wpQuiet_nil ?_
            unfold wpChain
            have HE9 := Lib.hid (HE8.out.on (Below.refl wc.heap.size wc).drew)
            go_wp2_with fail
            exact ⟨⟨i + 1, by omega, by go_num, HE9⟩, by simp [intOf]; omega⟩
          · have y1 : ¬ (i : Int) < (T : Int) := by omega
            have d1 : decide ((i : Int) < (T : Int)) = false := decide_eq_false y1
            have y2 : ¬ (i : Int) ≥ (E : Int) := by omega
            have d2 : decide ((i : Int) ≥ (E : Int)) = false := decide_eq_false y2
            have y3 : (i : Int) ≥ (E : Int) - (K : Int) := by omega
            have d3 : decide ((i : Int) ≥ (E : Int) - (K : Int)) = true := decide_eq_true y3
            have y4 : (i : Int) < (E : Int) := by omega
            have d4 : decide ((i : Int) < (E : Int)) = true := decide_eq_true y4
            have hsC := hsd.2.2.2 (by omega) (by omega)
            rw [← HR1.out, rws_at hx1] at hsC
            have HEQ1 : Hid (x1.r = z.r) := Lib.hid (by injection hsC with hsC; rw [hsC]; exact HZ.out.symm)
            have hHS1 := fun V' (hV : Below wc.heap.size wc V') => same_c x1.r z.r x1.A z.A x1.c z.c V' ((HE8.out.ia.els x1 (List.mem_of_getElem? hx1)).on hV) (HE8.out.iz.on hV)
            rw [decide_eq_true HEQ1.out] at hHS1
            simp only [rwV_eq] at hHS1
            have HS1 := Lib.hid hHS1
            clear hHS1
            have l0 := Ext.cell (w := wc) (B := wc.heap.size) (p := ⟨ba, oa + i * 4, none⟩) qB q0
            have l1 := Ext.cell (w := wc) (B := wc.heap.size) (p := ⟨ba, oa + i * 4 + 1, none⟩) qB q1
            have l2 := Ext.cell (w := wc) (B := wc.heap.size) (p := ⟨ba, oa + i * 4 + 2, none⟩) qB q2
            have l3 := Ext.cell (w := wc) (B := wc.heap.size) (p := ⟨ba, oa + i * 4 + 3, none⟩) qB q3
            have k0 := Ext.cell (w := wc) (B := wc.heap.size) HE8.out.bz.lt (show wc.cell? ⟨bb, 0, none⟩ = some (.slice z.A z.r.cs.length z.c) from HE8.out.bz.cell 0)
            have k1 := Ext.cell (w := wc) (B := wc.heap.size) HE8.out.bz.lt (show wc.cell? ⟨bb, 1, none⟩ = some (.bool z.r.wrap) from HE8.out.bz.cell 1)
            have k2 := Ext.cell (w := wc) (B := wc.heap.size) HE8.out.bz.lt (show wc.cell? ⟨bb, 2, none⟩ = some (.int .i64 z.r.dir) from HE8.out.bz.cell 2)
            have k3 := Ext.cell (w := wc) (B := wc.heap.size) HE8.out.bz.lt (show wc.cell? ⟨bb, 3, none⟩ = some (.bool z.r.ex) from HE8.out.bz.cell 3)
            have d0 := Ext.cell (w := wc) (B := wc.heap.size) HE8.out.ba.lt (show wc.cell? ⟨ab, 0, none⟩ = some (.slice (some ⟨ba, oa, none⟩) e1.length c1) from HE8.out.ba.cell 0)
            clear hsC
            clear pB p0 p1 p2 p3 qB q0 q1 q2 q3 hy hx1 hsd
            go_upto_region 24 with fail
            refine region_plan [([0, 1, 2, 3, 4, 5, 6, 7, 8, 9, 10, 11, 12, 13, 14, 15, 16, 17], [18]), ([19, 20, 21, 22, 23, 24, 25, 26, 27, 28, 29, 30, 31, 32, 33, 34, 35, 36, 37, 38], [39]), ([40, 41, 42], [])] (fun w' => ∃ u : Ext wc wc.heap.size, w' = u.val) (by kernel_rfl) (by kernel_rfl) (fun _ _ _ _ _ h => h) ⟨⟨_, (Below.refl _ _).drew⟩, rfl⟩ ?_
            simp only [wpPlan, sel, List.take_succ_cons, List.take_zero, List.drop_succ_cons, List.drop_zero, List.cons_append, List.nil_append]
            repeat (go_big_quiet_step (fail))
            refine wpQuiet_nil ?_
            unfold wpChain
            refine ⟨⟨⟨_, (Below.refl _ _).drew⟩, rfl⟩, ?_⟩
            unfold wpChain
            try simp only [Act.put, List.setIfInBounds_toArray, List.set_cons_succ, List.set_cons_zero]
            repeat (go_big_quiet_step (fail))
            refine wpQuiet_nil ?_
            unfold wpChain
            go_wp2_with fail
            refine (HS1.out _ (Below.refl _ _).drew).mono ?_
            rintro e v9 ⟨rfl, hb⟩
            have Hv9 : Hid (Below wc.heap.size wc v9) := Lib.hid ((Below.refl wc.heap.size wc).drew.trans hb)
            clear hb
            go_wp2_with fail
            refine ⟨⟨⟨_, Hv9.out⟩, rfl⟩, ?_⟩
            unfold wpChain
            try simp only [Act.put, List.setIfInBounds_toArray, List.set_cons_succ, List.set_cons_zero]
            repeat (go_big_quiet_step (fail))
            refine wpQuiet_nil ?_
            unfold wpChain
            have HE9 := Lib.hid (HE8.out.on Hv9.out)
            go_wp2_with fail
            exact ⟨⟨i + 1, by omega, by go_num, HE9⟩, by simp [intOf]; omega⟩
      · rcases (show i < T ∨ (T ≤ i ∧ T + K ≤ i) by omega) with hc0 | ⟨hc0, hc0'⟩
        · have hz1 : ¬ (i : Int) ≥ (T : Int) := by omega
          go_upto_if 117 with fail
          go_cut [] (fun wx => Hid (Below wr.heap.size wr wx))
          case first =>
            have hsB := hsd.2.1 hin1
            rw [← HR3.out, rws_at hx3, rws_at hy] at hsB
            have HEQ3 : Hid (x3.r = y.r) := Lib.hid (by injection hsB)
            have hHS3 := fun V' (hV : Below wr.heap.size wr V') => same_c x3.r y.r x3.A y.A x3.c y.c V' ((HE8.out.ic.els x3 (List.mem_of_getElem? hx3)).on hV) ((HE8.out.il.els y (List.mem_of_getElem? hy)).on hV)
            rw [decide_eq_true HEQ3.out] at hHS3
            simp only [rwV_eq] at hHS3
            have HS3 := Lib.hid hHS3
            clear hHS3
            have n0 := Ext.cell (w := wr) (B := wr.heap.size) (p := ⟨b0, o0 + i * 4, none⟩) pB p0
            have n1 := Ext.cell (w := wr) (B := wr.heap.size) (p := ⟨b0, o0 + i * 4 + 1, none⟩) pB p1
            have n2 := Ext.cell (w := wr) (B := wr.heap.size) (p := ⟨b0, o0 + i * 4 + 2, none⟩) pB p2
            have n3 := Ext.cell (w := wr) (B := wr.heap.size) (p := ⟨b0, o0 + i * 4 + 3, none⟩) pB p3
            have l0 := Ext.cell (w := wr) (B := wr.heap.size) (p := ⟨bc, oc + i * 4, none⟩) rB r0
            have l1 := Ext.cell (w := wr) (B := wr.heap.size) (p := ⟨bc, oc + i * 4 + 1, none⟩) rB r1
            have l2 := Ext.cell (w := wr) (B := wr.heap.size) (p := ⟨bc, oc + i * 4 + 2, none⟩) rB r2
            have l3 := Ext.cell (w := wr) (B := wr.heap.size) (p := ⟨bc, oc + i * 4 + 3, none⟩) rB r3
            have d0 := Ext.cell (w := wr) (B := wr.heap.size) HE8.out.bc.lt (show wr.cell? ⟨cb, 0, none⟩ = some (.slice (some ⟨bc, oc, none⟩) e3.length c3) from HE8.out.bc.cell 0)
            clear hsB pB p0 p1 p2 p3 rB r0 r1 r2 r3 qB q0 q1 q2 q3 hy hx1 hx3 hsd
            go_upto_region 22 with fail
            refine region_plan [([0, 1, 2, 3, 4, 5, 6, 7, 8], [9]), ([10], [])] (fun w' => ∃ u : Ext wr wr.heap.size, w' = u.val) (by kernel_rfl) (by kernel_rfl) (fun _ _ _ _ _ h => h) ⟨⟨_, (Below.refl _ _).drew⟩, rfl⟩ ?_
            simp only [wpPlan, sel, List.take_succ_cons, List.take_zero, List.drop_succ_cons, List.drop_zero, List.cons_append, List.nil_append]
            repeat (go_big_quiet_step (fail))
            refine wpQuiet_nil ?_
            unfold wpChain
            go_wp2_with fail
            refine (HS3.out _ (Below.refl _ _).drew).mono ?_
            rintro e v9 ⟨rfl, hb⟩
            have Hv9 : Hid (Below wr.heap.size wr v9) := Lib.hid ((Below.refl wr.heap.size wr).drew.trans hb)
            clear hb
            go_wp2_with fail
            refine ⟨⟨⟨_, Hv9.out⟩, rfl⟩, ?_⟩
            unfold wpChain
            try simp only [Act.put, List.setIfInBounds_toArray, List.set_cons_succ, List.set_cons_zero]
            repeat (go_big_quiet_step (fail))
            refine wpQuiet_nil ?_
            unfold wpChain
            go_wp2_with fail
            go_meet
            exact Hv9
          case rest =>
            clear pB p0 p1 p2 p3 rB r0 r1 r2 r3 qB q0 q1 q2 q3 hy hx1 hx3 hsd HE8
            have HE8 := Lib.hid (HEo.out.on hcut.out)
            clear hcut HEo
            obtain ⟨pB, p0, p1, p2, p3⟩ := HE8.out.il.rows.at2 HY.out.1
            obtain ⟨qB, q0, q1, q2, q3⟩ := HE8.out.ia.rows.at2 HY.out.2
            have hy := HY.out.1
            have hx1 := HY.out.2
            have hsd := HSD.out
            clear HY
            rcases (show i < T ∨ E ≤ i ∨ (T ≤ i ∧ i < E ∧ (i : Int) < (E : Int) - K) ∨ (T ≤ i ∧ i < E ∧ (E : Int) - K ≤ i) by omega) with hc | hc | ⟨hc, hc1, hc2⟩ | ⟨hc, hc1, hc2⟩
            · have y1 : (i : Int) < (T : Int) := by omega
              have d1 : decide ((i : Int) < (T : Int)) = true := decide_eq_true y1
              have y2 : ¬ (i : Int) ≥ (E : Int) - (K : Int) := by omega
              have d2 : decide ((i : Int) ≥ (E : Int) - (K : Int)) = false := decide_eq_false y2
              have hsC := hsd.2.2.1 (by omega)
              rw [← HR1.out, rws_at hx1, rws_at hy] at hsC
              have HEQ1 : Hid (x1.r = y.r) := Lib.hid (by injection hsC)
              have hHS1 := fun V' (hV : Below wc.heap.size wc V') => same_c x1.r y.r x1.A y.A x1.c y.c V' ((HE8.out.ia.els x1 (List.mem_of_getElem? hx1)).on hV) ((HE8.out.il.els y (List.mem_of_getElem? hy)).on hV)
              rw [decide_eq_true HEQ1.out] at hHS1
              simp only [rwV_eq] at hHS1
              have HS1 := Lib.hid hHS1
              clear hHS1
              have n0 := Ext.cell (w := wc) (B := wc.heap.size) (p := ⟨b0, o0 + i * 4, none⟩) pB p0
              have n1 := Ext.cell (w := wc) (B := wc.heap.size) (p := ⟨b0, o0 + i * 4 + 1, none⟩) pB p1
              have n2 := Ext.cell (w := wc) (B := wc.heap.size) (p := ⟨b0, o0 + i * 4 + 2, none⟩) pB p2
              have n3 := Ext.cell (w := wc) (B := wc.heap.size) (p := ⟨b0, o0 + i * 4 + 3, none⟩) pB p3
              have l0 := Ext.cell (w := wc) (B := wc.heap.size) (p := ⟨ba, oa + i * 4, none⟩) qB q0
              have l1 := Ext.cell (w := wc) (B := wc.heap.size) (p := ⟨ba, oa + i * 4 + 1, none⟩) qB q1
              have l2 := Ext.cell (w := wc) (B := wc.heap.size) (p := ⟨ba, oa + i * 4 + 2, none⟩) qB q2
              have l3 := Ext.cell (w := wc) (B := wc.heap.size) (p := ⟨ba, oa + i * 4 + 3, none⟩) qB q3
              have d0 := Ext.cell (w := wc) (B := wc.heap.size) HE8.out.ba.lt (show wc.cell? ⟨ab, 0, none⟩ = some (.slice (some ⟨ba, oa, none⟩) e1.length c1) from HE8.out.ba.cell 0)
              clear hsC
              clear pB p0 p1 p2 p3 qB q0 q1 q2 q3 hy hx1 hsd
              go_upto_region 24 with fail
              refine region_plan [([0, 1, 2, 3, 4, 5, 6, 7, 8, 9, 10, 11, 12, 13, 14, 15, 16, 17], [18]), ([19, 20, 21, 22, 23, 24, 25, 26, 27, 28, 29, 30, 31, 32, 33, 34, 35, 36, 37, 38], [39]), ([40, 41, 42], [])] (fun w' => ∃ u : Ext wc wc.heap.size, w' = u.val) (by kernel_rfl) (by kernel_rfl) (fun _ _ _ _ _ h => h) ⟨⟨_, (Below.refl _ _).drew⟩, rfl⟩ ?_
              simp only [wpPlan, sel, List.take_succ_cons, List.take_zero, List.drop_succ_cons, List.drop_zero, List.cons_append, List.nil_append]
              repeat (go_big_quiet_step (fail))
              refine wpQuiet_nil ?_
              unfold wpChain
              go_wp2_with fail
              refine (HS1.out _ (Below.refl _ _).drew).mono ?_
              rintro e v9 ⟨rfl, hb⟩
              have Hv9 : Hid (Below wc.heap.size wc v9) := Lib.hid ((Below.refl wc.heap.size wc).drew.trans hb)
              clear hb
              go_wp2_with fail
              refine ⟨⟨⟨_, Hv9.out⟩, rfl⟩, ?_⟩
              unfold wpChain
              try simp only [Act.put, List.setIfInBounds_toArray, List.set_cons_succ, List.set_cons_zero]
              repeat (go_big_quiet_step (fail))
              refine wpQuiet_nil ?_
              unfold wpChain
              refine ⟨⟨⟨_, Hv9.out⟩, rfl⟩, ?_⟩
              unfold wpChain
              try simp only [Act.put, List.setIfInBounds_toArray, List.set_cons_succ, List.set_cons_zero]
              repeat (go_big_quiet_step (fail))
              refine wpQuiet_nil ?_
              unfold wpChain
              have HE9 := Lib.hid (HE8.out.on Hv9.out)
              go_wp2_with fail
              exact ⟨⟨i + 1, by omega, by go_num, HE9⟩, by simp [intOf]; omega⟩
            · exfalso; omega
            · exfalso; omega
            · exfalso; omega
        · have hz1 : (i : Int) ≥ (T : Int) := by omega
          have hz2 : ¬ (i : Int) < (T : Int) + (K : Int) := by omega
          go_upto_if 117 with fail
          go_cut [] (fun wx => Hid (Below wr.heap.size wr wx))
          case first =>
            have hsB := hsd.2.1 hin1
            rw [← HR3.out, rws_at hx3, rws_at hy] at hsB
            have HEQ3 : Hid (x3.r = y.r) := Lib.hid (by injection hsB)
            have hHS3 := fun V' (hV : Below wr.heap.size wr V') => same_c x3.r y.r x3.A y.A x3.c y.c V' ((HE8.out.ic.els x3 (List.mem_of_getElem? hx3)).on hV) ((HE8.out.il.els y (List.mem_of_getElem? hy)).on hV)
            rw [decide_eq_true HEQ3.out] at hHS3
            simp only [rwV_eq] at hHS3
            have HS3 := Lib.hid hHS3
            clear hHS3
            have n0 := Ext.cell (w := wr) (B := wr.heap.size) (p := ⟨b0, o0 + i * 4, none⟩) pB p0
            have n1 := Ext.cell (w := wr) (B := wr.heap.size) (p := ⟨b0, o0 + i * 4 + 1, none⟩) pB p1
            have n2 := Ext.cell (w := wr) (B := wr.heap.size) (p := ⟨b0, o0 + i * 4 + 2, none⟩) pB p2
            have n3 := Ext.cell (w := wr) (B := wr.heap.size) (p := ⟨b0, o0 + i * 4 + 3, none⟩) pB p3
            have l0 := Ext.cell (w := wr) (B := wr.heap.size) (p := ⟨bc, oc + i * 4, none⟩) rB r0
            have l1 := Ext.cell (w := wr) (B := wr.heap.size) (p := ⟨bc, oc + i * 4 + 1, none⟩) rB r1
            have l2 := Ext.cell (w := wr) (B := wr.heap.size) (p := ⟨bc, oc + i * 4 + 2, none⟩) rB r2
            have l3 := Ext.cell (w := wr) (B := wr.heap.size) (p := ⟨bc, oc + i * 4 + 3, none⟩) rB r3
            have d0 := Ext.cell (w := wr) (B := wr.heap.size) HE8.out.bc.lt (show wr.cell? ⟨cb, 0, none⟩ = some (.slice (some ⟨bc, oc, none⟩) e3.length c3) from HE8.out.bc.cell 0)
            clear hsB pB p0 p1 p2 p3 rB r0 r1 r2 r3 qB q0 q1 q2 q3 hy hx1 hx3 hsd
            go_upto_region 22 with fail
            refine region_plan [([0, 1, 2, 3, 4, 5, 6, 7, 8], [9]), ([10], [])] (fun w' => ∃ u : Ext wr wr.heap.size, w' = u.val) (by kernel_rfl) (by kernel_rfl) (fun _ _ _ _ _ h => h) ⟨⟨_, (Below.refl _ _).drew⟩, rfl⟩ ?_
            simp only [wpPlan, sel, List.take_succ_cons, List.take_zero, List.drop_succ_cons, List.drop_zero, List.cons_append, List.nil_append]
            repeat (go_big_quiet_step (fail))
            refine wpQuiet_nil ?_
            unfold wpChain
            go_wp2_with fail
            refine (HS3.out _ (Below.refl _ _).drew).mono ?_
            rintro e v9 ⟨rfl, hb⟩
            have Hv9 : Hid (Below wr.heap.size wr v9) := Lib.hid ((Below.refl wr.heap.size wr).drew.trans hb)
            clear hb
            go_wp2_with fail
            refine ⟨⟨⟨_, Hv9.out⟩, rfl⟩, ?_⟩
            unfold wpChain
            try simp only [Act.put, List.setIfInBounds_toArray, List.set_cons_succ, List.set_cons_zero]
            repeat (go_big_quiet_step (fail))
            refine wpQuiet_nil ?_
            unfold wpChain
            go_wp2_with fail
            go_meet
            exact Hv9
          case rest =>
            clear pB p0 p1 p2 p3 rB r0 r1 r2 r3 qB q0 q1 q2 q3 hy hx1 hx3 hsd HE8
            have HE8 := Lib.hid (HEo.out.on hcut.out)
            clear hcut HEo
            obtain ⟨pB, p0, p1, p2, p3⟩ := HE8.out.il.rows.at2 HY.out.1
            obtain ⟨qB, q0, q1, q2, q3⟩ := HE8.out.ia.rows.at2 HY.out.2
            have hy := HY.out.1
            have hx1 := HY.out.2
            have hsd := HSD.out
            clear HY
            rcases (show i < T ∨ E ≤ i ∨ (T ≤ i ∧ i < E ∧ (i : Int) < (E : Int) - K) ∨ (T ≤ i ∧ i < E ∧ (E : Int) - K ≤ i) by omega) with hc | hc | ⟨hc, hc1, hc2⟩ | ⟨hc, hc1, hc2⟩
            · exfalso; omega
            · have y1 : ¬ (i : Int) < (T : Int) := by omega
              have d1 : decide ((i : Int) < (T : Int)) = false := decide_eq_false y1
              have y2 : (i : Int) ≥ (E : Int) := by omega
              have d2 : decide ((i : Int) ≥ (E : Int)) = true := decide_eq_true y2
              have y3 : (i : Int) ≥ (E : Int) - (K : Int) := by omega
              have d3 : decide ((i : Int) ≥ (E : Int) - (K : Int)) = true := decide_eq_true y3
              have y4 : ¬ (i : Int) < (E : Int) := by omega
              have d4 : decide ((i : Int) < (E : Int)) = false := decide_eq_false y4
              have dn4 : decide (i < E) = false := decide_eq_false (by omega)
              have hsC := hsd.2.2.1 (by omega)
              rw [← HR1.out, rws_at hx1, rws_at hy] at hsC
              have HEQ1 : Hid (x1.r = y.r) := Lib.hid (by injection hsC)
              have hHS1 := fun V' (hV : Below wc.heap.size wc V') => same_c x1.r y.r x1.A y.A x1.c y.c V' ((HE8.out.ia.els x1 (List.mem_of_getElem? hx1)).on hV) ((HE8.out.il.els y (List.mem_of_getElem? hy)).on hV)
              rw [decide_eq_true HEQ1.out] at hHS1
              simp only [rwV_eq] at hHS1
              have HS1 := Lib.hid hHS1
              clear hHS1
              have n0 := Ext.cell (w := wc) (B := wc.heap.size) (p := ⟨b0, o0 + i * 4, none⟩) pB p0
              have n1 := Ext.cell (w := wc) (B := wc.heap.size) (p := ⟨b0, o0 + i * 4 + 1, none⟩) pB p1
              have n2 := Ext.cell (w := wc) (B := wc.heap.size) (p := ⟨b0, o0 + i * 4 + 2, none⟩) pB p2
              have n3 := Ext.cell (w := wc) (B := wc.heap.size) (p := ⟨b0, o0 + i * 4 + 3, none⟩) pB p3
              have l0 := Ext.cell (w := wc) (B := wc.heap.size) (p := ⟨ba, oa + i * 4, none⟩) qB q0
              have l1 := Ext.cell (w := wc) (B := wc.heap.size) (p := ⟨ba, oa + i * 4 + 1, none⟩) qB q1
              have l2 := Ext.cell (w := wc) (B := wc.heap.size) (p := ⟨ba, oa + i * 4 + 2, none⟩) qB q2
              have l3 := Ext.cell (w := wc) (B := wc.heap.size) (p := ⟨ba, oa + i * 4 + 3, none⟩) qB q3
              have d0 := Ext.cell (w := wc) (B := wc.heap.size) HE8.out.ba.lt (show wc.cell? ⟨ab, 0, none⟩ = some (.slice (some ⟨ba, oa, none⟩) e1.length c1) from HE8.out.ba.cell 0)
              clear hsC
              clear pB p0 p1 p2 p3 qB q0 q1 q2 q3 hy hx1 hsd
              go_upto_region 24 with fail
              refine region_plan [([0, 1, 2, 3, 4, 5, 6, 7, 8, 9, 10, 11, 12, 13, 14, 15, 16, 17], [18]), ([19, 20, 21, 22, 23, 24, 25, 26, 27, 28, 29, 30, 31, 32, 33, 34, 35, 36, 37, 38], [39]), ([40, 41, 42], [])] (fun w' => ∃ u : Ext wc wc.heap.size, w' = u.val) (by kernel_rfl) (by kernel_rfl) (fun _ _ _ _ _ h => h) ⟨⟨_, (Below.refl _ _).drew⟩, rfl⟩ ?_
              simp only [wpPlan, sel, List.take_succ_cons, List.take_zero, List.drop_succ_cons, List.drop_zero, List.cons_append, List.nil_append]
              repeat (go_big_quiet_step (fail))
              refine wpQuiet_nil ?_
              unfold wpChain
              go_wp2_with fail
              refine (HS1.out _ (Below.refl _ _).drew).mono ?_
              rintro e v9 ⟨rfl, hb⟩
              have Hv9 : Hid (Below wc.heap.size wc v9) := Lib.hid ((Below.refl wc.heap.size wc).drew.trans hb)
              clear hb
              go_wp2_with fail
              refine ⟨⟨⟨_, Hv9.out⟩, rfl⟩, ?_⟩
              unfold wpChain
              try simp only [Act.put, List.setIfInBounds_toArray, List.set_cons_succ, List.set_cons_zero]
              repeat (go_big_quiet_step (fail))
              refine wpQuiet_nil ?_
              unfold wpChain
              refine ⟨⟨⟨_, Hv9.out⟩, rfl⟩, ?_⟩
              unfold wpChain
              try simp only [Act.put, List.setIfInBounds_toArray, List.set_cons_succ, List.set_cons_zero]
              repeat (go_big_quiet_step (fail))
              refine wpQuiet_nil ?_
              unfold wpChain
              have HE9 := Lib.hid (HE8.out.on Hv9.out)
              go_wp2_with fail
              exact ⟨⟨i + 1, by omega, by go_num, HE9⟩, by simp [intOf]; omega⟩
            · have y1 : ¬ (i : Int) < (T : Int) := by omega
              have d1 : decide ((i : Int) < (T : Int)) = false := decide_eq_false y1
              have y2 : ¬ (i : Int) ≥ (E : Int) := by omega
              have d2 : decide ((i : Int) ≥ (E : Int)) = false := decide_eq_false y2
              have y3 : ¬ (i : Int) ≥ (E : Int) - (K : Int) := by omega
              have d3 : decide ((i : Int) ≥ (E : Int) - (K : Int)) = false := decide_eq_false y3
              clear pB p0 p1 p2 p3 qB q0 q1 q2 q3 hy hx1 hsd
              go_upto_region 24 with fail
              refine region_plan [([0, 1, 2, 3, 4, 5, 6, 7, 8, 9, 10, 11, 12, 13, 14, 15, 16, 17], [18]), ([19, 20, 21, 22, 23, 24, 25, 26, 27, 28, 29, 30, 31, 32, 33, 34, 35, 36, 37, 38], [39]), ([40, 41, 42], [])] (fun w' => ∃ u : Ext wc wc.heap.size, w' = u.val) (by kernel_rfl) (by kernel_rfl) (fun _ _ _ _ _ h => h) ⟨⟨_, (Below.refl _ _).drew⟩, rfl⟩ ?_
              simp only [wpPlan, sel, List.take_succ_cons, List.take_zero, List.drop_succ_cons, List.drop_zero, List.cons_append, List.nil_append]
              repeat (go_big_quiet_step (fail))
              refine wpQuiet_nil ?_
              unfold wpChain
              refine ⟨⟨⟨_, (Below.refl _ _).drew⟩, rfl⟩, ?_⟩
              unfold wpChain
              try simp only [Act.put, List.setIfInBounds_toArray, List.set_cons_succ, List.set_cons_zero]
              repeat (go_big_quiet_step (fail))
              refine wpQuiet_nil ?_
              unfold wpChain
              refine ⟨⟨⟨_, (Below.refl _ _).drew⟩, rfl⟩, ?_⟩
              unfold wpChain
              try simp only [Act.put, List.setIfInBounds_toArray, List.set_cons_succ, List.set_cons_zero]
              repeat (go_big_quiet_step (fail))
              refine wpQuiet_nil ?_
              unfold wpChain
              have HE9 := Lib.hid (HE8.out.on (Below.refl wc.heap.size wc).drew)
              go_wp2_with fail
              exact ⟨⟨i + 1, by omega, by go_num, HE9⟩, by simp [intOf]; omega⟩
            · have y1 : ¬ (i : Int) < (T : Int) := by omega
              have d1 : decide ((i : Int) < (T : Int)) = false := decide_eq_false y1
              have y2 : ¬ (i : Int) ≥ (E : Int) := by omega
              have d2 : decide ((i : Int) ≥ (E : Int)) = false := decide_eq_false y2
              have y3 : (i : Int) ≥ (E : Int) - (K : Int) := by omega
              have d3 : decide ((i : Int) ≥ (E : Int) - (K : Int)) = true := decide_eq_true y3
              have y4 : (i : Int) < (E : Int) := by omega
              have d4 : decide ((i : Int) < (E : Int)) = true := decide_eq_true y4
              have hsC := hsd.2.2.2 (by omega) (by omega)
              rw [← HR1.out, rws_at hx1] at hsC
              have HEQ1 : Hid (x1.r = z.r) := Lib.hid (by injection hsC with hsC; rw [hsC]; exact HZ.out.symm)
              have hHS1 := fun V' (hV : Below wc.heap.size wc V') => same_c x1.r z.r x1.A z.A x1.c z.c V' ((HE8.out.ia.els x1 (List.mem_of_getElem? hx1)).on hV) (HE8.out.iz.on hV)
              rw [decide_eq_true HEQ1.out] at hHS1
              simp only [rwV_eq] at hHS1
              have HS1 := Lib.hid hHS1
              clear hHS1
              have l0 := Ext.cell (w := wc) (B := wc.heap.size) (p := ⟨ba, oa + i * 4, none⟩) qB q0
              have l1 := Ext.cell (w := wc) (B := wc.heap.size) (p := ⟨ba, oa + i * 4 + 1, none⟩) qB q1
              have l2 := Ext.cell (w := wc) (B := wc.heap.size) (p := ⟨ba, oa + i * 4 + 2, none⟩) qB q2
              have l3 := Ext.cell (w := wc) (B := wc.heap.size) (p := ⟨ba, oa + i * 4 + 3, none⟩) qB q3
              have k0 := Ext.cell (w := wc) (B := wc.heap.size) HE8.out.bz.lt (show wc.cell? ⟨bb, 0, none⟩ = some (.slice z.A z.r.cs.length z.c) from HE8.out.bz.cell 0)
              have k1 := Ext.cell (w := wc) (B := wc.heap.size) HE8.out.bz.lt (show wc.cell? ⟨bb, 1, none⟩ = some (.bool z.r.wrap) from HE8.out.bz.cell 1)
              have k2 := Ext.cell (w := wc) (B := wc.heap.size) HE8.out.bz.lt (show wc.cell? ⟨bb, 2, none⟩ = some (.int .i64 z.r.dir) from HE8.out.bz.cell 2)
              have k3 := Ext.cell (w := wc) (B := wc.heap.size) HE8.out.bz.lt (show wc.cell? ⟨bb, 3, none⟩ = some (.bool z.r.ex) from HE8.out.bz.cell 3)
              have d0 := Ext.cell (w := wc) (B := wc.heap.size) HE8.out.ba.lt (show wc.cell? ⟨ab, 0, none⟩ = some (.slice (some ⟨ba, oa, none⟩) e1.length c1) from HE8.out.ba.cell 0)
              clear hsC
              clear pB p0 p1 p2 p3 qB q0 q1 q2 q3 hy hx1 hsd
              go_upto_region 24 with fail
              refine region_plan [([0, 1, 2, 3, 4, 5, 6, 7, 8, 9, 10, 11, 12, 13, 14, 15, 16, 17], [18]), ([19, 20, 21, 22, 23, 24, 25, 26, 27, 28, 29, 30, 31, 32, 33, 34, 35, 36, 37, 38], [39]), ([40, 41, 42], [])] (fun w' => ∃ u : Ext wc wc.heap.size, w' = u.val) (by kernel_rfl) (by kernel_rfl) (fun _ _ _ _ _ h => h) ⟨⟨_, (Below.refl _ _).drew⟩, rfl⟩ ?_
              simp only [wpPlan, sel, List.take_succ_cons, List.take_zero, List.drop_succ_cons, List.drop_zero, List.cons_append, List.nil_append]
              repeat (go_big_quiet_step (fail))
              refine wpQuiet_nil ?_
              unfold wpChain
              refine ⟨⟨⟨_, (Below.refl _ _).drew⟩, rfl⟩, ?_⟩
              unfold wpChain
              try simp only [Act.put, List.setIfInBounds_toArray, List.set_cons_succ, List.set_cons_zero]
              repeat (go_big_quiet_step (fail))
              refine wpQuiet_nil ?_
              unfold wpChain
              go_wp2_with fail
              refine (HS1.out _ (Below.refl _ _).drew).mono ?_
              rintro e v9 ⟨rfl, hb⟩
              have Hv9 : Hid (Below wc.heap.size wc v9) := Lib.hid ((Below.refl wc.heap.size wc).drew.trans hb)
              clear hb
              go_wp2_with fail
              refine ⟨⟨⟨_, Hv9.out⟩, rfl⟩, ?_⟩
              unfold wpChain
              try simp only [Act.put, List.setIfInBounds_toArray, List.set_cons_succ, List.set_cons_zero]
              repeat (go_big_quiet_step (fail))
              refine wpQuiet_nil ?_
              unfold wpChain
              have HE9 := Lib.hid (HE8.out.on Hv9.out)
              go_wp2_with fail
              exact ⟨⟨i + 1, by omega, by go_num, HE9⟩, by simp [intOf]; omega⟩
    · obtain rfl : i = es.length := by omega
      have z1 : ¬ (es.length : Int) < (es.length : Int) := by omega
      go_wp2_with fail
      go_ret
      exact ⟨rfl, HE8.out.bl⟩
end Go.Proofs.Ytcadbapccdclaaa
