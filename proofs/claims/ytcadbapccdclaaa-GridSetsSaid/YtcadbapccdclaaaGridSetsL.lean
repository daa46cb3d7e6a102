/- GridSets over the contracts. -/
import Derived.Test.YtcadbapccdclaaaAwake09
import Derived.Test.YtcadbapccdclaaaRef09
import Derived.Test.YtcadbapccdclaaaRefSaneR
import Derived.Test.YtcadbapccdclaaaBitsR
import Derived.Test.YtcadbapccdclaaaAt2
namespace Go.Proofs.Ytcadbapccdclaaa
open Go Go.RowKit
set_option linter.unusedVariables false
set_option linter.unusedSimpArgs false

/-- The law's own variables: a row, a grid that it is told. -/
structure Se2 (w V : World) (A : Option Addr) (c : Nat) (es : List Rl) (x : Rl) (sb : Nat) (A1 : Option Addr) (c1 : Nat) (e1 : List Rl) : Prop where
  bx : Box V w.heap.size 35 #[.slice x.A x.r.cs.length x.c, .bool x.r.wrap, .int .i64 x.r.dir, .bool x.r.ex]
  bs : Box V sb 26 #[.slice A1 e1.length c1]
  il : InG V A c es
  is : InG V A1 c1 e1
  ix : InC V x.A x.c x.r.cs
  bl : Below w.heap.size w V
theorem Se2.on {w V V' : World} {A : Option Addr} {c : Nat} {es : List Rl} {x : Rl} {sb : Nat} {A1 : Option Addr} {c1 : Nat} {e1 : List Rl} (h : Se2 w V A c es x sb A1 c1 e1) (hb : Below V.heap.size V V') : Se2 w V' A c es x sb A1 c1 e1 :=
  ⟨h.bx.below hb h.bx.lt, h.bs.below hb h.bs.lt, h.il.on hb, h.is.on hb, h.ix.on hb, h.bl.trans (hb.mono h.bl.size)⟩
structure Se1 (w V : World) (A : Option Addr) (c : Nat) (es : List Rl) (x : Rl) : Prop where
  bx : Box V w.heap.size 35 #[.slice x.A x.r.cs.length x.c, .bool x.r.wrap, .int .i64 x.r.dir, .bool x.r.ex]
  il : InG V A c es
  ix : InC V x.A x.c x.r.cs
  bl : Below w.heap.size w V
theorem Se1.on {w V V' : World} {A : Option Addr} {c : Nat} {es : List Rl} {x : Rl} (h : Se1 w V A c es x) (hb : Below V.heap.size V V') : Se1 w V' A c es x :=
  ⟨h.bx.below hb h.bx.lt, h.il.on hb, h.ix.on hb, h.bl.trans (hb.mono h.bl.size)⟩
theorem setG_ok {g : List Rw} (h : RsOk g) (y : Int) {r : Rw} (hr : RwOk r) : RsOk (setG g y r) := by
  unfold setG
  split
  · intro q hq
    rcases List.mem_or_eq_of_mem_set hq with k | k
    · exact h q k
    · rw [k]; exact hr
  · exact h
set_option maxRecDepth 100000 in
set_option maxHeartbeats 4000000 in
theorem sets_law (hn : New9C) (hset : Set9C) (hup : Up9C) (hsz : Size9C) (hs : Sane9C) (hcl : Clear9C) (A : Option Addr) (c : Nat) (es : List Rl) (ky : Int) (x : Rl) (p : Pn) (w : World) (hin : InG w A c es) (hok : RsOk (rws es)) (hx : InC w x.A x.c x.r.cs) (hxo : RwOk x.r) :
    Calls Try.prog 4 #[.slice A es.length c, .int .i64 ky, .agg #[.slice x.A x.r.cs.length x.c, .bool x.r.wrap, .int .i64 x.r.dir, .bool x.r.ex], .agg #[.int .i64 p.fg, .int .i64 p.bg, .int .i64 p.fl]] w fun e w' => e = .returned (.bool true) ∧ Below w.heap.size w w' := by
  have hb0 : Below w.heap.size w ((w.alloc (.cells #[.slice x.A x.r.cs.length x.c, .bool x.r.wrap, .int .i64 x.r.dir, .bool x.r.ex] 35)).alloc (.cells #[.int .i64 p.fg, .int .i64 p.bg, .int .i64 p.fl] 31)) := ((Below.refl _ _).alloc (Nat.le_refl _) _).alloc (by simp) _
  have hk0 : Se1 w ((w.alloc (.cells #[.slice x.A x.r.cs.length x.c, .bool x.r.wrap, .int .i64 x.r.dir, .bool x.r.ex] 35)).alloc (.cells #[.int .i64 p.fg, .int .i64 p.bg, .int .i64 p.fl] 31)) A c es x := ⟨(Box.new w _ _).alloc _, hin.on hb0, hx.on hb0, hb0⟩
  have hawake := awake9_c hn hset hup hsz hs ((w.alloc (.cells #[.slice x.A x.r.cs.length x.c, .bool x.r.wrap, .int .i64 x.r.dir, .bool x.r.ex] 35)).alloc (.cells #[.int .i64 p.fg, .int .i64 p.bg, .int .i64 p.fl] 31))
  have a1 := and_65535 ky
  have hlen := hin.rows.len
  have hcap := hin.rows.cap
  have hxl := hx.len
  unfold maxLen at hlen hxl
  have HE := Lib.hid hk0
  have HOK := Lib.hid (And.intro hok hxo)
  clear hb0 hk0 hin hx hok hxo hn hup hsz
  go_enter Try.func4, Try.ntmps4
  go_wp2_with fail
  refine hawake.mono ?_
  rintro e v1 ⟨rfl, hb1⟩
  have HE1 := Lib.hid (HE.out.on hb1)
  clear hawake hb1 HE
  have hfew := few_c A c es v1 HE1.out.il
  have k0 : v1.cell? ⟨w.heap.size, 0, none⟩ = some (.slice x.A x.r.cs.length x.c) := HE1.out.bx.cell 0
  cases hf : decide (FewR (rws es)) with
  | false =>
    rw [hf] at hfew
    clear hf
    go_wp2_with fail
    refine hfew.mono ?_
    rintro e v2 ⟨rfl, hb2⟩
    have hbl := HE1.out.bl.trans (hb2.mono HE1.out.bl.size)
    clear hb2 hfew k0
    go_wp2_with fail
    go_ret
    exact ⟨rfl, hbl⟩
  | true =>
  rw [hf] at hfew
  have HFEW := Lib.hid (of_decide_eq_true hf)
  clear hf
  by_cases hx100 : (x.r.cs.length : Int) > 100
  · go_wp2_with fail
    refine hfew.mono ?_
    rintro e v2 ⟨rfl, hb2⟩
    have HE2 := Lib.hid (HE1.out.on hb2)
    clear hb2 hfew k0 HE1
    have k0 : v2.cell? ⟨w.heap.size, 0, none⟩ = some (.slice x.A x.r.cs.length x.c) := HE2.out.bx.cell 0
    go_wp2_with fail
    go_ret
    exact ⟨rfl, HE2.out.bl⟩
  go_wp2_with fail
  refine hfew.mono ?_
  rintro e v2 ⟨rfl, hb2⟩
  have HE2 := Lib.hid (HE1.out.on hb2)
  clear hb2 hfew k0 HE1
  have k0 : v2.cell? ⟨w.heap.size, 0, none⟩ = some (.slice x.A x.r.cs.length x.c) := HE2.out.bx.cell 0
  go_upto_region 5 with fail
  have hal : Below v2.heap.size v2 (v2.alloc (.cells #[.slice A es.length c] 26)) := (Below.refl _ _).alloc (Nat.le_refl _) _
  have HE3 := Lib.hid (And.intro (HE2.out.on hal) (Box.new v2 26 #[.slice A es.length c]))
  clear hal HE2 k0
  generalize hgb : v2.heap.size = gb at *
  generalize v2.alloc (.cells #[.slice A es.length c] 26) = v3 at *
  clear hgb
  have h1 := hs A c es v3 HE3.out.1.il HOK.out.1
  have k1 : v3.cell? ⟨gb, 0, none⟩ = some (.slice A es.length c) := HE3.out.2.cell 0
  cases hsg : decide (SaneG (rws es)) with
  | false =>
    rw [hsg] at h1
    clear hsg
    go_wp2_with fail
    refine h1.mono ?_
    rintro e v4 ⟨rfl, hb4⟩
    have hbl := HE3.out.1.bl.trans (hb4.mono HE3.out.1.bl.size)
    clear hb4 h1 k1
    go_wp2_with fail
    go_ret
    exact ⟨rfl, hbl⟩
  | true =>
  rw [hsg] at h1
  have hS := of_decide_eq_true hsg
  clear hsg
  go_wp2_with fail
  refine h1.mono ?_
  rintro e v4 ⟨rfl, hb4⟩
  have HE4 := Lib.hid (And.intro (HE3.out.1.on hb4) (HE3.out.2.below hb4 HE3.out.2.lt))
  clear hb4 h1 k1 HE3
  have hlen1 : 1 ≤ es.length ∧ es.length ≤ 1000 := by have := hS.1; rw [rws_length] at this; exact this
  obtain ⟨z, hz⟩ : ∃ z, ky % 65536 = z := ⟨_, rfl⟩
  rw [hz] at a1
  have hz0 : 0 ≤ z := by omega
  have hz1 : z ≤ 65535 := by omega
  clear hz
  have hxm := Int.emod_nonneg z (show (es.length : Int) ≠ 0 by omega)
  have hxk := Int.emod_lt_of_pos z (show (0 : Int) < (es.length : Int) by omega)
  obtain ⟨K, hK⟩ : ∃ K : Nat, z % (es.length : Int) = (K : Int) := Int.eq_ofNat_of_zero_le hxm
  have hft : z.tmod (es.length : Int) = (K : Int) := by rw [Int.tmod_eq_emod_of_nonneg hz0]; exact hK
  have hKl : K < es.length := by omega
  clear hxm hxk hK
  have hzn : ¬ (es.length : Int) = 0 := by omega
  obtain ⟨k0, k1, k2, k3⟩ : v4.cell? ⟨w.heap.size, 0, none⟩ = some (.slice x.A x.r.cs.length x.c) ∧ v4.cell? ⟨w.heap.size, 1, none⟩ = some (.bool x.r.wrap) ∧ v4.cell? ⟨w.heap.size, 2, none⟩ = some (.int .i64 x.r.dir) ∧ v4.cell? ⟨w.heap.size, 3, none⟩ = some (.bool x.r.ex) := ⟨HE4.out.1.bx.cell 0, HE4.out.1.bx.cell 1, HE4.out.1.bx.cell 2, HE4.out.1.bx.cell 3⟩
  have g0 : v4.cell? ⟨gb, 0, none⟩ = some (.slice A es.length c) := HE4.out.2.cell 0
  have h1 := hset A c es (K : Int) x v4 HE4.out.1.il HOK.out.1 (by unfold I64; omega) HE4.out.1.ix HOK.out.2
  rw [show rlV x = .agg #[.slice x.A x.r.cs.length x.c, .bool x.r.wrap, .int .i64 x.r.dir, .bool x.r.ex] from rfl] at h1
  have HSAID := Lib.hid (sets_said hS (k := K) (by rw [rws_length]; exact hKl) x.r)
  have hSok := setG_ok HOK.out.1 (K : Int) HOK.out.2
  generalize hSS : setG (rws es) (K : Int) x.r = S at *
  have HSOK := Lib.hid (And.intro hSok (And.intro hS (And.intro hlen1 hSS)))
  clear hSok hS hSS
  go_wp2_with fail
  refine h1.mono ?_
  rintro e v5 ⟨A1, c1, e1, rfl, hI1, hr1, hb5⟩
  have hal : Below v5.heap.size v5 (v5.alloc (.cells #[.slice A1 e1.length c1] 26)) := (Below.refl _ _).alloc (Nat.le_refl _) _
  have hE5 := (HE4.out.1.on hb5).on hal
  have HE5 : Hid (Se2 w (v5.alloc (.cells #[.slice A1 e1.length c1] 26)) A c es x v5.heap.size A1 c1 e1) := Lib.hid ⟨hE5.bx, Box.new v5 _ _, hE5.il, hI1.on hal, hE5.ix, hE5.bl⟩
  have HR1 := Lib.hid hr1
  clear hal hE5 hI1 hr1 hb5 h1 k0 k1 k2 k3 g0 HE4 a1 hft hz0 hz1 hzn
  go_upto_region 9 with fail
  generalize hsb : v5.heap.size = sb at *
  generalize v5.alloc (.cells #[.slice A1 e1.length c1] 26) = v6 at *
  clear hsb
  have hl1 : e1.length = es.length := by
    have := HSAID.out.1.2.1
    rw [← HR1.out, rws_length, rws_length] at this
    exact this
  have hle : ((e1.length : Int) != (es.length : Int)) = false := by rw [hl1]; simp
  have HL1 := Lib.hid hl1
  have h1 := hs A1 c1 e1 v6 HE5.out.is (by rw [HR1.out]; exact HSOK.out.1)
  rw [HR1.out, decide_eq_true HSAID.out.1.1] at h1
  have k0 : v6.cell? ⟨sb, 0, none⟩ = some (.slice A1 e1.length c1) := HE5.out.bs.cell 0
  clear hl1
  go_wp2_with fail
  refine h1.mono ?_
  rintro e v7 ⟨rfl, hb7⟩
  have HE6 := Lib.hid (HE5.out.on hb7)
  clear hb7 h1 k0 HE5 hle
  obtain ⟨e0, he0⟩ : ∃ e0, es[0]? = some e0 := ⟨_, List.getElem?_eq_getElem (by omega)⟩
  obtain ⟨b0, o0, rfl, hB0, p0, -, -, -⟩ := HE6.out.il.rows.at_ he0
  simp only [Nat.zero_mul, Nat.add_zero] at p0
  have hwid : widthG (rws es) = e0.r.cs.length := by unfold widthG; rw [rws_at he0]; rfl
  have HE0 := Lib.hid he0
  have HWID := Lib.hid hwid
  generalize hm : decide (SaneR x.r ∧ x.r.cs.length = e0.r.cs.length) = m at *
  have HMM := Lib.hid hm
  have hrs := fun V (hV : Below v7.heap.size v7 V) => rSane_c x.r x.A x.c V (HE6.out.ix.on hV) HOK.out.2
  have q0 := Ext.cell (w := v7) (B := v7.heap.size) HE6.out.bx.lt (show v7.cell? ⟨w.heap.size, 0, none⟩ = some (.slice x.A x.r.cs.length x.c) from HE6.out.bx.cell 0)
  have q1 := Ext.cell (w := v7) (B := v7.heap.size) HE6.out.bx.lt (show v7.cell? ⟨w.heap.size, 1, none⟩ = some (.bool x.r.wrap) from HE6.out.bx.cell 1)
  have q2 := Ext.cell (w := v7) (B := v7.heap.size) HE6.out.bx.lt (show v7.cell? ⟨w.heap.size, 2, none⟩ = some (.int .i64 x.r.dir) from HE6.out.bx.cell 2)
  have q3 := Ext.cell (w := v7) (B := v7.heap.size) HE6.out.bx.lt (show v7.cell? ⟨w.heap.size, 3, none⟩ = some (.bool x.r.ex) from HE6.out.bx.cell 3)
  have q4 := Ext.cell (w := v7) (B := v7.heap.size) (p := ⟨b0, o0, none⟩) hB0 p0
  have HKL := Lib.hid hKl
  clear he0 hwid hB0 p0
  go_upto_region 11 with fail
  go_cut [13] (fun u wx => u = .bool m ∧ Hid (Below v7.heap.size v7 wx))
  case first =>
    cases hsr : decide (SaneR x.r) with
    | false =>
      rw [hsr] at hrs
      have HM : Hid (m = false) := Lib.hid (by rw [← hm]; exact decide_eq_false fun h => of_decide_eq_false hsr h.1)
      have HRS := Lib.hid hrs
      clear hsr hrs hm
      refine region_plan [([0], [1]), ([2, 3, 4, 5, 6, 7, 8, 9, 10, 11, 12, 13], [])] (fun w' => ∃ u : Ext v7 v7.heap.size, w' = u.val) (by kernel_rfl) (by kernel_rfl) (fun _ _ _ _ _ h => h) ⟨⟨_, (Below.refl _ _).drew⟩, rfl⟩ ?_
      simp only [wpPlan, sel, List.take_succ_cons, List.take_zero, List.drop_succ_cons, List.drop_zero, List.cons_append, List.nil_append]
      repeat (go_big_quiet_step (fail))
      refine wpQuiet_nil ?_
      unfold wpChain
      go_wp2_with fail
      refine (HRS.out _ (Below.refl _ _).drew).mono ?_
      rintro e v8 ⟨rfl, hb8⟩
      have hv8 : Below v7.heap.size v7 v8 := (Below.refl v7.heap.size v7).drew.trans hb8
      have HV8 := Lib.hid hv8
      clear hb8
      go_wp2_with fail
      refine ⟨⟨⟨_, hv8⟩, rfl⟩, ?_⟩
      clear hv8
      unfold wpChain
      try simp only [Act.put, List.setIfInBounds_toArray, List.set_cons_succ, List.set_cons_zero]
      repeat (go_big_quiet_step (fail))
      refine wpQuiet_nil ?_
      unfold wpChain
      go_wp2_with fail
      go_meet
      exact ⟨by rw [HM.out], HV8⟩
    | true =>
      rw [hsr] at hrs
      have HRS := Lib.hid hrs
      by_cases hww : x.r.cs.length = e0.r.cs.length
      · have ew : ((x.r.cs.length : Int) == (e0.r.cs.length : Int)) = true := by rw [hww]; simp
        have HM : Hid (m = true) := Lib.hid (by rw [← hm]; exact decide_eq_true ⟨of_decide_eq_true hsr, hww⟩)
        clear hsr hrs hm hww
        refine region_plan [([0], [1]), ([2, 3, 4, 5, 6, 7, 8, 9, 10, 11, 12, 13], [])] (fun w' => ∃ u : Ext v7 v7.heap.size, w' = u.val) (by kernel_rfl) (by kernel_rfl) (fun _ _ _ _ _ h => h) ⟨⟨_, (Below.refl _ _).drew⟩, rfl⟩ ?_
        simp only [wpPlan, sel, List.take_succ_cons, List.take_zero, List.drop_succ_cons, List.drop_zero, List.cons_append, List.nil_append]
        repeat (go_big_quiet_step (fail))
        refine wpQuiet_nil ?_
        unfold wpChain
        go_wp2_with fail
        refine (HRS.out _ (Below.refl _ _).drew).mono ?_
        rintro e v8 ⟨rfl, hb8⟩
        have hv8 : Below v7.heap.size v7 v8 := (Below.refl v7.heap.size v7).drew.trans hb8
        have HV8 := Lib.hid hv8
        clear hb8
        go_wp2_with fail
        refine ⟨⟨⟨_, hv8⟩, rfl⟩, ?_⟩
        clear hv8
        unfold wpChain
        try simp only [Act.put, List.setIfInBounds_toArray, List.set_cons_succ, List.set_cons_zero]
        repeat (go_big_quiet_step (fail))
        refine wpQuiet_nil ?_
        unfold wpChain
        go_wp2_with fail
        go_meet
        exact ⟨by rw [HM.out], HV8⟩
      · have ew : ((x.r.cs.length : Int) == (e0.r.cs.length : Int)) = false := by simp; omega
        have HM : Hid (m = false) := Lib.hid (by rw [← hm]; exact decide_eq_false fun h => hww h.2)
        clear hsr hrs hm hww
        refine region_plan [([0], [1]), ([2, 3, 4, 5, 6, 7, 8, 9, 10, 11, 12, 13], [])] (fun w' => ∃ u : Ext v7 v7.heap.size, w' = u.val) (by kernel_rfl) (by kernel_rfl) (fun _ _ _ _ _ h => h) ⟨⟨_, (Below.refl _ _).drew⟩, rfl⟩ ?_
        simp only [wpPlan, sel, List.take_succ_cons, List.take_zero, List.drop_succ_cons, List.drop_zero, List.cons_append, List.nil_append]
        repeat (go_big_quiet_step (fail))
        refine wpQuiet_nil ?_
        unfold wpChain
        go_wp2_with fail
        refine (HRS.out _ (Below.refl _ _).drew).mono ?_
        rintro e v8 ⟨rfl, hb8⟩
        have hv8 : Below v7.heap.size v7 v8 := (Below.refl v7.heap.size v7).drew.trans hb8
        have HV8 := Lib.hid hv8
        clear hb8
        go_wp2_with fail
        refine ⟨⟨⟨_, hv8⟩, rfl⟩, ?_⟩
        clear hv8
        unfold wpChain
        try simp only [Act.put, List.setIfInBounds_toArray, List.set_cons_succ, List.set_cons_zero]
        repeat (go_big_quiet_step (fail))
        refine wpQuiet_nil ?_
        unfold wpChain
        go_wp2_with fail
        go_meet
        exact ⟨by rw [HM.out], HV8⟩
  case rest =>
    obtain ⟨rfl, HV⟩ := hcut
    clear q0 q1 q2 q3 q4 hrs hm
    have HE7 := Lib.hid (HE6.out.on HV.out)
    clear HV HE6
    have hcl1 := hcl
    have HHN := Lib.hid (And.intro hcl hset)
    clear hcl hset hcl1 hx100
    obtain ⟨f0, hf0⟩ : ∃ f0, e1[0]? = some f0 := ⟨_, List.getElem?_eq_getElem (by have := HL1.out; omega)⟩
    obtain ⟨bs, os, rfl, -, -, -, -, -⟩ := HE7.out.is.rows.at_ hf0
    clear hf0
    have hcap1 := HE7.out.is.rows.cap
    have hlen2 : e1.length ≤ 1000 := by have := HL1.out; omega
    go_wp2_with fail
    go_loopw [14] (fun u14 wr => ∃ i : Nat, i ≤ es.length ∧ u14 = .int .i64 (i : Int) ∧ Hid (Se2 w wr (some ⟨b0, o0, none⟩) c es x sb (some ⟨bs, os, none⟩) c1 e1)) (fun u14 _ => es.length - (intOf u14).toNat)
    case atStart => exact ⟨0, Nat.zero_le _, rfl, HE7⟩
    case round =>
      obtain ⟨i, hi, rfl, HE8⟩ := hrel
      clear HE7
      by_cases hlt : i < es.length
      · have z1 : (i : Int) < (es.length : Int) := by omega
        obtain ⟨y, hy⟩ : ∃ y, es[i]? = some y := ⟨_, List.getElem?_eq_getElem hlt⟩
        obtain ⟨y1, hy1⟩ : ∃ y1, e1[i]? = some y1 := ⟨_, List.getElem?_eq_getElem (by rw [HL1.out]; exact hlt)⟩
        have hsa := HSAID.out.2.1 i
        rw [← HR1.out, rws_at hy1, HWID.out] at hsa
        obtain ⟨hB, p0, p1, p2, p3⟩ := HE8.out.il.rows.at2 hy
        have hyin := HE8.out.il.els y (List.mem_of_getElem? hy)
        have z2 : (i : Int) < (e1.length : Int) := by have := HL1.out; omega
        have HY1 := Lib.hid hy1
        have HX8 := Lib.hid (And.intro HE8.out.bx HE8.out.ix)
        rcases (show ¬ (i = K ∧ m = true) ∨ (i = K ∧ m = true) by exact (Decidable.em _).symm) with hne | ⟨hik, hmt⟩
        · rw [if_neg (fun q => hne ⟨q.1, by rw [← HMM.out]; exact decide_eq_true q.2⟩), rws_at hy] at hsa
          injection hsa with hsa
          have HEQ : Hid (y1.r = y.r) := Lib.hid hsa
          have HQIN := Lib.hid hyin
          clear hsa hyin hy hy1 hB HX8
          by_cases hik : i = K
          · obtain rfl : m = false := by
              cases m with
              | false => rfl
              | true => exact absurd ⟨hik, rfl⟩ hne
            have eik : ((i : Int) == (K : Int)) = true := by rw [hik]; simp
            clear hne hik
            have hal : Below wr.heap.size wr (wr.alloc (.cells #[.slice y.A y.r.cs.length y.c, .bool y.r.wrap, .int .i64 y.r.dir, .bool y.r.ex] 35)) := (Below.refl _ _).alloc (Nat.le_refl _) _
            have HQT := Lib.hid (And.intro (HE8.out.on hal) (Box.new wr 35 #[.slice y.A y.r.cs.length y.c, .bool y.r.wrap, .int .i64 y.r.dir, .bool y.r.ex]))
            have hwin : InC (wr.alloc (.cells #[.slice y.A y.r.cs.length y.c, .bool y.r.wrap, .int .i64 y.r.dir, .bool y.r.ex] 35)) y.A y.c y.r.cs := (HQIN.out).on hal
            have HQN := Lib.hid hwin
            clear hal hwin
            go_upto_region 18 with fail
            clear p0 p1 p2 p3 HE8 HQIN
            generalize hwb : wr.heap.size = wb at *
            generalize wr.alloc (.cells #[.slice y.A y.r.cs.length y.c, .bool y.r.wrap, .int .i64 y.r.dir, .bool y.r.ex] 35) = V at *
            clear hwb
            obtain ⟨hB1, t0, t1, t2, t3⟩ := HQT.out.1.is.rows.at2 HY1.out
            have n0 := Ext.cell (w := V) (B := V.heap.size) (p := ⟨bs, os + i * 4, none⟩) hB1 t0
            have n1 := Ext.cell (w := V) (B := V.heap.size) (p := ⟨bs, os + i * 4 + 1, none⟩) hB1 t1
            have n2 := Ext.cell (w := V) (B := V.heap.size) (p := ⟨bs, os + i * 4 + 2, none⟩) hB1 t2
            have n3 := Ext.cell (w := V) (B := V.heap.size) (p := ⟨bs, os + i * 4 + 3, none⟩) hB1 t3
            have l0 := Ext.cell (w := V) (B := V.heap.size) HQT.out.2.lt (show V.cell? ⟨wb, 0, none⟩ = some (.slice y.A y.r.cs.length y.c) from HQT.out.2.cell 0)
            have l1 := Ext.cell (w := V) (B := V.heap.size) HQT.out.2.lt (show V.cell? ⟨wb, 1, none⟩ = some (.bool y.r.wrap) from HQT.out.2.cell 1)
            have l2 := Ext.cell (w := V) (B := V.heap.size) HQT.out.2.lt (show V.cell? ⟨wb, 2, none⟩ = some (.int .i64 y.r.dir) from HQT.out.2.cell 2)
            have l3 := Ext.cell (w := V) (B := V.heap.size) HQT.out.2.lt (show V.cell? ⟨wb, 3, none⟩ = some (.bool y.r.ex) from HQT.out.2.cell 3)
            have j0 := Ext.cell (w := V) (B := V.heap.size) HQT.out.1.bs.lt (show V.cell? ⟨sb, 0, none⟩ = some (.slice (some ⟨bs, os, none⟩) e1.length c1) from HQT.out.1.bs.cell 0)
            have hsm := fun V' (hV : Below V.heap.size V V') => same_c y1.r y.r y1.A y.A y1.c y.c V' ((HQT.out.1.is.els y1 (List.mem_of_getElem? HY1.out)).on hV) (HQN.out.on hV)
            rw [decide_eq_true HEQ.out] at hsm
            simp only [rwV_eq] at hsm
            have HSM := Lib.hid hsm
            clear hB1 t0 t1 t2 t3 hsm
            refine region_plan [([0, 1, 2, 3, 4, 5], [6]), ([7], [])] (fun w' => ∃ u : Ext V V.heap.size, w' = u.val) (by kernel_rfl) (by kernel_rfl) (fun _ _ _ _ _ h => h) ⟨⟨_, (Below.refl _ _).drew⟩, rfl⟩ ?_
            simp only [wpPlan, sel, List.take_succ_cons, List.take_zero, List.drop_succ_cons, List.drop_zero, List.cons_append, List.nil_append]
            repeat (go_big_quiet_step (fail))
            refine wpQuiet_nil ?_
            unfold wpChain
            clear n0 n1 n2 n3 l0 l1 l2 l3 j0
            go_wp2_with fail
            refine (HSM.out _ (Below.refl _ _).drew).mono ?_
            rintro e v9 ⟨rfl, hb9⟩
            have hv9 : Below V.heap.size V v9 := (Below.refl V.heap.size V).drew.trans hb9
            have HE9 := Lib.hid (HQT.out.1.on hv9)
            have HV9 := Lib.hid hv9
            clear hb9 hv9 HSM HQT HQN
            go_wp2_with fail
            refine ⟨⟨⟨_, HV9.out⟩, rfl⟩, ?_⟩
            unfold wpChain
            repeat (go_big_quiet_step (fail))
            refine wpQuiet_nil ?_
            unfold wpChain
            go_wp2_with fail
            exact ⟨⟨i + 1, by omega, by go_num, HE9⟩, by simp [intOf]; omega⟩
          · have eik : ((i : Int) == (K : Int)) = false := by simp; omega
            clear hne hik
            have hal : Below wr.heap.size wr (wr.alloc (.cells #[.slice y.A y.r.cs.length y.c, .bool y.r.wrap, .int .i64 y.r.dir, .bool y.r.ex] 35)) := (Below.refl _ _).alloc (Nat.le_refl _) _
            have HQT := Lib.hid (And.intro (HE8.out.on hal) (Box.new wr 35 #[.slice y.A y.r.cs.length y.c, .bool y.r.wrap, .int .i64 y.r.dir, .bool y.r.ex]))
            have hwin : InC (wr.alloc (.cells #[.slice y.A y.r.cs.length y.c, .bool y.r.wrap, .int .i64 y.r.dir, .bool y.r.ex] 35)) y.A y.c y.r.cs := (HQIN.out).on hal
            have HQN := Lib.hid hwin
            clear hal hwin
            go_upto_region 18 with fail
            clear p0 p1 p2 p3 HE8 HQIN
            generalize hwb : wr.heap.size = wb at *
            generalize wr.alloc (.cells #[.slice y.A y.r.cs.length y.c, .bool y.r.wrap, .int .i64 y.r.dir, .bool y.r.ex] 35) = V at *
            clear hwb
            obtain ⟨hB1, t0, t1, t2, t3⟩ := HQT.out.1.is.rows.at2 HY1.out
            have n0 := Ext.cell (w := V) (B := V.heap.size) (p := ⟨bs, os + i * 4, none⟩) hB1 t0
            have n1 := Ext.cell (w := V) (B := V.heap.size) (p := ⟨bs, os + i * 4 + 1, none⟩) hB1 t1
            have n2 := Ext.cell (w := V) (B := V.heap.size) (p := ⟨bs, os + i * 4 + 2, none⟩) hB1 t2
            have n3 := Ext.cell (w := V) (B := V.heap.size) (p := ⟨bs, os + i * 4 + 3, none⟩) hB1 t3
            have l0 := Ext.cell (w := V) (B := V.heap.size) HQT.out.2.lt (show V.cell? ⟨wb, 0, none⟩ = some (.slice y.A y.r.cs.length y.c) from HQT.out.2.cell 0)
            have l1 := Ext.cell (w := V) (B := V.heap.size) HQT.out.2.lt (show V.cell? ⟨wb, 1, none⟩ = some (.bool y.r.wrap) from HQT.out.2.cell 1)
            have l2 := Ext.cell (w := V) (B := V.heap.size) HQT.out.2.lt (show V.cell? ⟨wb, 2, none⟩ = some (.int .i64 y.r.dir) from HQT.out.2.cell 2)
            have l3 := Ext.cell (w := V) (B := V.heap.size) HQT.out.2.lt (show V.cell? ⟨wb, 3, none⟩ = some (.bool y.r.ex) from HQT.out.2.cell 3)
            have j0 := Ext.cell (w := V) (B := V.heap.size) HQT.out.1.bs.lt (show V.cell? ⟨sb, 0, none⟩ = some (.slice (some ⟨bs, os, none⟩) e1.length c1) from HQT.out.1.bs.cell 0)
            have hsm := fun V' (hV : Below V.heap.size V V') => same_c y1.r y.r y1.A y.A y1.c y.c V' ((HQT.out.1.is.els y1 (List.mem_of_getElem? HY1.out)).on hV) (HQN.out.on hV)
            rw [decide_eq_true HEQ.out] at hsm
            simp only [rwV_eq] at hsm
            have HSM := Lib.hid hsm
            clear hB1 t0 t1 t2 t3 hsm
            refine region_plan [([0, 1, 2, 3, 4, 5], [6]), ([7], [])] (fun w' => ∃ u : Ext V V.heap.size, w' = u.val) (by kernel_rfl) (by kernel_rfl) (fun _ _ _ _ _ h => h) ⟨⟨_, (Below.refl _ _).drew⟩, rfl⟩ ?_
            simp only [wpPlan, sel, List.take_succ_cons, List.take_zero, List.drop_succ_cons, List.drop_zero, List.cons_append, List.nil_append]
            repeat (go_big_quiet_step (fail))
            refine wpQuiet_nil ?_
            unfold wpChain
            clear n0 n1 n2 n3 l0 l1 l2 l3 j0
            go_wp2_with fail
            refine (HSM.out _ (Below.refl _ _).drew).mono ?_
            rintro e v9 ⟨rfl, hb9⟩
            have hv9 : Below V.heap.size V v9 := (Below.refl V.heap.size V).drew.trans hb9
            have HE9 := Lib.hid (HQT.out.1.on hv9)
            have HV9 := Lib.hid hv9
            clear hb9 hv9 HSM HQT HQN
            go_wp2_with fail
            refine ⟨⟨⟨_, HV9.out⟩, rfl⟩, ?_⟩
            unfold wpChain
            repeat (go_big_quiet_step (fail))
            refine wpQuiet_nil ?_
            unfold wpChain
            go_wp2_with fail
            exact ⟨⟨i + 1, by omega, by go_num, HE9⟩, by simp [intOf]; omega⟩
        · rw [if_pos ⟨hik, by rw [← HMM.out] at hmt; exact of_decide_eq_true hmt⟩] at hsa
          injection hsa with hsa
          have HEQ : Hid (y1.r = x.r) := Lib.hid hsa
          have HQIN := Lib.hid HX8.out.2
          obtain ⟨r0, r1, r2, r3⟩ : wr.cell? ⟨w.heap.size, 0, none⟩ = some (.slice x.A x.r.cs.length x.c) ∧ wr.cell? ⟨w.heap.size, 1, none⟩ = some (.bool x.r.wrap) ∧ wr.cell? ⟨w.heap.size, 2, none⟩ = some (.int .i64 x.r.dir) ∧ wr.cell? ⟨w.heap.size, 3, none⟩ = some (.bool x.r.ex) := ⟨HX8.out.1.cell 0, HX8.out.1.cell 1, HX8.out.1.cell 2, HX8.out.1.cell 3⟩
          subst hmt
          have eik : ((i : Int) == (K : Int)) = true := by rw [hik]; simp
          have hwlt : w.heap.size < wr.heap.size := HX8.out.1.lt
          clear hsa hyin hy hy1 hB hik
          have hal : Below wr.heap.size wr (wr.alloc (.cells #[.slice x.A x.r.cs.length x.c, .bool x.r.wrap, .int .i64 x.r.dir, .bool x.r.ex] 35)) := (Below.refl _ _).alloc (Nat.le_refl _) _
          have HQT := Lib.hid (And.intro (HE8.out.on hal) (Box.new wr 35 #[.slice x.A x.r.cs.length x.c, .bool x.r.wrap, .int .i64 x.r.dir, .bool x.r.ex]))
          have hwin : InC (wr.alloc (.cells #[.slice x.A x.r.cs.length x.c, .bool x.r.wrap, .int .i64 x.r.dir, .bool x.r.ex] 35)) x.A x.c x.r.cs := (HQIN.out).on hal
          have HQN := Lib.hid hwin
          clear hal hwin
          go_upto_region 18 with fail
          clear p0 p1 p2 p3 HE8 HQIN r0 r1 r2 r3 HX8 hwlt
          generalize hwb : wr.heap.size = wb at *
          generalize wr.alloc (.cells #[.slice x.A x.r.cs.length x.c, .bool x.r.wrap, .int .i64 x.r.dir, .bool x.r.ex] 35) = V at *
          clear hwb
          obtain ⟨hB1, t0, t1, t2, t3⟩ := HQT.out.1.is.rows.at2 HY1.out
          have n0 := Ext.cell (w := V) (B := V.heap.size) (p := ⟨bs, os + i * 4, none⟩) hB1 t0
          have n1 := Ext.cell (w := V) (B := V.heap.size) (p := ⟨bs, os + i * 4 + 1, none⟩) hB1 t1
          have n2 := Ext.cell (w := V) (B := V.heap.size) (p := ⟨bs, os + i * 4 + 2, none⟩) hB1 t2
          have n3 := Ext.cell (w := V) (B := V.heap.size) (p := ⟨bs, os + i * 4 + 3, none⟩) hB1 t3
          have l0 := Ext.cell (w := V) (B := V.heap.size) HQT.out.2.lt (show V.cell? ⟨wb, 0, none⟩ = some (.slice x.A x.r.cs.length x.c) from HQT.out.2.cell 0)
          have l1 := Ext.cell (w := V) (B := V.heap.size) HQT.out.2.lt (show V.cell? ⟨wb, 1, none⟩ = some (.bool x.r.wrap) from HQT.out.2.cell 1)
          have l2 := Ext.cell (w := V) (B := V.heap.size) HQT.out.2.lt (show V.cell? ⟨wb, 2, none⟩ = some (.int .i64 x.r.dir) from HQT.out.2.cell 2)
          have l3 := Ext.cell (w := V) (B := V.heap.size) HQT.out.2.lt (show V.cell? ⟨wb, 3, none⟩ = some (.bool x.r.ex) from HQT.out.2.cell 3)
          have j0 := Ext.cell (w := V) (B := V.heap.size) HQT.out.1.bs.lt (show V.cell? ⟨sb, 0, none⟩ = some (.slice (some ⟨bs, os, none⟩) e1.length c1) from HQT.out.1.bs.cell 0)
          have hsm := fun V' (hV : Below V.heap.size V V') => same_c y1.r x.r y1.A x.A y1.c x.c V' ((HQT.out.1.is.els y1 (List.mem_of_getElem? HY1.out)).on hV) (HQN.out.on hV)
          rw [decide_eq_true HEQ.out] at hsm
          simp only [rwV_eq] at hsm
          have HSM := Lib.hid hsm
          clear hB1 t0 t1 t2 t3 hsm
          refine region_plan [([0, 1, 2, 3, 4, 5], [6]), ([7], [])] (fun w' => ∃ u : Ext V V.heap.size, w' = u.val) (by kernel_rfl) (by kernel_rfl) (fun _ _ _ _ _ h => h) ⟨⟨_, (Below.refl _ _).drew⟩, rfl⟩ ?_
          simp only [wpPlan, sel, List.take_succ_cons, List.take_zero, List.drop_succ_cons, List.drop_zero, List.cons_append, List.nil_append]
          repeat (go_big_quiet_step (fail))
          refine wpQuiet_nil ?_
          unfold wpChain
          clear n0 n1 n2 n3 l0 l1 l2 l3 j0
          go_wp2_with fail
          refine (HSM.out _ (Below.refl _ _).drew).mono ?_
          rintro e v9 ⟨rfl, hb9⟩
          have hv9 : Below V.heap.size V v9 := (Below.refl V.heap.size V).drew.trans hb9
          have HE9 := Lib.hid (HQT.out.1.on hv9)
          have HV9 := Lib.hid hv9
          clear hb9 hv9 HSM HQT HQN
          go_wp2_with fail
          refine ⟨⟨⟨_, HV9.out⟩, rfl⟩, ?_⟩
          unfold wpChain
          repeat (go_big_quiet_step (fail))
          refine wpQuiet_nil ?_
          unfold wpChain
          go_wp2_with fail
          exact ⟨⟨i + 1, by omega, by go_num, HE9⟩, by simp [intOf]; omega⟩
      · obtain rfl : i = es.length := by omega
        have z1 : ¬ (es.length : Int) < (es.length : Int) := by omega
        have h1 := HHN.out.1 (some ⟨bs, os, none⟩) c1 e1 (K : Int) ((K : Int) + 1) zeroN wr HE8.out.is (by rw [HR1.out]; exact HSOK.out.1) (by unfold I64; omega) (by unfold I64; omega) zero_ok
        rw [show pnV zeroN = .agg #[.int .i64 0, .int .i64 0, .int .i64 0] from rfl, HR1.out] at h1
        have k0 : wr.cell? ⟨sb, 0, none⟩ = some (.slice (some ⟨bs, os, none⟩) e1.length c1) := HE8.out.bs.cell 0
        go_wp2_with fail
        refine h1.mono ?_
        rintro e v5 ⟨A2, c2, e2, rfl, hI2, hr2, hb5⟩
        have hal : Below v5.heap.size v5 (v5.alloc (.cells #[.slice A2 e2.length c2] 26)) := (Below.refl _ _).alloc (Nat.le_refl _) _
        have HE9 := Lib.hid (And.intro ((HE8.out.on hb5).on hal) (And.intro (Box.new v5 26 #[.slice A2 e2.length c2]) (hI2.on hal)))
        have HR2 : Hid (rws e2 = clearG S (K : Int) ((K + 1 : Nat) : Int) zeroN) := Lib.hid (by rw [hr2, show ((K + 1 : Nat) : Int) = (K : Int) + 1 from by omega])
        clear hal hI2 hr2 hb5 h1 k0 HE8 z1
        go_upto_region 21 with fail
        generalize hcb : v5.heap.size = cb at *
        generalize v5.alloc (.cells #[.slice A2 e2.length c2] 26) = V at *
        clear hcb
        obtain ⟨y, hy⟩ : ∃ y, es[K]? = some y := ⟨_, List.getElem?_eq_getElem HKL.out⟩
        have hl2 : e2.length = es.length := by
          have := HSAID.out.1.2.2
          rw [← HR2.out, rws_length, rws_length] at this
          exact this
        obtain ⟨y2, hy2⟩ : ∃ y2, e2[K]? = some y2 := ⟨_, List.getElem?_eq_getElem (by have := HKL.out; omega)⟩
        have hy2r : y2.r = newR (e0.r.cs.length : Int) zeroN := by
          have := HSAID.out.2.2.2
          rw [← HR2.out, rws_at hy2, HWID.out] at this
          injection this
        obtain ⟨hB, p0, p1, p2, p3⟩ := HE9.out.1.il.rows.at2 hy
        obtain ⟨-, u0, -, -, -⟩ := HE9.out.1.il.rows.at2 HE0.out
        simp only [Nat.zero_mul, Nat.add_zero] at u0
        obtain ⟨bc, oc, rfl, hBc, t0, t1, t2, t3⟩ := HE9.out.2.2.rows.at_ hy2
        have hcap2 := HE9.out.2.2.rows.cap
        have hcs : ∀ V', Below V.heap.size V V' → Calls Try.prog 13 #[.agg #[.slice (some ⟨bs, os, none⟩) e1.length c1], .int .i64 (K : Int), .agg #[.slice y.A y.r.cs.length y.c, .bool y.r.wrap, .int .i64 y.r.dir, .bool y.r.ex]] V' (GivesGr (rws es) V') := fun V' hV => by
          have h := HHN.out.2 (some ⟨bs, os, none⟩) c1 e1 (K : Int) y V' (HE9.out.1.is.on hV) (by rw [HR1.out]; exact HSOK.out.1) (by unfold I64; have := HKL.out; omega) ((HE9.out.1.il.els y (List.mem_of_getElem? hy)).on hV) (HOK.out.1 y.r (List.mem_map.2 ⟨y, List.mem_of_getElem? hy, rfl⟩))
          rw [HR1.out, HSAID.out.2.2.1 y.r (rws_at hy)] at h
          exact h
        have hrn : ∀ V', Calls Try.prog 11 #[.int .i64 (e0.r.cs.length : Int), .agg #[.int .i64 0, .int .i64 0, .int .i64 0]] V' (GivesRow (newR (e0.r.cs.length : Int) zeroN) V') := fun V' => rNew_c (e0.r.cs.length : Int) zeroN V' (by unfold I64; have := HSOK.out.2.1.width; rw [HWID.out] at this; omega)
        have hin2 : InC V y2.A y2.c y2.r.cs := HE9.out.2.2.els y2 (List.mem_of_getElem? hy2)
        have HIN2 := Lib.hid hin2
        have HY2R := Lib.hid hy2r
        have HCS := Lib.hid hcs
        have HRN := Lib.hid hrn
        have q0 := Ext.cell (w := V) (B := V.heap.size) (p := ⟨b0, o0 + K * 4, none⟩) hB p0
        have q1 := Ext.cell (w := V) (B := V.heap.size) (p := ⟨b0, o0 + K * 4 + 1, none⟩) hB p1
        have q2 := Ext.cell (w := V) (B := V.heap.size) (p := ⟨b0, o0 + K * 4 + 2, none⟩) hB p2
        have q3 := Ext.cell (w := V) (B := V.heap.size) (p := ⟨b0, o0 + K * 4 + 3, none⟩) hB p3
        have q4 := Ext.cell (w := V) (B := V.heap.size) (p := ⟨b0, o0, none⟩) hB u0
        have n0 := Ext.cell (w := V) (B := V.heap.size) (p := ⟨bc, oc + K * 4, none⟩) hBc t0
        have n1 := Ext.cell (w := V) (B := V.heap.size) (p := ⟨bc, oc + K * 4 + 1, none⟩) hBc t1
        have n2 := Ext.cell (w := V) (B := V.heap.size) (p := ⟨bc, oc + K * 4 + 2, none⟩) hBc t2
        have n3 := Ext.cell (w := V) (B := V.heap.size) (p := ⟨bc, oc + K * 4 + 3, none⟩) hBc t3
        have j0 := Ext.cell (w := V) (B := V.heap.size) HE9.out.1.bs.lt (show V.cell? ⟨sb, 0, none⟩ = some (.slice (some ⟨bs, os, none⟩) e1.length c1) from HE9.out.1.bs.cell 0)
        have j1 := Ext.cell (w := V) (B := V.heap.size) HE9.out.2.1.lt (show V.cell? ⟨cb, 0, none⟩ = some (.slice (some ⟨bc, oc, none⟩) e2.length c2) from HE9.out.2.1.cell 0)
        have z3 : (K : Int) < (es.length : Int) := by have := HKL.out; omega
        have z4 : (K : Int) < (e2.length : Int) := by have := HKL.out; omega
        have el2 : ((e2.length : Int) == (es.length : Int)) = true := by rw [hl2]; simp
        have hE2 : e2.length ≤ 1000 := by omega
        have hK9 : K ≤ 1000 := by have := HKL.out; omega
        clear hy hy2 hl2 hy2r hB p0 p1 p2 p3 u0 hBc t0 t1 t2 t3 hcs hrn hin2
        refine region_plan [([0, 1, 2, 3, 4, 5, 6, 7, 10], [8, 9, 11]), ([12, 13, 14, 15, 16, 17, 18, 19, 20, 21, 22, 23, 24, 25, 26, 27, 28, 29, 30, 31, 32], [33, 34]), ([35, 36], [])] (fun w' => ∃ u : Ext V V.heap.size, w' = u.val) (by kernel_rfl) (by kernel_rfl) (fun _ _ _ _ _ h => h) ⟨⟨_, (Below.refl _ _).drew⟩, rfl⟩ ?_
        simp only [wpPlan, sel, List.take_succ_cons, List.take_zero, List.drop_succ_cons, List.drop_zero, List.cons_append, List.nil_append]
        repeat (go_big_quiet_step (fail))
        refine wpQuiet_nil ?_
        unfold wpChain
        go_wp2_with fail
        refine (HCS.out _ (Below.refl _ _).drew).mono ?_
        rintro e v9 ⟨A3, c3, e3, rfl, hI3, hr3, hb9⟩
        have hv9 : Below V.heap.size V v9 := (Below.refl V.heap.size V).drew.trans hb9
        have HV9 := Lib.hid hv9
        have hfld : ∀ W, (Instr.field 26 (.agg #[.slice A3 e3.length c3]) 0).run Try.prog W = .ok (.slice A3 e3.length c3) W := fun W => by kernel_rfl
        have hs9 := same9_c A3 (some ⟨b0, o0, none⟩) e3 es c3 c v9 hI3 (HE9.out.1.il.on hv9)
        rw [decide_eq_true hr3] at hs9
        have HS9 := Lib.hid hs9
        clear hb9 hv9 hI3 hr3 hs9 HCS
        go_wp2_with fail
        refine ⟨⟨⟨_, HV9.out⟩, rfl⟩, ?_⟩
        unfold wpChain
        go_wp2_with fail
        refine ⟨⟨⟨_, HV9.out⟩, rfl⟩, ?_⟩
        unfold wpChain
        go_wp2_with fail
        refine HS9.out.mono ?_
        rintro e v10 ⟨rfl, hb10⟩
        have HV10 : Hid (Below V.heap.size V v10) := Lib.hid (HV9.out.trans (hb10.mono HV9.out.size))
        clear hb10 HS9 HV9 hfld
        go_wp2_with fail
        refine ⟨⟨⟨_, HV10.out⟩, rfl⟩, ?_⟩
        unfold wpChain
        repeat (go_big_quiet_step (fail))
        refine wpQuiet_nil ?_
        unfold wpChain
        go_wp2_with fail
        refine (HRN.out _).mono ?_
        rintro e v11 ⟨A4, c4, rfl, hI4, hb11⟩
        have hv11 : Below V.heap.size V v11 := HV10.out.trans (hb11.mono HV10.out.size)
        have hs11 := same_c y2.r (newR (e0.r.cs.length : Int) zeroN) y2.A A4 y2.c c4 v11 (HIN2.out.on hv11) hI4
        rw [decide_eq_true HY2R.out] at hs11
        simp only [rwV_eq] at hs11
        have HS11 := Lib.hid hs11
        have HV11 := Lib.hid hv11
        clear hb11 hv11 hI4 hs11 HV10 HRN
        simp only [rwV_eq]
        go_wp2_with fail
        refine ⟨⟨⟨_, HV11.out⟩, rfl⟩, ?_⟩
        unfold wpChain
        go_wp2_with fail
        refine HS11.out.mono ?_
        rintro e v12 ⟨rfl, hb12⟩
        have HV12 : Hid (Below V.heap.size V v12) := Lib.hid (HV11.out.trans (hb12.mono HV11.out.size))
        clear hb12 HS11 HV11 q0 q1 q2 q3 q4 n0 n1 n2 n3 j0 j1
        go_wp2_with fail
        refine ⟨⟨⟨_, HV12.out⟩, rfl⟩, ?_⟩
        unfold wpChain
        repeat (go_big_quiet_step (fail))
        refine wpQuiet_nil ?_
        unfold wpChain
        go_wp2_with fail
        go_ret
        exact ⟨rfl, HE9.out.1.bl.trans (HV12.out.mono HE9.out.1.bl.size)⟩
end Go.Proofs.Ytcadbapccdclaaa
