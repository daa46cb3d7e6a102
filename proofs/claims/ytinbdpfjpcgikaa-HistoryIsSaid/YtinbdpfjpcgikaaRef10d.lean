/- The document's rows that have left, walked: Push. -/
import Derived.Test.YtinbdpfjpcgikaaBase6
import Derived.Test.YtinbdpfjpcgikaaMemO
namespace Go.Proofs.Ytinbdpfjpcgikaa
open Go Go.RowKit
set_option linter.unusedVariables false
set_option linter.unusedSimpArgs false

/-- Pushed so far. -/
structure Pm10 (w V wr : World) (A : Option Addr) (c : Nat) (es : List Rl) (m : Int) (fs : List Rl) (B : Option Addr) (d : Nat) (al : List Rl) (i : Nat) : Prop where
  bk : Box wr w.heap.size 24 #[.slice A es.length c, .int .i64 m]
  br : Box wr (w.heap.size + 1) 24 #[.slice none 0 0, .int .i64 0]
  ow : OffG wr V.heap.size B d al
  bl : Below w.heap.size w wr
  vs : w.heap.size + 1 < V.heap.size ∧ V.heap.size ≤ wr.heap.size
  el : ∀ e ∈ al, e ∈ es ∨ e ∈ fs
  fo : rws al = ((rws fs).take i).foldl (stepL m.toNat) (rws es)
  le : al.length ≤ m.toNat
theorem Pm10.on {w V wr v : World} {A : Option Addr} {c : Nat} {es : List Rl} {m : Int} {fs : List Rl} {B : Option Addr} {d : Nat} {al : List Rl} {i : Nat} (h : Pm10 w V wr A c es m fs B d al i) (hb : Below wr.heap.size wr v) : Pm10 w V v A c es m fs B d al i :=
  ⟨h.bk.below hb h.bk.lt, h.br.below hb h.br.lt, h.ow.on hb, h.bl.trans (hb.mono h.bl.size), ⟨h.vs.1, Nat.le_trans h.vs.2 hb.size⟩, h.el, h.fo, h.le⟩
theorem fold_snoc {l : List Rw} {i : Nat} {x : Rw} (h : l[i]? = some x) (N : Nat) (a : List Rw) : (l.take (i + 1)).foldl (stepL N) a = stepL N ((l.take i).foldl (stepL N) a) x := by
  obtain ⟨hk, he⟩ := List.getElem?_eq_some_iff.1 h
  rw [List.take_succ_eq_append_getElem hk, List.foldl_append, he]
  rfl
set_option maxRecDepth 100000 in
set_option maxHeartbeats 2000000 in
theorem rPushK_c (A : Option Addr) (c : Nat) (es : List Rl) (m : Int) (B : Option Addr) (d : Nat) (fs : List Rl) (w : World) (hin : InG w A c es) (hok : RsOk (rws es)) (hm : I64 m) (hil : InG w B d fs) (hlk : RsOk (rws fs)) (hes : es.length ≤ 1000) (hfs : fs.length ≤ 1000) :
    Calls Try.prog 19 #[.agg #[.slice A es.length c, .int .i64 m], .slice B fs.length d] w (GivesK (pushK ⟨rws es, m⟩ (rws fs)) w) := by
  have hbl : Below w.heap.size w ((w.alloc (.cells #[.slice A es.length c, .int .i64 m] 24)).alloc (.cells #[.slice none 0 0, .int .i64 0] 24)) := ((Below.refl _ _).alloc (Nat.le_refl _) _).alloc (by simp) _
  have HK := Lib.hid (And.intro ((Box.new w 24 #[.slice A es.length c, .int .i64 m]).alloc (.cells #[.slice none 0 0, .int .i64 0] 24)) (And.intro (box_at1 w (.cells #[.slice A es.length c, .int .i64 m] 24) 24 #[.slice none 0 0, .int .i64 0]) hbl))
  have HIN := Lib.hid (And.intro hin (And.intro hil hlk))
  have hs := fun V (hV : Below w.heap.size w V) => rSaneK_c A c es m V (hin.on hV) hok hm
  have HSK := Lib.hid hs
  have HNOT : Hid (¬ SaneK ⟨rws es, m⟩ → pushK ⟨rws es, m⟩ (rws fs) = ⟨[], 0⟩) := Lib.hid fun h => by unfold pushK; rw [if_neg h]
  have HYES : Hid (SaneK ⟨rws es, m⟩ → (pushK ⟨rws es, m⟩ (rws fs)).cap = m ∧ (pushK ⟨rws es, m⟩ (rws fs)).rs = (rws fs).foldl (stepL m.toNat) (rws es)) := Lib.hid fun h => by
    obtain ⟨_, h2, h3⟩ := pushK_sane h (rws fs)
    refine ⟨h2, ?_⟩
    rw [h3, push_steps]
    have h4 := h.2.2.2
    simp only at h4 ⊢
    omega
  generalize pushK ⟨rws es, m⟩ (rws fs) = R at *
  have hce := hin.rows.cap
  have hcf := hil.rows.cap
  clear hbl hin hil hs hok hm hlk
  go_enter Try.func19, Try.ntmps19
  go_upto_region 1 with fail
  generalize (w.alloc (.cells #[.slice A es.length c, .int .i64 m] 24)).alloc (.cells #[.slice none 0 0, .int .i64 0] 24) = W at *
  obtain ⟨k0, k1⟩ : W.cell? ⟨w.heap.size, 0, none⟩ = some (.slice A es.length c) ∧ W.cell? ⟨w.heap.size, 1, none⟩ = some (.int .i64 m) := ⟨HK.out.1.cell 0, HK.out.1.cell 1⟩
  have h1 := HSK.out W HK.out.2.2
  cases hq : decide (SaneK ⟨rws es, m⟩) with
  | false =>
    rw [hq] at h1
    have HF := Lib.hid (HNOT.out (of_decide_eq_false hq))
    clear hq
    go_wp2_with fail
    refine h1.mono ?_
    rintro e v1 ⟨rfl, hb⟩
    have hbr := HK.out.2.1.below hb HK.out.2.1.lt
    have HB := Lib.hid (And.intro hbr (HK.out.2.2.trans (hb.mono HK.out.2.2.size)))
    obtain ⟨f0, f1, j0, j1⟩ : v1.frozen? ⟨w.heap.size + 1, 0, none⟩ = false ∧ v1.frozen? ⟨w.heap.size + 1, 1, none⟩ = false ∧ v1.cell? ⟨w.heap.size + 1, 0, none⟩ = some (.slice none 0 0) ∧ v1.cell? ⟨w.heap.size + 1, 1, none⟩ = some (.int .i64 0) := ⟨hbr.free 0, hbr.free 1, hbr.cell 0, hbr.cell 1⟩
    clear hb h1 k0 k1 hbr
    go_wp2_with fail
    refine bodyPost_ret (ret_k rfl none 0 0 0 _ _ (w.heap.size + 1) 24 rfl ((HB.out.1.set_ 0 (.slice none 0 0)).set_ 1 (.int .i64 0))) rfl ⟨none, 0, [], by rw [HF.out]; rfl, InG.nil (Nat.zero_le _), by rw [HF.out]; rfl, (HB.out.2.setCell (p := ⟨w.heap.size + 1, 0, none⟩) (Nat.le_succ _) _).setCell (p := ⟨w.heap.size + 1, 1, none⟩) (Nat.le_succ _) _⟩
  | true =>
  rw [hq] at h1
  have HS := Lib.hid (of_decide_eq_true hq)
  have HF := Lib.hid (HYES.out (of_decide_eq_true hq))
  clear hq
  obtain ⟨hm0, hm1⟩ : 0 ≤ m ∧ m ≤ 200 := ⟨HS.out.2.1, HS.out.2.2.1⟩
  go_wp2_with fail
  refine h1.mono ?_
  rintro e v2 ⟨rfl, hb⟩
  have hal : Below v2.heap.size v2 (v2.alloc (.cells #[] 35)) := (Below.refl _ _).alloc (Nat.le_refl _) _
  have hq1 := hb.trans (hal.mono hb.size)
  have HK2 := Lib.hid (And.intro (HK.out.1.below hq1 HK.out.1.lt) (And.intro (HK.out.2.1.below hq1 HK.out.2.1.lt) (HK.out.2.2.trans (hq1.mono HK.out.2.2.size))))
  have HO := Lib.hid (empty_ownG v2 v2.heap.size (Nat.le_refl _))
  have hz : v2.heap.size ≤ (v2.alloc (.cells #[] 35)).heap.size := by simp
  have hz2 : w.heap.size + 1 < v2.heap.size := by have := hb.size; have := HK.out.2.1.lt; omega
  have HZ2 := Lib.hid hz2
  clear hb h1 k0 k1 hal hq1 HK hz2
  have k0 : (v2.alloc (.cells #[] 35)).cell? ⟨w.heap.size, 0, none⟩ = some (.slice A es.length c) := HK2.out.1.cell 0
  go_wp2_with (at_builtin; refine wpList_append_rows rfl _ _ rfl v2.heap.size 0 (some ⟨v2.heap.size, 0, none⟩) [] 0 rfl rfl HO.out A c es es.length rfl rfl (HIN.out.1.on HK2.out.2.2).rows (by simp; omega) hz ?_)
  intro B3 d3 v3 hown hO
  try simp only [List.nil_append] at hown hO ⊢
  have hb3 : Below v2.heap.size (v2.alloc (.cells #[] 35)) v3 := hO.belowBase hz (fun g hg => by simp [Value.ownBlock] at hg; omega)
  have hz3 : v2.heap.size ≤ v3.heap.size := by have := hb3.size; omega
  have hel200 : es.length ≤ m.toNat := by have h4 := HS.out.2.2.2; simp only [rws_length] at h4; omega
  have HM0 : Hid (Pm10 w v2 v3 A c es m fs B3 d3 es 0) := Lib.hid ⟨HK2.out.1.below hb3 (by have := HZ2.out; omega), HK2.out.2.1.below hb3 HZ2.out, OffG.of_own hown, HK2.out.2.2.trans (hb3.mono (by have := HZ2.out; omega)), ⟨HZ2.out, hz3⟩, fun e he => .inl he, by simp, hel200⟩
  clear hown hO hb3 hz HO HK2 k0 hz3 hel200
  go_wp2_with fail
  go_loopw [5, 6] (fun u5 u6 wr => ∃ (i : Nat) (X : Option Addr) (x : Nat) (al : List Rl), i ≤ fs.length ∧ u6 = .int .i64 (i : Int) ∧ u5 = .slice X (List.length al) x ∧ Hid (Pm10 w v2 wr A c es m fs X x al i)) (fun _ u6 _ => fs.length - (intOf u6).toNat)
  case atStart => exact ⟨0, B3, d3, es, Nat.zero_le _, rfl, rfl, HM0⟩
  case round =>
    obtain ⟨i, X, x, al, hi, rfl, rfl, HM⟩ := hrel
    clear HM0
    have hal200 : al.length ≤ 200 := by have := HM.out.le; omega
    have hxc := HM.out.ow.cap
    obtain ⟨k0, k1⟩ : wr.cell? ⟨w.heap.size, 0, none⟩ = some (.slice A es.length c) ∧ wr.cell? ⟨w.heap.size, 1, none⟩ = some (.int .i64 m) := ⟨HM.out.bk.cell 0, HM.out.bk.cell 1⟩
    by_cases hlt : i < fs.length
    · obtain ⟨y, hy⟩ : ∃ y, fs[i]? = some y := ⟨_, List.getElem?_eq_getElem hlt⟩
      have z1 : (i : Int) < (fs.length : Int) := by omega
      have hI := HIN.out.2.1.on HM.out.bl
      obtain ⟨b, o, rfl, hB, p0, p1, p2, p3⟩ := hI.rows.at_ hy
      have hsn := rSane_c y.r y.A y.c wr (hI.els y (List.mem_of_getElem? hy)) (HIN.out.2.2 y.r (List.mem_map.2 ⟨y, List.mem_of_getElem? hy, rfl⟩))
      have HY := Lib.hid hy
      clear hI hy hB
      cases hsr : decide (SaneR y.r) with
      | false =>
        rw [hsr] at hsn
        have HST : Hid (stepL m.toNat (rws al) y.r = rws al) := Lib.hid (by
          unfold stepL
          rw [if_neg (of_decide_eq_false hsr), if_neg (by rw [rws_length]; have := HM.out.le; omega)])
        clear hsr
        go_wp2_with fail
        refine hsn.mono ?_
        rintro e v4 ⟨rfl, hb⟩
        have HM4 : Hid (Pm10 w v2 v4 A c es m fs X x al (i + 1)) := Lib.hid (by
          have h := HM.out.on hb
          exact ⟨h.bk, h.br, h.ow, h.bl, h.vs, h.el, by rw [fold_snoc (rws_at HY.out), ← h.fo, HST.out], h.le⟩)
        clear hb hsn k0 k1 p0 p1 p2 p3 HM
        obtain ⟨k0, k1⟩ : v4.cell? ⟨w.heap.size, 0, none⟩ = some (.slice A es.length c) ∧ v4.cell? ⟨w.heap.size, 1, none⟩ = some (.int .i64 m) := ⟨HM4.out.bk.cell 0, HM4.out.bk.cell 1⟩
        have zle : ¬ (al.length : Int) > m := by have := HM4.out.le; omega
        go_wp2_with fail
        exact ⟨⟨i + 1, X, x, al, by omega, by go_num, rfl, HM4⟩, by simp [intOf]; omega⟩
      | true =>
        rw [hsr] at hsn
        have HSR := Lib.hid (of_decide_eq_true hsr)
        clear hsr
        go_wp2_with fail
        refine hsn.mono ?_
        rintro e v4 ⟨rfl, hb⟩
        have HM4 := Lib.hid (HM.out.on hb)
        clear hb hsn k0 k1 p0 p1 p2 p3 HM
        have hI := HIN.out.2.1.on HM4.out.bl
        obtain ⟨hB, p0, p1, p2, p3⟩ := hI.rows.at2 HY.out
        have hal : Below v4.heap.size v4 (v4.alloc (.cells #[.slice y.A y.r.cs.length y.c, .bool y.r.wrap, .int .i64 y.r.dir, .bool y.r.ex] 35)) := (Below.refl _ _).alloc (Nat.le_refl _) _
        have HM5 := Lib.hid (HM4.out.on hal)
        have HRD : Hid (RdG (v4.alloc (.cells #[.slice y.A y.r.cs.length y.c, .bool y.r.wrap, .int .i64 y.r.dir, .bool y.r.ex] 35)) (some ⟨v4.heap.size, 0, none⟩) 1 [y]) := Lib.hid (by
          refine ⟨fun _ => ⟨v4.heap.size, 0, rfl, by simp, fun k e hk j u hu => ?_⟩, by simp, by simp [maxLen]⟩
          have hk0 : k = 0 := by have := (List.getElem?_eq_some_iff.1 hk).1; simp at this; omega
          subst hk0
          simp at hk
          subst hk
          have h9 := (Box.new v4 35 #[.slice y.A y.r.cs.length y.c, .bool y.r.wrap, .int .i64 y.r.dir, .bool y.r.ex]).cell (0 + 0 * 4 + j)
          rw [h9]
          simpa [rlCells] using hu)
        have hz5 : v2.heap.size ≤ (v4.alloc (.cells #[.slice y.A y.r.cs.length y.c, .bool y.r.wrap, .int .i64 y.r.dir, .bool y.r.ex] 35)).heap.size := HM5.out.vs.2
        clear hI hB hal HM4
        go_upto_region 8 with fail
        go_wp2_with (at_builtin; refine wpList_append_off rfl _ _ rfl v2.heap.size x X al al.length rfl rfl HM5.out.ow ⟨v4.heap.size, 0, none⟩ 1 y rfl HRD.out (by omega) hz5 ?_)
        intro B' d' v6 how hO
        have hb6 : Below v2.heap.size (v4.alloc (.cells #[.slice y.A y.r.cs.length y.c, .bool y.r.wrap, .int .i64 y.r.dir, .bool y.r.ex] 35)) v6 := hO.belowBase hz5 (fun g hg => (HM5.out.ow.block hg).1)
        have HV6 := Lib.hid (And.intro (HM5.out.bk.below hb6 (by have := HM5.out.vs.1; omega)) (And.intro (HM5.out.br.below hb6 HM5.out.vs.1) (And.intro (HM5.out.bl.trans (hb6.mono (by have := HM5.out.vs.1; omega))) (And.intro HM5.out.vs.1 (Nat.le_trans hz5 hb6.size)))))
        have HEL : Hid (∀ e ∈ al ++ [y], e ∈ es ∨ e ∈ fs) := Lib.hid fun e he => (List.mem_append.1 he).elim (HM5.out.el e) (fun h => .inr (by simp at h; rw [h]; exact List.mem_of_getElem? HY.out))
        have HFO := Lib.hid HM5.out.fo
        have HLE := Lib.hid HM5.out.le
        have HOW := Lib.hid how
        have hdc := how.cap
        rw [List.length_append, List.length_cons, List.length_nil] at hdc
        obtain ⟨k0, k1⟩ : v6.cell? ⟨w.heap.size, 0, none⟩ = some (.slice A es.length c) ∧ v6.cell? ⟨w.heap.size, 1, none⟩ = some (.int .i64 m) := ⟨HV6.out.1.cell 0, HV6.out.1.cell 1⟩
        clear how hO hb6 hz5 p0 p1 p2 p3 HM5 HRD
        by_cases hov : (al.length : Int) + 1 > m
        · obtain ⟨z, l', hzl⟩ : ∃ z l', al ++ [y] = z :: l' := by
            cases al with
            | nil => exact ⟨y, [], rfl⟩
            | cons a t => exact ⟨a, t ++ [y], rfl⟩
          have hll : l'.length = al.length := by have := congrArg List.length hzl; simp at this; omega
          have hcut := fun V => cutG_l B' (al.length + 1) d' 1 (by omega) V
          rw [show al.length + 1 - 1 = l'.length from by omega] at hcut
          have hot := HOW.out
          rw [hzl] at hot
          have hot2 := hot.tail
          generalize (if d' = 1 then B' else Option.map (fun x => x.add (1 * 4)) B') = X' at *
          generalize d' - 1 = x' at *
          have hcut1 : ∀ V, (Instr.sliceAt 22 (.slice B' (al.length + 1) d') (some (.int .i64 1)) none none).run Try.prog V = .ok (.slice X' l'.length x') V := hcut
          have HM6 : Hid (Pm10 w v2 v6 A c es m fs X' x' l' (i + 1)) := Lib.hid ⟨HV6.out.1, HV6.out.2.1, hot2, HV6.out.2.2.1, HV6.out.2.2.2, fun e he => HEL.out e (by rw [hzl]; simp [he]), by
            rw [fold_snoc (rws_at HY.out), ← HFO.out]
            unfold stepL
            rw [if_pos HSR.out]
            have e1 : rws al ++ [y.r] = rws (z :: l') := by rw [← hzl, rws_app]; rfl
            rw [e1, if_pos (by rw [rws_length, List.length_cons]; omega)]
            rfl, by have := HLE.out; omega⟩
          clear hcut hot hot2 hll hzl
          go_wp2_with fail
          exact ⟨⟨i + 1, X', x', l', by omega, by go_num, rfl, HM6⟩, by simp [intOf]; omega⟩
        · have HM6 : Hid (Pm10 w v2 v6 A c es m fs B' d' (al ++ [y]) (i + 1)) := Lib.hid ⟨HV6.out.1, HV6.out.2.1, HOW.out, HV6.out.2.2.1, HV6.out.2.2.2, HEL.out, by
            rw [fold_snoc (rws_at HY.out), ← HFO.out]
            unfold stepL
            rw [if_pos HSR.out]
            have e1 : rws al ++ [y.r] = rws (al ++ [y]) := by rw [rws_app]; rfl
            rw [e1, if_neg (by rw [rws_length, List.length_append]; simp; omega)], by rw [List.length_append]; simp; omega⟩
          go_wp2_with fail
          exact ⟨⟨i + 1, B', d', al ++ [y], by omega, by go_num, by rw [List.length_append]; rfl, HM6⟩, by simp [intOf]; omega⟩
    · obtain rfl : i = fs.length := by omega
      have z1 : ¬ (fs.length : Int) < (fs.length : Int) := by omega
      obtain ⟨f0, f1, j0, j1⟩ : wr.frozen? ⟨w.heap.size + 1, 0, none⟩ = false ∧ wr.frozen? ⟨w.heap.size + 1, 1, none⟩ = false ∧ wr.cell? ⟨w.heap.size + 1, 0, none⟩ = some (.slice none 0 0) ∧ wr.cell? ⟨w.heap.size + 1, 1, none⟩ = some (.int .i64 0) := ⟨HM.out.br.free 0, HM.out.br.free 1, HM.out.br.cell 0, HM.out.br.cell 1⟩
      have hIX : InG wr X x al := ⟨HM.out.ow.in_, fun e he => (HM.out.el e he).elim (fun h => (HIN.out.1.els e h).on HM.out.bl) (fun h => (HIN.out.2.1.els e h).on HM.out.bl)⟩
      have HIX := Lib.hid hIX
      clear hIX
      go_wp2_with fail
      refine bodyPost_ret (ret_k rfl X al.length x m _ _ (w.heap.size + 1) 24 rfl ((HM.out.br.set_ 0 (.slice X al.length x)).set_ 1 (.int .i64 m))) rfl ⟨X, x, al, by rw [HF.out.1], (HIX.out.far1 HM.out.br (by simp) 0 _).far1 (HM.out.br.set_ 0 _) (by simp) 1 _, ?_, (HM.out.bl.setCell (p := ⟨w.heap.size + 1, 0, none⟩) (Nat.le_succ _) _).setCell (p := ⟨w.heap.size + 1, 1, none⟩) (Nat.le_succ _) _⟩
      rw [HF.out.2, HM.out.fo]
      congr 1
      rw [← rws_take, List.take_length]
end Go.Proofs.Ytinbdpfjpcgikaa
