/- RowErases over the contracts. -/
import Derived.Test.YtflpelpgnjdnkaaMem08e
import Derived.Test.YtflpelpgnjdnkaaAwake08
import Derived.Test.YtflpelpgnjdnkaaRef08
import Derived.Test.YtflpelpgnjdnkaaMath08b
import Derived.Test.YtflpelpgnjdnkaaRows08
import Derived.Test.YtflpelpgnjdnkaaBitsR
namespace Go.Proofs.Ytflpelpgnjdnkaa
open Go Go.RowKit
set_option linter.unusedVariables false
set_option linter.unusedSimpArgs false

theorem erase_ok {r : Rw} (h : RwOk r) (a b : Int) {p : Pn} (hp : PnOk p) : RwOk (eraseR r a b p) := by
  unfold eraseR
  split
  · refine ⟨h.1, mend_ok fun c hc => ?_⟩
    obtain ⟨i, hi⟩ := List.mem_iff_getElem?.1 hc
    rw [erase_at] at hi
    obtain ⟨d, hd, rfl⟩ := Option.map_eq_some_iff.1 hi
    split
    · exact blank_ok hp
    · exact h.2 d (List.mem_of_getElem? hd)
  · exact h
set_option maxRecDepth 100000 in
set_option maxHeartbeats 8000000 in
theorem erases_law (hn : New8C) (hp : Put8C) (hs : Sane8C) (he : Erase8C) (hbk : Blank8C) (r : Rw) (A : Option Addr) (c : Nat) (ka kb : Int) (p : Pn) (w : World) (hin : InC w A c r.cs) (hr : RwOk r) (hpk : PnOk p) :
    Calls Try.prog 6 #[rwV r A c, .int .i64 ka, .int .i64 kb, pnV p] w fun e w' => e = .returned (.bool true) ∧ Below w.heap.size w w' := by
  have hk0 := RowP.new p hin
  have hawake := awake8_c hn hp hs ((w.alloc (.cells #[.slice A r.cs.length c, .bool r.wrap, .int .i64 r.dir, .bool r.ex] 24)).alloc (.cells #[.int .i64 p.fg, .int .i64 p.bg, .int .i64 p.fl] 27))
  have hlen := hin.len
  unfold maxLen at hlen
  have a1 := and_65535 ka
  have a2 := and_65535 kb
  have HE := Lib.hid hk0
  have HR := Lib.hid (And.intro hr hpk)
  clear hk0 hin hr hpk
  simp only [rwV_eq, pnV]
  go_enter Try.func6, Try.ntmps6
  go_wp2_with fail
  refine hawake.mono ?_
  rintro e w1 ⟨rfl, hb1⟩
  have hE := HE.out.on hb1
  clear hawake hb1 HE
  obtain ⟨k0, k1, k2, k3⟩ : w1.cell? ⟨w.heap.size, 0, none⟩ = some (.slice A r.cs.length c) ∧ w1.cell? ⟨w.heap.size, 1, none⟩ = some (.bool r.wrap) ∧ w1.cell? ⟨w.heap.size, 2, none⟩ = some (.int .i64 r.dir) ∧ w1.cell? ⟨w.heap.size, 3, none⟩ = some (.bool r.ex) := ⟨hE.b1.cell 0, hE.b1.cell 1, hE.b1.cell 2, hE.b1.cell 3⟩
  by_cases h300 : r.cs.length > 300
  · have z1 : (r.cs.length : Int) > 300 := by omega
    have hb := hE.bel
    clear hE a1 a2
    go_wp2_with fail
    go_ret
    exact ⟨rfl, hb⟩
  have z1 : ¬ (r.cs.length : Int) > 300 := by omega
  have h1 := hs r A c w1 hE.inr HR.out.1
  simp only [rwV_eq] at h1
  have HE := Lib.hid hE
  clear hE
  by_cases hsane : SaneR r
  · rw [decide_eq_true hsane] at h1
    have HS := Lib.hid hsane
    clear hsane
    go_wp2_with fail
    refine h1.mono ?_
    rintro e w2 ⟨rfl, hb2⟩
    have hE := HE.out.on hb2
    clear h1 hb2 HE k0 k1 k2 k3
    obtain ⟨k0, k1, k2, k3⟩ : w2.cell? ⟨w.heap.size, 0, none⟩ = some (.slice A r.cs.length c) ∧ w2.cell? ⟨w.heap.size, 1, none⟩ = some (.bool r.wrap) ∧ w2.cell? ⟨w.heap.size, 2, none⟩ = some (.int .i64 r.dir) ∧ w2.cell? ⟨w.heap.size, 3, none⟩ = some (.bool r.ex) := ⟨hE.b1.cell 0, hE.b1.cell 1, hE.b1.cell 2, hE.b1.cell 3⟩
    obtain ⟨p0, p1, p2⟩ : w2.cell? ⟨w.heap.size + 1, 0, none⟩ = some (.int .i64 p.fg) ∧ w2.cell? ⟨w.heap.size + 1, 1, none⟩ = some (.int .i64 p.bg) ∧ w2.cell? ⟨w.heap.size + 1, 2, none⟩ = some (.int .i64 p.fl) := ⟨hE.b2.cell 0, hE.b2.cell 1, hE.b2.cell 2⟩
    obtain ⟨x, hx⟩ : ∃ x, ka % 65536 = x := ⟨_, rfl⟩
    obtain ⟨y, hy⟩ : ∃ y, kb % 65536 = y := ⟨_, rfl⟩
    rw [hx] at a1
    rw [hy] at a2
    have hx0 : 0 ≤ x := by omega
    have hx1 : x ≤ 65535 := by omega
    have hy0 : 0 ≤ y := by omega
    have hy1 : y ≤ 65535 := by omega
    have hl1 : (0 : Int) ≤ r.cs.length := by omega
    clear hx hy
    have hxm := Int.emod_nonneg x (show (r.cs.length : Int) + 1 ≠ 0 by omega)
    have hym := Int.emod_nonneg y (show (r.cs.length : Int) + 1 ≠ 0 by omega)
    have hxl := Int.emod_lt_of_pos x (show (0 : Int) < (r.cs.length : Int) + 1 by omega)
    have hyl := Int.emod_lt_of_pos y (show (0 : Int) < (r.cs.length : Int) + 1 by omega)
    obtain ⟨f, hf⟩ : ∃ f : Nat, x % ((r.cs.length : Int) + 1) = (f : Int) := Int.eq_ofNat_of_zero_le hxm
    obtain ⟨t, ht⟩ : ∃ t : Nat, y % ((r.cs.length : Int) + 1) = (t : Int) := Int.eq_ofNat_of_zero_le hym
    have hft : x.tmod ((r.cs.length : Int) + 1) = (f : Int) := by rw [Int.tmod_eq_emod_of_nonneg hx0]; exact hf
    have htt : y.tmod ((r.cs.length : Int) + 1) = (t : Int) := by rw [Int.tmod_eq_emod_of_nonneg hy0]; exact ht
    have hfl : f ≤ r.cs.length := by omega
    have htl : t ≤ r.cs.length := by omega
    clear hxm hym hxl hyl
    have h1 := he r A c f t p w2 hE.inr HR.out.1 (by unfold I64; omega) (by unfold I64; omega) HR.out.2
    simp only [rwV_eq, pnV] at h1
    unfold GivesRow at h1
    simp only [rwV_eq] at h1
    have hln := erases_len r f t p
    have hnone : ¬ SaneN p → eraseR r f t p = r := erases_none
    have hsaid := fun h : SaneN p => erases_said HS.out (f : Int) (t : Int) h
    have hok := erase_ok HR.out.1 (f : Int) (t : Int) HR.out.2
    have htwice : eraseR (eraseR r f t p) f t p = eraseR r f t p := by
      by_cases h : SaneN p
      · exact (hsaid h).2
      · rw [hnone h, hnone h]
    generalize hst : eraseR r (f : Int) (t : Int) p = s at *
    have HM := Lib.hid (And.intro hnone (And.intro hsaid (And.intro hok htwice)))
    have HL := Lib.hid hln
    have HE := Lib.hid hE
    clear hnone hsaid hok htwice hst hln hE
    go_wp2_with fail
    refine h1.mono ?_
    rintro e w3 ⟨A3, c3, rfl, hin3, hb3⟩
    have hE := RowS.new (HE.out.on hb3) hin3
    clear h1 hb3 hin3 HE k0 k1 k2 k3 p0 p1 p2 a1 a2 hft htt hx0 hx1 hy0 hy1 hf ht
    go_upto_region 8 with fail
    generalize hG : w3.heap.size = gs at *
    generalize w3.alloc (.cells #[.slice A3 s.cs.length c3, .bool s.wrap, .int .i64 s.dir, .bool s.ex] 24) = W at *
    clear hG
    obtain ⟨k0, k1, k2, k3⟩ : W.cell? ⟨w.heap.size, 0, none⟩ = some (.slice A r.cs.length c) ∧ W.cell? ⟨w.heap.size, 1, none⟩ = some (.bool r.wrap) ∧ W.cell? ⟨w.heap.size, 2, none⟩ = some (.int .i64 r.dir) ∧ W.cell? ⟨w.heap.size, 3, none⟩ = some (.bool r.ex) := ⟨hE.rp.b1.cell 0, hE.rp.b1.cell 1, hE.rp.b1.cell 2, hE.rp.b1.cell 3⟩
    obtain ⟨m0, m1, m2, m3⟩ : W.cell? ⟨gs, 0, none⟩ = some (.slice A3 s.cs.length c3) ∧ W.cell? ⟨gs, 1, none⟩ = some (.bool s.wrap) ∧ W.cell? ⟨gs, 2, none⟩ = some (.int .i64 s.dir) ∧ W.cell? ⟨gs, 3, none⟩ = some (.bool s.ex) := ⟨hE.b3.cell 0, hE.b3.cell 1, hE.b3.cell 2, hE.b3.cell 3⟩
    have en : ((s.cs.length : Int) != (r.cs.length : Int)) = false := by rw [HL.out]; simp
    have h1 := same_c s r A3 A c3 c W hE.ins hE.rp.inr
    simp only [rwV_eq] at h1
    have HE := Lib.hid hE
    clear hE
    by_cases hsr : s = r
    · rw [decide_eq_true hsr] at h1
      clear hsr
      go_wp2_with fail
      refine h1.mono ?_
      rintro e w4 ⟨rfl, hb4⟩
      have hE := HE.out.on hb4
      clear h1 hb4 HE k0 k1 k2 k3 m0 m1 m2 m3 en
      go_upto_region 11 with fail
      have s0 := Ext.cell (w := w4) (B := w4.heap.size) hE.b3.lt (show w4.cell? ⟨gs, 0, none⟩ = some (.slice A3 s.cs.length c3) from hE.b3.cell 0)
      have s1 := Ext.cell (w := w4) (B := w4.heap.size) hE.b3.lt (show w4.cell? ⟨gs, 1, none⟩ = some (.bool s.wrap) from hE.b3.cell 1)
      have s2 := Ext.cell (w := w4) (B := w4.heap.size) hE.b3.lt (show w4.cell? ⟨gs, 2, none⟩ = some (.int .i64 s.dir) from hE.b3.cell 2)
      have s3 := Ext.cell (w := w4) (B := w4.heap.size) hE.b3.lt (show w4.cell? ⟨gs, 3, none⟩ = some (.bool s.ex) from hE.b3.cell 3)
      have q0 := Ext.cell (w := w4) (B := w4.heap.size) hE.rp.b2.lt (show w4.cell? ⟨w.heap.size + 1, 0, none⟩ = some (.int .i64 p.fg) from hE.rp.b2.cell 0)
      have q1 := Ext.cell (w := w4) (B := w4.heap.size) hE.rp.b2.lt (show w4.cell? ⟨w.heap.size + 1, 1, none⟩ = some (.int .i64 p.bg) from hE.rp.b2.cell 1)
      have q2 := Ext.cell (w := w4) (B := w4.heap.size) hE.rp.b2.lt (show w4.cell? ⟨w.heap.size + 1, 2, none⟩ = some (.int .i64 p.fl) from hE.rp.b2.cell 2)
      have hcE := fun V (hV : Below w4.heap.size w4 V) => he s A3 c3 f t p V (hE.ins.on hV) HM.out.2.2.1 (by unfold I64; omega) (by unfold I64; omega) HR.out.2
      rw [HM.out.2.2.2] at hcE
      simp only [rwV_eq, pnV] at hcE
      unfold GivesRow at hcE
      simp only [rwV_eq] at hcE
      have HC := Lib.hid hcE
      have HE := Lib.hid hE
      clear hcE hE
      refine region_plan [([0, 1, 2, 3, 4, 5, 7], [6, 8]), ([9, 10], [])] (fun w' => ∃ u : Ext w4 w4.heap.size, w' = u.val) (by kernel_rfl) (by kernel_rfl) (fun _ _ _ _ _ h => h) ⟨⟨_, (Below.refl _ _).drew⟩, rfl⟩ ?_
      simp only [wpPlan, sel, List.take_succ_cons, List.take_zero, List.drop_succ_cons, List.drop_zero, List.cons_append, List.nil_append]
      repeat (go_big_quiet_step (fail))
      refine wpQuiet_nil ?_
      unfold wpChain
      clear s0 s1 s2 s3 q0 q1 q2
      go_wp2_with fail
      refine (HC.out _ (Below.refl _ _).drew).mono ?_
      rintro e w7 ⟨A5, c5, rfl, hin5, hb5⟩
      have hb7 : Below w4.heap.size w4 w7 := ((Below.refl _ _).drew).trans hb5
      have hE7 := HE.out.on hb7
      have h2 := same_c s s A5 A3 c5 c3 w7 hin5 hE7.ins
      rw [decide_eq_true rfl] at h2
      simp only [rwV_eq] at h2
      have HB7 := Lib.hid (And.intro hb7 hE7.rp.bel)
      clear hin5 hb5 hb7 hE7 HE HC
      go_wp2_with fail
      refine ⟨⟨⟨_, HB7.out.1⟩, rfl⟩, ?_⟩
      unfold wpChain
      go_wp2_with fail
      refine h2.mono ?_
      rintro e w8 ⟨rfl, hb8⟩
      have hb9 := HB7.out.1.trans (hb8.mono HB7.out.1.size)
      have hb10 := HB7.out.2.trans (hb8.mono HB7.out.2.size)
      clear h2 hb8 HB7
      go_wp2_with fail
      refine ⟨⟨⟨_, hb9⟩, rfl⟩, ?_⟩
      unfold wpChain
      repeat (go_big_quiet_step (fail))
      refine wpQuiet_nil ?_
      unfold wpChain
      go_wp2_with fail
      go_ret
      exact ⟨rfl, hb10⟩
    · rw [decide_eq_false hsr] at h1
      have hpn : SaneN p := by
        rcases Decidable.em (SaneN p) with h | h
        · exact h
        · exact absurd (HM.out.1 h) hsr
      have hsd := (HM.out.2.1 hpn).1
      have HD := Lib.hid hsd
      clear hsr hsd
      go_wp2_with fail
      refine h1.mono ?_
      rintro e w4 ⟨rfl, hb4⟩
      have hE := HE.out.on hb4
      clear h1 hb4 HE k0 k1 k2 k3 m0 m1 m2 m3 en
      have HE := Lib.hid hE
      clear hE
      go_wp2_with fail
      go_loopw [14] (fun u14 wr => ∃ i : Nat, i ≤ r.cs.length ∧ u14 = .int .i64 (i : Int) ∧ RowS w wr r A c p gs s A3 c3) (fun u14 _ => r.cs.length - (intOf u14).toNat)
      case atStart => exact ⟨0, Nat.zero_le _, rfl, HE.out⟩
      case round =>
        clear HE
        obtain ⟨i, hi, rfl, hE⟩ := hrel
        by_cases hlt : i < r.cs.length
        · obtain ⟨x, hx⟩ : ∃ x, r.cs[i]? = some x := ⟨_, List.getElem?_eq_getElem hlt⟩
          obtain ⟨y, hy⟩ : ∃ y, s.cs[i]? = some y := ⟨_, List.getElem?_eq_getElem (by rw [HL.out]; exact hlt)⟩
          have hd := HD.out i hlt
          rw [hx, hy] at hd
          simp only [Option.map_some, Option.some.injEq] at hd
          have hxok := HR.out.1.2 x (List.mem_of_getElem? hx)
          obtain ⟨g1, o1, eA, ab, a0, a1, a2, a3, a4, a5, a6⟩ := hE.rp.inr.at_ hx
          obtain ⟨g2, o2, eB, bb, b0, b1, b2, b3, b4, b5, b6⟩ := hE.ins.at_ hy
          have u0 := Ext.cell (w := wr) (B := wr.heap.size) (p := ⟨g1, o1 + i * 7, none⟩) ab a0
          have u1 := Ext.cell (w := wr) (B := wr.heap.size) (p := ⟨g1, o1 + i * 7 + 1, none⟩) ab a1
          have u2 := Ext.cell (w := wr) (B := wr.heap.size) (p := ⟨g1, o1 + i * 7 + 2, none⟩) ab a2
          have u3 := Ext.cell (w := wr) (B := wr.heap.size) (p := ⟨g1, o1 + i * 7 + 3, none⟩) ab a3
          have u4 := Ext.cell (w := wr) (B := wr.heap.size) (p := ⟨g1, o1 + i * 7 + 4, none⟩) ab a4
          have u5 := Ext.cell (w := wr) (B := wr.heap.size) (p := ⟨g1, o1 + i * 7 + 5, none⟩) ab a5
          have u6 := Ext.cell (w := wr) (B := wr.heap.size) (p := ⟨g1, o1 + i * 7 + 6, none⟩) ab a6
          have v0 := Ext.cell (w := wr) (B := wr.heap.size) (p := ⟨g2, o2 + i * 7, none⟩) bb b0
          have v1 := Ext.cell (w := wr) (B := wr.heap.size) (p := ⟨g2, o2 + i * 7 + 1, none⟩) bb b1
          have v2 := Ext.cell (w := wr) (B := wr.heap.size) (p := ⟨g2, o2 + i * 7 + 2, none⟩) bb b2
          have v3 := Ext.cell (w := wr) (B := wr.heap.size) (p := ⟨g2, o2 + i * 7 + 3, none⟩) bb b3
          have v4 := Ext.cell (w := wr) (B := wr.heap.size) (p := ⟨g2, o2 + i * 7 + 4, none⟩) bb b4
          have v5 := Ext.cell (w := wr) (B := wr.heap.size) (p := ⟨g2, o2 + i * 7 + 5, none⟩) bb b5
          have v6 := Ext.cell (w := wr) (B := wr.heap.size) (p := ⟨g2, o2 + i * 7 + 6, none⟩) bb b6
          have s0 := Ext.cell (w := wr) (B := wr.heap.size) hE.b3.lt (show wr.cell? ⟨gs, 0, none⟩ = some (.slice (some ⟨g2, o2, none⟩) s.cs.length c3) from by rw [← eB]; exact hE.b3.cell 0)
          have r0 := Ext.cell (w := wr) (B := wr.heap.size) hE.rp.b1.lt (show wr.cell? ⟨w.heap.size, 0, none⟩ = some (.slice (some ⟨g1, o1, none⟩) r.cs.length c) from by rw [← eA]; exact hE.rp.b1.cell 0)
          have q0 := Ext.cell (w := wr) (B := wr.heap.size) hE.rp.b2.lt (show wr.cell? ⟨w.heap.size + 1, 0, none⟩ = some (.int .i64 p.fg) from hE.rp.b2.cell 0)
          have q1 := Ext.cell (w := wr) (B := wr.heap.size) hE.rp.b2.lt (show wr.cell? ⟨w.heap.size + 1, 1, none⟩ = some (.int .i64 p.bg) from hE.rp.b2.cell 1)
          have q2 := Ext.cell (w := wr) (B := wr.heap.size) hE.rp.b2.lt (show wr.cell? ⟨w.heap.size + 1, 2, none⟩ = some (.int .i64 p.fl) from hE.rp.b2.cell 2)
          have hcr := hE.rp.inr.cap
          have hcs := hE.ins.cap
          have hsl : s.cs.length = r.cs.length := HL.out
          have zl : (i : Int) < (r.cs.length : Int) := by omega
          have zs : (i : Int) < (s.cs.length : Int) := by omega
          have hb1 : ∀ V, Calls Try.prog 11 #[.agg #[.int .i64 p.fg, .int .i64 p.bg, .int .i64 p.fl]] V (fun e w' => e = .returned (.agg #[.int .i64 0, .int .i64 0, .int .i64 0, .int .i64 1, .int .i64 p.fg, .int .i64 p.bg, .int .i64 p.fl]) ∧ Below V.heap.size V w') := fun V => hbk p V HR.out.2
          have hb2 : ∀ V, Calls Try.prog 11 #[.agg #[.int .i64 x.pen.fg, .int .i64 x.pen.bg, .int .i64 x.pen.fl]] V (fun e w' => e = .returned (.agg #[.int .i64 0, .int .i64 0, .int .i64 0, .int .i64 1, .int .i64 x.pen.fg, .int .i64 x.pen.bg, .int .i64 x.pen.fl]) ∧ Below V.heap.size V w') := fun V => hbk x.pen V hxok.2.2.2.2
          have HB1 := Lib.hid hb1
          have HB2 := Lib.hid hb2
          have HE := Lib.hid hE
          have hcap1 : s.cs.length ≤ c3 := hcs
          have hcap2 : r.cs.length ≤ c := hcr
          clear hx hy hxok eA eB a0 a1 a2 a3 a4 a5 a6 b0 b1 b2 b3 b4 b5 b6 hE hb1 hb2 hcr hcs hsl
          by_cases hab : (f : Int) ≤ (i : Int) ∧ (i : Int) < (t : Int)
          · rw [if_pos hab] at hd
            obtain ⟨z1', z2'⟩ := hab
            have e1 : ((i : Int) == (f : Int) - 1) = false := beq_eq_false_iff_ne.2 (by omega)
            have e2 : ((i : Int) == (t : Int)) = false := beq_eq_false_iff_ne.2 (by omega)
            have hne1 : ∀ V, (binOp .neq 29 (.agg #[.int .i64 y.r, .int .i64 y.m0, .int .i64 y.m1, .int .i64 y.w, .int .i64 y.pen.fg, .int .i64 y.pen.bg, .int .i64 y.pen.fl]) (.agg #[.int .i64 0, .int .i64 0, .int .i64 0, .int .i64 1, .int .i64 p.fg, .int .i64 p.bg, .int .i64 p.fl])).run Try.prog V = .ok (.bool false) V := fun V => by
              have h := cell_neq y (blankC p) V
              rw [decide_eq_true (hd)] at h
              exact h
            clear hd hi
            go_upto_region 17 with fail
            refine region_plan [([0, 1, 2, 3, 4, 5, 6, 7], [8]), ([9, 10, 11, 12, 13, 14, 15, 16, 17, 18, 19, 20, 21, 22, 23, 24, 25, 26, 27, 28, 29, 30, 31, 32, 33, 34, 35, 36, 37, 38, 39, 40, 41], [42]), ([43, 44, 45, 46], [])] (fun w' => ∃ u : Ext wr wr.heap.size, w' = u.val) (by kernel_rfl) (by kernel_rfl) (fun _ _ _ _ _ h => h) ⟨⟨_, (Below.refl _ _).drew⟩, rfl⟩ ?_
            simp only [wpPlan, sel, List.take_succ_cons, List.take_zero, List.drop_succ_cons, List.drop_zero, List.cons_append, List.nil_append]
            repeat (go_big_quiet_step (fail))
            refine wpQuiet_nil ?_
            unfold wpChain
            go_wp2_with fail
            refine (HB1.out _).mono ?_
            rintro e x7 ⟨rfl, hv⟩
            have hv7 : Below wr.heap.size wr x7 := ((Below.refl wr.heap.size wr).drew).trans hv
            clear hv
            go_wp2_with fail
            refine ⟨⟨⟨_, hv7⟩, rfl⟩, ?_⟩
            unfold wpChain
            try simp only [Act.put, List.setIfInBounds_toArray, List.set_cons_succ, List.set_cons_zero]
            repeat (go_big_quiet_step (fail))
            refine wpQuiet_nil ?_
            unfold wpChain
            have hv8 := hv7
            refine ⟨⟨⟨_, hv7⟩, rfl⟩, ?_⟩
            unfold wpChain
            try simp only [Act.put, List.setIfInBounds_toArray, List.set_cons_succ, List.set_cons_zero]
            repeat (go_big_quiet_step (fail))
            refine wpQuiet_nil ?_
            unfold wpChain
            have hE := HE.out.on hv8
            clear u0 u1 u2 u3 u4 u5 u6 v0 v1 v2 v3 v4 v5 v6 s0 r0 q0 q1 q2 HB1 HB2 HE hv7
            go_wp2_with fail
            exact ⟨⟨i + 1, by omega, by simp, hE⟩, by simp [intOf]; omega⟩
          rw [if_neg hab] at hd
          by_cases hyx : y = x
          · have hne1 : ∀ V, (binOp .neq 29 (.agg #[.int .i64 y.r, .int .i64 y.m0, .int .i64 y.m1, .int .i64 y.w, .int .i64 y.pen.fg, .int .i64 y.pen.bg, .int .i64 y.pen.fl]) (.agg #[.int .i64 x.r, .int .i64 x.m0, .int .i64 x.m1, .int .i64 x.w, .int .i64 x.pen.fg, .int .i64 x.pen.bg, .int .i64 x.pen.fl])).run Try.prog V = .ok (.bool false) V := fun V => by
              have h := cell_neq y x V
              rw [decide_eq_true (hyx)] at h
              exact h
            clear hyx
            by_cases hlo : (f : Int) ≤ (i : Int)
            · have z3 : ¬ (i : Int) < (t : Int) := fun h => hab ⟨hlo, h⟩
              clear hab
              by_cases h1 : (i : Int) = (f : Int) - 1
              · have e1 : ((i : Int) == (f : Int) - 1) = true := beq_iff_eq.2 h1
                clear h1
                clear hd hi
                go_upto_region 17 with fail
                refine region_plan [([0, 1, 2, 3, 4, 5, 6, 7], [8]), ([9, 10, 11, 12, 13, 14, 15, 16, 17, 18, 19, 20, 21, 22, 23, 24, 25, 26, 27, 28, 29, 30, 31, 32, 33, 34, 35, 36, 37, 38, 39, 40, 41], [42]), ([43, 44, 45, 46], [])] (fun w' => ∃ u : Ext wr wr.heap.size, w' = u.val) (by kernel_rfl) (by kernel_rfl) (fun _ _ _ _ _ h => h) ⟨⟨_, (Below.refl _ _).drew⟩, rfl⟩ ?_
                simp only [wpPlan, sel, List.take_succ_cons, List.take_zero, List.drop_succ_cons, List.drop_zero, List.cons_append, List.nil_append]
                repeat (go_big_quiet_step (fail))
                refine wpQuiet_nil ?_
                unfold wpChain
                have hv7 : Below wr.heap.size wr wr.drew := (Below.refl wr.heap.size wr).drew
                refine ⟨⟨⟨_, hv7⟩, rfl⟩, ?_⟩
                unfold wpChain
                try simp only [Act.put, List.setIfInBounds_toArray, List.set_cons_succ, List.set_cons_zero]
                repeat (go_big_quiet_step (fail))
                refine wpQuiet_nil ?_
                unfold wpChain
                have hv8 := hv7
                refine ⟨⟨⟨_, hv7⟩, rfl⟩, ?_⟩
                unfold wpChain
                try simp only [Act.put, List.setIfInBounds_toArray, List.set_cons_succ, List.set_cons_zero]
                repeat (go_big_quiet_step (fail))
                refine wpQuiet_nil ?_
                unfold wpChain
                have hE := HE.out.on hv8
                clear u0 u1 u2 u3 u4 u5 u6 v0 v1 v2 v3 v4 v5 v6 s0 r0 q0 q1 q2 HB1 HB2 HE hv7
                go_wp2_with fail
                exact ⟨⟨i + 1, by omega, by simp, hE⟩, by simp [intOf]; omega⟩
              have e1 : ((i : Int) == (f : Int) - 1) = false := beq_eq_false_iff_ne.2 h1
              by_cases h2 : (i : Int) = (t : Int)
              · have e2 : ((i : Int) == (t : Int)) = true := beq_iff_eq.2 h2
                clear h1 h2
                clear hd hi
                go_upto_region 17 with fail
                refine region_plan [([0, 1, 2, 3, 4, 5, 6, 7], [8]), ([9, 10, 11, 12, 13, 14, 15, 16, 17, 18, 19, 20, 21, 22, 23, 24, 25, 26, 27, 28, 29, 30, 31, 32, 33, 34, 35, 36, 37, 38, 39, 40, 41], [42]), ([43, 44, 45, 46], [])] (fun w' => ∃ u : Ext wr wr.heap.size, w' = u.val) (by kernel_rfl) (by kernel_rfl) (fun _ _ _ _ _ h => h) ⟨⟨_, (Below.refl _ _).drew⟩, rfl⟩ ?_
                simp only [wpPlan, sel, List.take_succ_cons, List.take_zero, List.drop_succ_cons, List.drop_zero, List.cons_append, List.nil_append]
                repeat (go_big_quiet_step (fail))
                refine wpQuiet_nil ?_
                unfold wpChain
                have hv7 : Below wr.heap.size wr wr.drew := (Below.refl wr.heap.size wr).drew
                refine ⟨⟨⟨_, hv7⟩, rfl⟩, ?_⟩
                unfold wpChain
                try simp only [Act.put, List.setIfInBounds_toArray, List.set_cons_succ, List.set_cons_zero]
                repeat (go_big_quiet_step (fail))
                refine wpQuiet_nil ?_
                unfold wpChain
                have hv8 := hv7
                refine ⟨⟨⟨_, hv7⟩, rfl⟩, ?_⟩
                unfold wpChain
                try simp only [Act.put, List.setIfInBounds_toArray, List.set_cons_succ, List.set_cons_zero]
                repeat (go_big_quiet_step (fail))
                refine wpQuiet_nil ?_
                unfold wpChain
                have hE := HE.out.on hv8
                clear u0 u1 u2 u3 u4 u5 u6 v0 v1 v2 v3 v4 v5 v6 s0 r0 q0 q1 q2 HB1 HB2 HE hv7
                go_wp2_with fail
                exact ⟨⟨i + 1, by omega, by simp, hE⟩, by simp [intOf]; omega⟩
              · have e2 : ((i : Int) == (t : Int)) = false := beq_eq_false_iff_ne.2 h2
                clear h1 h2
                clear hd hi
                go_upto_region 17 with fail
                refine region_plan [([0, 1, 2, 3, 4, 5, 6, 7], [8]), ([9, 10, 11, 12, 13, 14, 15, 16, 17, 18, 19, 20, 21, 22, 23, 24, 25, 26, 27, 28, 29, 30, 31, 32, 33, 34, 35, 36, 37, 38, 39, 40, 41], [42]), ([43, 44, 45, 46], [])] (fun w' => ∃ u : Ext wr wr.heap.size, w' = u.val) (by kernel_rfl) (by kernel_rfl) (fun _ _ _ _ _ h => h) ⟨⟨_, (Below.refl _ _).drew⟩, rfl⟩ ?_
                simp only [wpPlan, sel, List.take_succ_cons, List.take_zero, List.drop_succ_cons, List.drop_zero, List.cons_append, List.nil_append]
                repeat (go_big_quiet_step (fail))
                refine wpQuiet_nil ?_
                unfold wpChain
                have hv7 : Below wr.heap.size wr wr.drew := (Below.refl wr.heap.size wr).drew
                refine ⟨⟨⟨_, hv7⟩, rfl⟩, ?_⟩
                unfold wpChain
                try simp only [Act.put, List.setIfInBounds_toArray, List.set_cons_succ, List.set_cons_zero]
                repeat (go_big_quiet_step (fail))
                refine wpQuiet_nil ?_
                unfold wpChain
                have hv8 := hv7
                refine ⟨⟨⟨_, hv7⟩, rfl⟩, ?_⟩
                unfold wpChain
                try simp only [Act.put, List.setIfInBounds_toArray, List.set_cons_succ, List.set_cons_zero]
                repeat (go_big_quiet_step (fail))
                refine wpQuiet_nil ?_
                unfold wpChain
                have hE := HE.out.on hv8
                clear u0 u1 u2 u3 u4 u5 u6 v0 v1 v2 v3 v4 v5 v6 s0 r0 q0 q1 q2 HB1 HB2 HE hv7
                go_wp2_with fail
                exact ⟨⟨i + 1, by omega, by simp, hE⟩, by simp [intOf]; omega⟩
            · clear hab
              by_cases h1 : (i : Int) = (f : Int) - 1
              · have e1 : ((i : Int) == (f : Int) - 1) = true := beq_iff_eq.2 h1
                clear h1
                clear hd hi
                go_upto_region 17 with fail
                refine region_plan [([0, 1, 2, 3, 4, 5, 6, 7], [8]), ([9, 10, 11, 12, 13, 14, 15, 16, 17, 18, 19, 20, 21, 22, 23, 24, 25, 26, 27, 28, 29, 30, 31, 32, 33, 34, 35, 36, 37, 38, 39, 40, 41], [42]), ([43, 44, 45, 46], [])] (fun w' => ∃ u : Ext wr wr.heap.size, w' = u.val) (by kernel_rfl) (by kernel_rfl) (fun _ _ _ _ _ h => h) ⟨⟨_, (Below.refl _ _).drew⟩, rfl⟩ ?_
                simp only [wpPlan, sel, List.take_succ_cons, List.take_zero, List.drop_succ_cons, List.drop_zero, List.cons_append, List.nil_append]
                repeat (go_big_quiet_step (fail))
                refine wpQuiet_nil ?_
                unfold wpChain
                have hv7 : Below wr.heap.size wr wr.drew := (Below.refl wr.heap.size wr).drew
                refine ⟨⟨⟨_, hv7⟩, rfl⟩, ?_⟩
                unfold wpChain
                try simp only [Act.put, List.setIfInBounds_toArray, List.set_cons_succ, List.set_cons_zero]
                repeat (go_big_quiet_step (fail))
                refine wpQuiet_nil ?_
                unfold wpChain
                have hv8 := hv7
                refine ⟨⟨⟨_, hv7⟩, rfl⟩, ?_⟩
                unfold wpChain
                try simp only [Act.put, List.setIfInBounds_toArray, List.set_cons_succ, List.set_cons_zero]
                repeat (go_big_quiet_step (fail))
                refine wpQuiet_nil ?_
                unfold wpChain
                have hE := HE.out.on hv8
                clear u0 u1 u2 u3 u4 u5 u6 v0 v1 v2 v3 v4 v5 v6 s0 r0 q0 q1 q2 HB1 HB2 HE hv7
                go_wp2_with fail
                exact ⟨⟨i + 1, by omega, by simp, hE⟩, by simp [intOf]; omega⟩
              have e1 : ((i : Int) == (f : Int) - 1) = false := beq_eq_false_iff_ne.2 h1
              by_cases h2 : (i : Int) = (t : Int)
              · have e2 : ((i : Int) == (t : Int)) = true := beq_iff_eq.2 h2
                clear h1 h2
                clear hd hi
                go_upto_region 17 with fail
                refine region_plan [([0, 1, 2, 3, 4, 5, 6, 7], [8]), ([9, 10, 11, 12, 13, 14, 15, 16, 17, 18, 19, 20, 21, 22, 23, 24, 25, 26, 27, 28, 29, 30, 31, 32, 33, 34, 35, 36, 37, 38, 39, 40, 41], [42]), ([43, 44, 45, 46], [])] (fun w' => ∃ u : Ext wr wr.heap.size, w' = u.val) (by kernel_rfl) (by kernel_rfl) (fun _ _ _ _ _ h => h) ⟨⟨_, (Below.refl _ _).drew⟩, rfl⟩ ?_
                simp only [wpPlan, sel, List.take_succ_cons, List.take_zero, List.drop_succ_cons, List.drop_zero, List.cons_append, List.nil_append]
                repeat (go_big_quiet_step (fail))
                refine wpQuiet_nil ?_
                unfold wpChain
                have hv7 : Below wr.heap.size wr wr.drew := (Below.refl wr.heap.size wr).drew
                refine ⟨⟨⟨_, hv7⟩, rfl⟩, ?_⟩
                unfold wpChain
                try simp only [Act.put, List.setIfInBounds_toArray, List.set_cons_succ, List.set_cons_zero]
                repeat (go_big_quiet_step (fail))
                refine wpQuiet_nil ?_
                unfold wpChain
                have hv8 := hv7
                refine ⟨⟨⟨_, hv7⟩, rfl⟩, ?_⟩
                unfold wpChain
                try simp only [Act.put, List.setIfInBounds_toArray, List.set_cons_succ, List.set_cons_zero]
                repeat (go_big_quiet_step (fail))
                refine wpQuiet_nil ?_
                unfold wpChain
                have hE := HE.out.on hv8
                clear u0 u1 u2 u3 u4 u5 u6 v0 v1 v2 v3 v4 v5 v6 s0 r0 q0 q1 q2 HB1 HB2 HE hv7
                go_wp2_with fail
                exact ⟨⟨i + 1, by omega, by simp, hE⟩, by simp [intOf]; omega⟩
              · have e2 : ((i : Int) == (t : Int)) = false := beq_eq_false_iff_ne.2 h2
                clear h1 h2
                clear hd hi
                go_upto_region 17 with fail
                refine region_plan [([0, 1, 2, 3, 4, 5, 6, 7], [8]), ([9, 10, 11, 12, 13, 14, 15, 16, 17, 18, 19, 20, 21, 22, 23, 24, 25, 26, 27, 28, 29, 30, 31, 32, 33, 34, 35, 36, 37, 38, 39, 40, 41], [42]), ([43, 44, 45, 46], [])] (fun w' => ∃ u : Ext wr wr.heap.size, w' = u.val) (by kernel_rfl) (by kernel_rfl) (fun _ _ _ _ _ h => h) ⟨⟨_, (Below.refl _ _).drew⟩, rfl⟩ ?_
                simp only [wpPlan, sel, List.take_succ_cons, List.take_zero, List.drop_succ_cons, List.drop_zero, List.cons_append, List.nil_append]
                repeat (go_big_quiet_step (fail))
                refine wpQuiet_nil ?_
                unfold wpChain
                have hv7 : Below wr.heap.size wr wr.drew := (Below.refl wr.heap.size wr).drew
                refine ⟨⟨⟨_, hv7⟩, rfl⟩, ?_⟩
                unfold wpChain
                try simp only [Act.put, List.setIfInBounds_toArray, List.set_cons_succ, List.set_cons_zero]
                repeat (go_big_quiet_step (fail))
                refine wpQuiet_nil ?_
                unfold wpChain
                have hv8 := hv7
                refine ⟨⟨⟨_, hv7⟩, rfl⟩, ?_⟩
                unfold wpChain
                try simp only [Act.put, List.setIfInBounds_toArray, List.set_cons_succ, List.set_cons_zero]
                repeat (go_big_quiet_step (fail))
                refine wpQuiet_nil ?_
                unfold wpChain
                have hE := HE.out.on hv8
                clear u0 u1 u2 u3 u4 u5 u6 v0 v1 v2 v3 v4 v5 v6 s0 r0 q0 q1 q2 HB1 HB2 HE hv7
                go_wp2_with fail
                exact ⟨⟨i + 1, by omega, by simp, hE⟩, by simp [intOf]; omega⟩
          · have hed : ((i : Int) = (f : Int) - 1 ∨ (i : Int) = (t : Int)) ∧ y = blankC x.pen := hd.resolve_left hyx
            obtain ⟨hed, hyb⟩ := hed
            have hne1 : ∀ V, (binOp .neq 29 (.agg #[.int .i64 y.r, .int .i64 y.m0, .int .i64 y.m1, .int .i64 y.w, .int .i64 y.pen.fg, .int .i64 y.pen.bg, .int .i64 y.pen.fl]) (.agg #[.int .i64 x.r, .int .i64 x.m0, .int .i64 x.m1, .int .i64 x.w, .int .i64 x.pen.fg, .int .i64 x.pen.bg, .int .i64 x.pen.fl])).run Try.prog V = .ok (.bool true) V := fun V => by
              have h := cell_neq y x V
              rw [decide_eq_false (hyx)] at h
              exact h
            have hne2 : ∀ V, (binOp .neq 29 (.agg #[.int .i64 y.r, .int .i64 y.m0, .int .i64 y.m1, .int .i64 y.w, .int .i64 y.pen.fg, .int .i64 y.pen.bg, .int .i64 y.pen.fl]) (.agg #[.int .i64 0, .int .i64 0, .int .i64 0, .int .i64 1, .int .i64 x.pen.fg, .int .i64 x.pen.bg, .int .i64 x.pen.fl])).run Try.prog V = .ok (.bool false) V := fun V => by
              have h := cell_neq y (blankC x.pen) V
              rw [decide_eq_true (hyb)] at h
              exact h
            clear hyx hyb
            by_cases hlo : (f : Int) ≤ (i : Int)
            · have z3 : ¬ (i : Int) < (t : Int) := fun h => hab ⟨hlo, h⟩
              clear hab
              by_cases h1 : (i : Int) = (f : Int) - 1
              · have e1 : ((i : Int) == (f : Int) - 1) = true := beq_iff_eq.2 h1
                clear h1 hed
                clear hd hi
                go_upto_region 17 with fail
                refine region_plan [([0, 1, 2, 3, 4, 5, 6, 7], [8]), ([9, 10, 11, 12, 13, 14, 15, 16, 17, 18, 19, 20, 21, 22, 23, 24, 25, 26, 27, 28, 29, 30, 31, 32, 33, 34, 35, 36, 37, 38, 39, 40, 41], [42]), ([43, 44, 45, 46], [])] (fun w' => ∃ u : Ext wr wr.heap.size, w' = u.val) (by kernel_rfl) (by kernel_rfl) (fun _ _ _ _ _ h => h) ⟨⟨_, (Below.refl _ _).drew⟩, rfl⟩ ?_
                simp only [wpPlan, sel, List.take_succ_cons, List.take_zero, List.drop_succ_cons, List.drop_zero, List.cons_append, List.nil_append]
                repeat (go_big_quiet_step (fail))
                refine wpQuiet_nil ?_
                unfold wpChain
                have hv7 : Below wr.heap.size wr wr.drew := (Below.refl wr.heap.size wr).drew
                refine ⟨⟨⟨_, hv7⟩, rfl⟩, ?_⟩
                unfold wpChain
                try simp only [Act.put, List.setIfInBounds_toArray, List.set_cons_succ, List.set_cons_zero]
                repeat (go_big_quiet_step (fail))
                refine wpQuiet_nil ?_
                unfold wpChain
                go_wp2_with fail
                refine (HB2.out _).mono ?_
                rintro e x8 ⟨rfl, hv⟩
                have hv8 : Below wr.heap.size wr x8 := hv7.trans (hv.mono hv7.size)
                clear hv
                go_wp2_with fail
                refine ⟨⟨⟨_, hv8⟩, rfl⟩, ?_⟩
                unfold wpChain
                try simp only [Act.put, List.setIfInBounds_toArray, List.set_cons_succ, List.set_cons_zero]
                repeat (go_big_quiet_step (fail))
                refine wpQuiet_nil ?_
                unfold wpChain
                have hE := HE.out.on hv8
                clear u0 u1 u2 u3 u4 u5 u6 v0 v1 v2 v3 v4 v5 v6 s0 r0 q0 q1 q2 HB1 HB2 HE hv7
                go_wp2_with fail
                exact ⟨⟨i + 1, by omega, by simp, hE⟩, by simp [intOf]; omega⟩
              have e1 : ((i : Int) == (f : Int) - 1) = false := beq_eq_false_iff_ne.2 h1
              have e2 : ((i : Int) == (t : Int)) = true := beq_iff_eq.2 (hed.resolve_left h1)
              clear h1 hed
              clear hd hi
              go_upto_region 17 with fail
              refine region_plan [([0, 1, 2, 3, 4, 5, 6, 7], [8]), ([9, 10, 11, 12, 13, 14, 15, 16, 17, 18, 19, 20, 21, 22, 23, 24, 25, 26, 27, 28, 29, 30, 31, 32, 33, 34, 35, 36, 37, 38, 39, 40, 41], [42]), ([43, 44, 45, 46], [])] (fun w' => ∃ u : Ext wr wr.heap.size, w' = u.val) (by kernel_rfl) (by kernel_rfl) (fun _ _ _ _ _ h => h) ⟨⟨_, (Below.refl _ _).drew⟩, rfl⟩ ?_
              simp only [wpPlan, sel, List.take_succ_cons, List.take_zero, List.drop_succ_cons, List.drop_zero, List.cons_append, List.nil_append]
              repeat (go_big_quiet_step (fail))
              refine wpQuiet_nil ?_
              unfold wpChain
              have hv7 : Below wr.heap.size wr wr.drew := (Below.refl wr.heap.size wr).drew
              refine ⟨⟨⟨_, hv7⟩, rfl⟩, ?_⟩
              unfold wpChain
              try simp only [Act.put, List.setIfInBounds_toArray, List.set_cons_succ, List.set_cons_zero]
              repeat (go_big_quiet_step (fail))
              refine wpQuiet_nil ?_
              unfold wpChain
              go_wp2_with fail
              refine (HB2.out _).mono ?_
              rintro e x8 ⟨rfl, hv⟩
              have hv8 : Below wr.heap.size wr x8 := hv7.trans (hv.mono hv7.size)
              clear hv
              go_wp2_with fail
              refine ⟨⟨⟨_, hv8⟩, rfl⟩, ?_⟩
              unfold wpChain
              try simp only [Act.put, List.setIfInBounds_toArray, List.set_cons_succ, List.set_cons_zero]
              repeat (go_big_quiet_step (fail))
              refine wpQuiet_nil ?_
              unfold wpChain
              have hE := HE.out.on hv8
              clear u0 u1 u2 u3 u4 u5 u6 v0 v1 v2 v3 v4 v5 v6 s0 r0 q0 q1 q2 HB1 HB2 HE hv7
              go_wp2_with fail
              exact ⟨⟨i + 1, by omega, by simp, hE⟩, by simp [intOf]; omega⟩
            · clear hab
              by_cases h1 : (i : Int) = (f : Int) - 1
              · have e1 : ((i : Int) == (f : Int) - 1) = true := beq_iff_eq.2 h1
                clear h1 hed
                clear hd hi
                go_upto_region 17 with fail
                refine region_plan [([0, 1, 2, 3, 4, 5, 6, 7], [8]), ([9, 10, 11, 12, 13, 14, 15, 16, 17, 18, 19, 20, 21, 22, 23, 24, 25, 26, 27, 28, 29, 30, 31, 32, 33, 34, 35, 36, 37, 38, 39, 40, 41], [42]), ([43, 44, 45, 46], [])] (fun w' => ∃ u : Ext wr wr.heap.size, w' = u.val) (by kernel_rfl) (by kernel_rfl) (fun _ _ _ _ _ h => h) ⟨⟨_, (Below.refl _ _).drew⟩, rfl⟩ ?_
                simp only [wpPlan, sel, List.take_succ_cons, List.take_zero, List.drop_succ_cons, List.drop_zero, List.cons_append, List.nil_append]
                repeat (go_big_quiet_step (fail))
                refine wpQuiet_nil ?_
                unfold wpChain
                have hv7 : Below wr.heap.size wr wr.drew := (Below.refl wr.heap.size wr).drew
                refine ⟨⟨⟨_, hv7⟩, rfl⟩, ?_⟩
                unfold wpChain
                try simp only [Act.put, List.setIfInBounds_toArray, List.set_cons_succ, List.set_cons_zero]
                repeat (go_big_quiet_step (fail))
                refine wpQuiet_nil ?_
                unfold wpChain
                go_wp2_with fail
                refine (HB2.out _).mono ?_
                rintro e x8 ⟨rfl, hv⟩
                have hv8 : Below wr.heap.size wr x8 := hv7.trans (hv.mono hv7.size)
                clear hv
                go_wp2_with fail
                refine ⟨⟨⟨_, hv8⟩, rfl⟩, ?_⟩
                unfold wpChain
                try simp only [Act.put, List.setIfInBounds_toArray, List.set_cons_succ, List.set_cons_zero]
                repeat (go_big_quiet_step (fail))
                refine wpQuiet_nil ?_
                unfold wpChain
                have hE := HE.out.on hv8
                clear u0 u1 u2 u3 u4 u5 u6 v0 v1 v2 v3 v4 v5 v6 s0 r0 q0 q1 q2 HB1 HB2 HE hv7
                go_wp2_with fail
                exact ⟨⟨i + 1, by omega, by simp, hE⟩, by simp [intOf]; omega⟩
              have e1 : ((i : Int) == (f : Int) - 1) = false := beq_eq_false_iff_ne.2 h1
              have e2 : ((i : Int) == (t : Int)) = true := beq_iff_eq.2 (hed.resolve_left h1)
              clear h1 hed
              clear hd hi
              go_upto_region 17 with fail
              refine region_plan [([0, 1, 2, 3, 4, 5, 6, 7], [8]), ([9, 10, 11, 12, 13, 14, 15, 16, 17, 18, 19, 20, 21, 22, 23, 24, 25, 26, 27, 28, 29, 30, 31, 32, 33, 34, 35, 36, 37, 38, 39, 40, 41], [42]), ([43, 44, 45, 46], [])] (fun w' => ∃ u : Ext wr wr.heap.size, w' = u.val) (by kernel_rfl) (by kernel_rfl) (fun _ _ _ _ _ h => h) ⟨⟨_, (Below.refl _ _).drew⟩, rfl⟩ ?_
              simp only [wpPlan, sel, List.take_succ_cons, List.take_zero, List.drop_succ_cons, List.drop_zero, List.cons_append, List.nil_append]
              repeat (go_big_quiet_step (fail))
              refine wpQuiet_nil ?_
              unfold wpChain
              have hv7 : Below wr.heap.size wr wr.drew := (Below.refl wr.heap.size wr).drew
              refine ⟨⟨⟨_, hv7⟩, rfl⟩, ?_⟩
              unfold wpChain
              try simp only [Act.put, List.setIfInBounds_toArray, List.set_cons_succ, List.set_cons_zero]
              repeat (go_big_quiet_step (fail))
              refine wpQuiet_nil ?_
              unfold wpChain
              go_wp2_with fail
              refine (HB2.out _).mono ?_
              rintro e x8 ⟨rfl, hv⟩
              have hv8 : Below wr.heap.size wr x8 := hv7.trans (hv.mono hv7.size)
              clear hv
              go_wp2_with fail
              refine ⟨⟨⟨_, hv8⟩, rfl⟩, ?_⟩
              unfold wpChain
              try simp only [Act.put, List.setIfInBounds_toArray, List.set_cons_succ, List.set_cons_zero]
              repeat (go_big_quiet_step (fail))
              refine wpQuiet_nil ?_
              unfold wpChain
              have hE := HE.out.on hv8
              clear u0 u1 u2 u3 u4 u5 u6 v0 v1 v2 v3 v4 v5 v6 s0 r0 q0 q1 q2 HB1 HB2 HE hv7
              go_wp2_with fail
              exact ⟨⟨i + 1, by omega, by simp, hE⟩, by simp [intOf]; omega⟩
        · have zl : ¬ (i : Int) < (r.cs.length : Int) := by omega
          go_upto_region 19 with fail
          have s0 := Ext.cell (w := wr) (B := wr.heap.size) hE.b3.lt (show wr.cell? ⟨gs, 0, none⟩ = some (.slice A3 s.cs.length c3) from hE.b3.cell 0)
          have s1 := Ext.cell (w := wr) (B := wr.heap.size) hE.b3.lt (show wr.cell? ⟨gs, 1, none⟩ = some (.bool s.wrap) from hE.b3.cell 1)
          have s2 := Ext.cell (w := wr) (B := wr.heap.size) hE.b3.lt (show wr.cell? ⟨gs, 2, none⟩ = some (.int .i64 s.dir) from hE.b3.cell 2)
          have s3 := Ext.cell (w := wr) (B := wr.heap.size) hE.b3.lt (show wr.cell? ⟨gs, 3, none⟩ = some (.bool s.ex) from hE.b3.cell 3)
          have q0 := Ext.cell (w := wr) (B := wr.heap.size) hE.rp.b2.lt (show wr.cell? ⟨w.heap.size + 1, 0, none⟩ = some (.int .i64 p.fg) from hE.rp.b2.cell 0)
          have q1 := Ext.cell (w := wr) (B := wr.heap.size) hE.rp.b2.lt (show wr.cell? ⟨w.heap.size + 1, 1, none⟩ = some (.int .i64 p.bg) from hE.rp.b2.cell 1)
          have q2 := Ext.cell (w := wr) (B := wr.heap.size) hE.rp.b2.lt (show wr.cell? ⟨w.heap.size + 1, 2, none⟩ = some (.int .i64 p.fl) from hE.rp.b2.cell 2)
          have hcE := fun V (hV : Below wr.heap.size wr V) => he s A3 c3 f t p V (hE.ins.on hV) HM.out.2.2.1 (by unfold I64; omega) (by unfold I64; omega) HR.out.2
          rw [HM.out.2.2.2] at hcE
          simp only [rwV_eq, pnV] at hcE
          unfold GivesRow at hcE
          simp only [rwV_eq] at hcE
          have HC := Lib.hid hcE
          have HE := Lib.hid hE
          clear hcE hE
          refine region_plan [([0, 1, 2, 3, 4, 5, 7], [6, 8]), ([9, 10], [])] (fun w' => ∃ u : Ext wr wr.heap.size, w' = u.val) (by kernel_rfl) (by kernel_rfl) (fun _ _ _ _ _ h => h) ⟨⟨_, (Below.refl _ _).drew⟩, rfl⟩ ?_
          simp only [wpPlan, sel, List.take_succ_cons, List.take_zero, List.drop_succ_cons, List.drop_zero, List.cons_append, List.nil_append]
          repeat (go_big_quiet_step (fail))
          refine wpQuiet_nil ?_
          unfold wpChain
          clear s0 s1 s2 s3 q0 q1 q2
          go_wp2_with fail
          refine (HC.out _ (Below.refl _ _).drew).mono ?_
          rintro e w7 ⟨A5, c5, rfl, hin5, hb5⟩
          have hb7 : Below wr.heap.size wr w7 := ((Below.refl _ _).drew).trans hb5
          have hE7 := HE.out.on hb7
          have h2 := same_c s s A5 A3 c5 c3 w7 hin5 hE7.ins
          rw [decide_eq_true rfl] at h2
          simp only [rwV_eq] at h2
          have HB7 := Lib.hid (And.intro hb7 hE7.rp.bel)
          clear hin5 hb5 hb7 hE7 HE HC
          go_wp2_with fail
          refine ⟨⟨⟨_, HB7.out.1⟩, rfl⟩, ?_⟩
          unfold wpChain
          go_wp2_with fail
          refine h2.mono ?_
          rintro e w8 ⟨rfl, hb8⟩
          have hb9 := HB7.out.1.trans (hb8.mono HB7.out.1.size)
          have hb10 := HB7.out.2.trans (hb8.mono HB7.out.2.size)
          clear h2 hb8 HB7
          go_wp2_with fail
          refine ⟨⟨⟨_, hb9⟩, rfl⟩, ?_⟩
          unfold wpChain
          try simp only [Act.put, List.setIfInBounds_toArray, List.set_cons_succ, List.set_cons_zero]
          repeat (go_big_quiet_step (fail))
          refine wpQuiet_nil ?_
          unfold wpChain
          go_wp2_with fail
          go_ret
          exact ⟨rfl, hb10⟩
  · rw [decide_eq_false hsane] at h1
    go_wp2_with fail
    refine h1.mono ?_
    rintro e w2 ⟨rfl, hb2⟩
    have hb := HE.out.bel.trans (hb2.mono HE.out.bel.size)
    clear h1 hb2 HE k0 k1 k2 k3 a1 a2
    go_wp2_with fail
    go_ret
    exact ⟨rfl, hb⟩
end Go.Proofs.Ytflpelpgnjdnkaa
