/- RowMoves over the contracts. -/
import Derived.Test.YtflpelpgnjdnkaaMem08m
import Derived.Test.YtflpelpgnjdnkaaAwake08
import Derived.Test.YtflpelpgnjdnkaaRef08
import Derived.Test.YtflpelpgnjdnkaaMath08c
import Derived.Test.YtflpelpgnjdnkaaRows08
import Derived.Test.YtflpelpgnjdnkaaBitsR
namespace Go.Proofs.Ytflpelpgnjdnkaa
open Go Go.RowKit
set_option linter.unusedVariables false
set_option linter.unusedSimpArgs false

theorem ins_ok {r : Rw} (h : RwOk r) (k n t : Int) {p : Pn} (hp : PnOk p) : RwOk (insR r k n t p) := by
  unfold insR
  split
  · refine ⟨h.1, mend_ok fun c hc => ?_⟩
    rcases ins_mem hc with hc | rfl
    · exact h.2 c hc
    · exact blank_ok hp
  · exact h
theorem del_ok {r : Rw} (h : RwOk r) (k n t : Int) {p : Pn} (hp : PnOk p) : RwOk (delR r k n t p) := by
  unfold delR
  split
  · refine ⟨h.1, mend_ok fun c hc => ?_⟩
    rcases del_mem hc with hc | rfl
    · exact h.2 c hc
    · exact blank_ok hp
  · exact h
/-- Two rows that the law is told. -/
structure RowT (w W : World) (r : Rw) (A : Option Addr) (c : Nat) (p : Pn) (g : Nat) (s : Rw) (B : Option Addr) (d : Nat) (g' : Nat) (s' : Rw) (B' : Option Addr) (d' : Nat) : Prop where
  rs : RowS w W r A c p g s B d
  b4 : Box W g' 24 #[.slice B' s'.cs.length d', .bool s'.wrap, .int .i64 s'.dir, .bool s'.ex]
  ins' : InC W B' d' s'.cs
theorem RowT.on {w W W' : World} {r : Rw} {A : Option Addr} {c : Nat} {p : Pn} {g : Nat} {s : Rw} {B : Option Addr} {d g' : Nat} {s' : Rw} {B' : Option Addr} {d' : Nat} (h : RowT w W r A c p g s B d g' s' B' d') (hb : Below W.heap.size W W') : RowT w W' r A c p g s B d g' s' B' d' :=
  ⟨h.rs.on hb, h.b4.below hb h.b4.lt, h.ins'.on hb⟩
theorem RowT.new {w W : World} {r : Rw} {A : Option Addr} {c : Nat} {p : Pn} {g : Nat} {s : Rw} {B : Option Addr} {d : Nat} {s' : Rw} {B' : Option Addr} {d' : Nat} (h : RowS w W r A c p g s B d) (hs : InC W B' d' s'.cs) : RowT w (W.alloc (.cells #[.slice B' s'.cs.length d', .bool s'.wrap, .int .i64 s'.dir, .bool s'.ex] 24)) r A c p g s B d W.heap.size s' B' d' := by
  have hb := (Below.refl W.heap.size W).alloc (Nat.le_refl _) (.cells #[.slice B' s'.cs.length d', .bool s'.wrap, .int .i64 s'.dir, .bool s'.ex] 24)
  exact ⟨h.on hb, Box.new W _ _, hs.on hb⟩
/-- What the law asks of the two rows. -/
theorem moves_all {r : Rw} (h : SaneR r) (h1 : ∀ c ∈ r.cs, c.w = 1) {k m u : Nat} (hk : k ≤ u) (hw : u < r.cs.length) (hn : k + m ≤ u + 1) (p : Pn) :
    (insR r (k : Int) (m : Int) (1 + (u : Int)) p).cs.length = r.cs.length ∧ (delR (insR r (k : Int) (m : Int) (1 + (u : Int)) p) (k : Int) (m : Int) (1 + (u : Int)) p).cs.length = r.cs.length ∧
    (¬ SaneN p → insR r (k : Int) (m : Int) (1 + (u : Int)) p = r) ∧
    (SaneN p → (∀ i, i < r.cs.length → if u + 1 - m ≤ i ∧ i < u + 1 then (delR (insR r (k : Int) (m : Int) (1 + (u : Int)) p) (k : Int) (m : Int) (1 + (u : Int)) p).cs[i]? = some (blankC p) else (delR (insR r (k : Int) (m : Int) (1 + (u : Int)) p) (k : Int) (m : Int) (1 + (u : Int)) p).cs[i]? = r.cs[i]?) ∧
      ∀ i, k + m ≤ i → i < u + 1 → (insR r (k : Int) (m : Int) (1 + (u : Int)) p).cs[i]? = r.cs[i - m]?) := by
  have e : 1 + (u : Int) = ((u + 1 : Nat) : Int) := by omega
  rw [e]
  by_cases hp : SaneN p
  · have hm := moves_said h h1 (k := k) (n := m) (w := u + 1) (by omega) (by omega) hn hp
    exact ⟨hm.1, hm.2.1, fun hq => absurd hp hq, fun _ => hm.2.2⟩
  · have e1 : insR r (k : Int) (m : Int) ((u + 1 : Nat) : Int) p = r := (moves_none hp).1
    have e2 : delR r (k : Int) (m : Int) ((u + 1 : Nat) : Int) p = r := (moves_none hp).2
    rw [e1, e2]
    exact ⟨rfl, rfl, fun _ => rfl, fun hq => absurd hq hp⟩
set_option maxRecDepth 100000 in
set_option maxHeartbeats 8000000 in
theorem moves_law (hn : New8C) (hp : Put8C) (hs : Sane8C) (hi : Insert8C) (hd : Delete8C) (hbk : Blank8C) (r : Rw) (A : Option Addr) (c : Nat) (ka kn kt : Int) (p : Pn) (w : World) (hin : InC w A c r.cs) (hr : RwOk r) (hpk : PnOk p) :
    Calls Try.prog 4 #[rwV r A c, .int .i64 ka, .int .i64 kn, .int .i64 kt, pnV p] w fun e w' => e = .returned (.bool true) ∧ Below w.heap.size w w' := by
  have hk0 := RowP.new p hin
  have hawake := awake8_c hn hp hs ((w.alloc (.cells #[.slice A r.cs.length c, .bool r.wrap, .int .i64 r.dir, .bool r.ex] 24)).alloc (.cells #[.int .i64 p.fg, .int .i64 p.bg, .int .i64 p.fl] 27))
  have hlen := hin.len
  unfold maxLen at hlen
  have a1 := and_65535 ka
  have a2 := and_65535 kn
  have a3 := and_65535 kt
  have HE := Lib.hid hk0
  have HR := Lib.hid (And.intro hr hpk)
  clear hk0 hin hr hpk
  simp only [rwV_eq, pnV]
  go_enter Try.func4, Try.ntmps4
  go_wp2_with fail
  refine hawake.mono ?_
  rintro e w1 ⟨rfl, hb1⟩
  have hE := HE.out.on hb1
  clear hawake hb1 HE
  obtain ⟨k0, k1, k2, k3⟩ : w1.cell? ⟨w.heap.size, 0, none⟩ = some (.slice A r.cs.length c) ∧ w1.cell? ⟨w.heap.size, 1, none⟩ = some (.bool r.wrap) ∧ w1.cell? ⟨w.heap.size, 2, none⟩ = some (.int .i64 r.dir) ∧ w1.cell? ⟨w.heap.size, 3, none⟩ = some (.bool r.ex) := ⟨hE.b1.cell 0, hE.b1.cell 1, hE.b1.cell 2, hE.b1.cell 3⟩
  by_cases h300 : r.cs.length > 300
  · have z1 : (r.cs.length : Int) > 300 := by omega
    have hb := hE.bel
    clear hE a1 a2 a3
    go_wp2_with fail
    go_ret
    exact ⟨rfl, hb⟩
  have z1 : ¬ (r.cs.length : Int) > 300 := by omega
  have h1 := hs r A c w1 hE.inr HR.out.1
  simp only [rwV_eq] at h1
  have HE := Lib.hid hE
  clear hE
  by_cases hsane : SaneR r
  · rw [decide_eq_true hsane] at h1
    have HS := Lib.hid hsane
    clear hsane
    go_wp2_with fail
    refine h1.mono ?_
    rintro e w2 ⟨rfl, hb2⟩
    have hE := HE.out.on hb2
    clear h1 hb2 HE k0 k1 k2 k3
    obtain ⟨k0, k1, k2, k3⟩ : w2.cell? ⟨w.heap.size, 0, none⟩ = some (.slice A r.cs.length c) ∧ w2.cell? ⟨w.heap.size, 1, none⟩ = some (.bool r.wrap) ∧ w2.cell? ⟨w.heap.size, 2, none⟩ = some (.int .i64 r.dir) ∧ w2.cell? ⟨w.heap.size, 3, none⟩ = some (.bool r.ex) := ⟨hE.b1.cell 0, hE.b1.cell 1, hE.b1.cell 2, hE.b1.cell 3⟩
    obtain ⟨p0, p1, p2⟩ : w2.cell? ⟨w.heap.size + 1, 0, none⟩ = some (.int .i64 p.fg) ∧ w2.cell? ⟨w.heap.size + 1, 1, none⟩ = some (.int .i64 p.bg) ∧ w2.cell? ⟨w.heap.size + 1, 2, none⟩ = some (.int .i64 p.fl) := ⟨hE.b2.cell 0, hE.b2.cell 1, hE.b2.cell 2⟩
    by_cases h0 : r.cs.length = 0
    · have e0 : ((r.cs.length : Int) == 0) = true := beq_iff_eq.2 (by omega)
      have hb := hE.bel
      clear hE a1 a2 a3 p0 p1 p2
      go_wp2_with fail
      go_ret
      exact ⟨rfl, hb⟩
    have e0 : ((r.cs.length : Int) == 0) = false := beq_eq_false_iff_ne.2 (by omega)
    obtain ⟨x, hx⟩ : ∃ x, ka % 65536 = x := ⟨_, rfl⟩
    obtain ⟨y, hy⟩ : ∃ y, kn % 65536 = y := ⟨_, rfl⟩
    obtain ⟨z, hz⟩ : ∃ z, kt % 65536 = z := ⟨_, rfl⟩
    rw [hx] at a1
    rw [hy] at a2
    rw [hz] at a3
    have hx0 : 0 ≤ x := by omega
    have hx1 : x ≤ 65535 := by omega
    have hy0 : 0 ≤ y := by omega
    have hy1 : y ≤ 65535 := by omega
    have hz0 : 0 ≤ z := by omega
    have hz1 : z ≤ 65535 := by omega
    clear hx hy hz
    have q1 := Int.emod_nonneg z (show (r.cs.length : Int) ≠ 0 by omega)
    have q2 := Int.emod_lt_of_pos z (show (0 : Int) < (r.cs.length : Int) by omega)
    obtain ⟨u, hu⟩ : ∃ u : Nat, z % (r.cs.length : Int) = (u : Int) := Int.eq_ofNat_of_zero_le q1
    have ht2 : u < r.cs.length := by omega
    have htt : z.tmod (r.cs.length : Int) = (u : Int) := by rw [Int.tmod_eq_emod_of_nonneg hz0]; exact hu
    clear q1 q2
    have q1 := Int.emod_nonneg x (show 1 + (u : Int) ≠ 0 by omega)
    have q2 := Int.emod_lt_of_pos x (show (0 : Int) < 1 + (u : Int) by omega)
    obtain ⟨k, hk⟩ : ∃ k : Nat, x % (1 + (u : Int)) = (k : Int) := Int.eq_ofNat_of_zero_le q1
    have hkt : k ≤ u := by omega
    have hkk : x.tmod (1 + (u : Int)) = (k : Int) := by rw [Int.tmod_eq_emod_of_nonneg hx0]; exact hk
    clear q1 q2
    have q1 := Int.emod_nonneg y (show 1 + (u : Int) - k + 1 ≠ 0 by omega)
    have q2 := Int.emod_lt_of_pos y (show (0 : Int) < 1 + (u : Int) - k + 1 by omega)
    obtain ⟨m, hm⟩ : ∃ m : Nat, y % (1 + (u : Int) - k + 1) = (m : Int) := Int.eq_ofNat_of_zero_le q1
    have hmt : k + m ≤ u + 1 := by omega
    have hmm : y.tmod (1 + (u : Int) - k + 1) = (m : Int) := by rw [Int.tmod_eq_emod_of_nonneg hy0]; exact hm
    clear q1 q2
    have hk0 : (0 : Int) ≤ (k : Int) := by omega
    have hu0 : (0 : Int) ≤ (u : Int) := by omega
    have hm0 : (0 : Int) ≤ (m : Int) := by omega
    have n1 : ((r.cs.length : Int) == 0) = false := e0
    have n2 : (1 + (u : Int) == 0) = false := beq_eq_false_iff_ne.2 (by omega)
    have n3 : (1 + (u : Int) - k + 1 == 0) = false := beq_eq_false_iff_ne.2 (by omega)
    have z2 : (r.cs.length : Int) ≤ 300 := by omega
    have HE := Lib.hid hE
    clear hE
    go_wp2_with fail
    go_loopw [15] (fun u15 wr => ∃ i : Nat, i ≤ r.cs.length ∧ u15 = .int .i64 (i : Int) ∧ RowP w wr r A c p ∧ ∀ d ∈ r.cs.take i, d.w = 1) (fun u15 _ => r.cs.length - (intOf u15).toNat)
    case atStart => exact ⟨0, Nat.zero_le _, rfl, HE.out, by simp⟩
    case round =>
      clear HE k0 k1 k2 k3 p0 p1 p2 htt hkk hmm hu hk hm n1 n2 n3 e0 a1 a2 a3
      obtain ⟨i, hi1, rfl, hE, hone⟩ := hrel
      by_cases hlt : i < r.cs.length
      · obtain ⟨d, hx⟩ : ∃ d, r.cs[i]? = some d := ⟨_, List.getElem?_eq_getElem hlt⟩
        obtain ⟨g1, o1, eA, ab, a0, a1, a2, a3, a4, a5, a6⟩ := hE.inr.at_ hx
        have k0 : wr.cell? ⟨w.heap.size, 0, none⟩ = some (.slice (some ⟨g1, o1, none⟩) r.cs.length c) := by rw [← eA]; exact hE.b1.cell 0
        have zl : (i : Int) < (r.cs.length : Int) := by omega
        have hcr : r.cs.length ≤ c := hE.inr.cap
        by_cases hw : d.w = 1
        · have e1 : (d.w != 1) = false := by rw [hw]; rfl
          have hnext : ∀ d ∈ r.cs.take (i + 1), d.w = 1 := by
            rw [List.take_add_one, hx]
            intro q hq
            rcases List.mem_append.1 hq with hq | hq
            · exact hone q hq
            · simp only [Option.toList_some, List.mem_singleton] at hq
              rw [hq]; exact hw
          have HE := Lib.hid hE
          have HN := Lib.hid hnext
          clear hw hnext hone hE eA a0 a1 a2 a4 a5 a6 hx
          go_wp2_with fail
          exact ⟨⟨i + 1, by omega, by simp, HE.out, HN.out⟩, by simp [intOf]; omega⟩
        · have e1 : (d.w != 1) = true := by simpa using hw
          have hb := hE.bel
          clear hw hone hE eA a0 a1 a2 a4 a5 a6 hx
          go_wp2_with fail
          go_ret
          exact ⟨rfl, hb⟩
      · have zl : ¬ (i : Int) < (r.cs.length : Int) := by omega
        have hall : ∀ d ∈ r.cs, d.w = 1 := by
          rw [List.take_of_length_le (by omega)] at hone
          exact hone
        have hm := moves_all HS.out hall (k := k) (m := m) (u := u) hkt ht2 hmt p
        have hok := ins_ok HR.out.1 (k : Int) (m : Int) (1 + (u : Int)) HR.out.2
        have h1 := hi r A c k m (1 + u) p wr hE.inr HR.out.1 (by unfold I64; omega) (by unfold I64; omega) (by unfold I64; omega) HR.out.2
        generalize hs1 : insR r (k : Int) (m : Int) (1 + (u : Int)) p = s at *
        have h2 := fun (B : Option Addr) (e : Nat) (V : World) (hV : InC V B e s.cs) => hd s B e k m (1 + u) p V hV hok (by unfold I64; omega) (by unfold I64; omega) (by unfold I64; omega) HR.out.2
        generalize hs2 : delR s (k : Int) (m : Int) (1 + (u : Int)) p = s' at *
        unfold GivesRow at h1 h2
        simp only [rwV_eq, pnV] at h1 h2
        have HM := Lib.hid hm
        have H2 := Lib.hid h2
        obtain ⟨k0, k1, k2, k3⟩ : wr.cell? ⟨w.heap.size, 0, none⟩ = some (.slice A r.cs.length c) ∧ wr.cell? ⟨w.heap.size, 1, none⟩ = some (.bool r.wrap) ∧ wr.cell? ⟨w.heap.size, 2, none⟩ = some (.int .i64 r.dir) ∧ wr.cell? ⟨w.heap.size, 3, none⟩ = some (.bool r.ex) := ⟨hE.b1.cell 0, hE.b1.cell 1, hE.b1.cell 2, hE.b1.cell 3⟩
        obtain ⟨p0, p1, p2⟩ : wr.cell? ⟨w.heap.size + 1, 0, none⟩ = some (.int .i64 p.fg) ∧ wr.cell? ⟨w.heap.size + 1, 1, none⟩ = some (.int .i64 p.bg) ∧ wr.cell? ⟨w.heap.size + 1, 2, none⟩ = some (.int .i64 p.fl) := ⟨hE.b2.cell 0, hE.b2.cell 1, hE.b2.cell 2⟩
        have HE := Lib.hid hE
        clear hE hm h2 hs1 hs2 hok hone hall HS
        go_wp2_with fail
        refine h1.mono ?_
        rintro e w3 ⟨A3, c3, rfl, hin3, hb3⟩
        have hE := RowS.new (HE.out.on hb3) hin3
        clear h1 hb3 hin3 HE k0 k1 k2 k3 p0 p1 p2
        go_upto_region 13 with fail
        generalize hG : w3.heap.size = gs at *
        generalize w3.alloc (.cells #[.slice A3 s.cs.length c3, .bool s.wrap, .int .i64 s.dir, .bool s.ex] 24) = W at *
        clear hG
        have h1 := H2.out A3 c3 W hE.ins
        obtain ⟨m0, m1, m2, m3⟩ : W.cell? ⟨gs, 0, none⟩ = some (.slice A3 s.cs.length c3) ∧ W.cell? ⟨gs, 1, none⟩ = some (.bool s.wrap) ∧ W.cell? ⟨gs, 2, none⟩ = some (.int .i64 s.dir) ∧ W.cell? ⟨gs, 3, none⟩ = some (.bool s.ex) := ⟨hE.b3.cell 0, hE.b3.cell 1, hE.b3.cell 2, hE.b3.cell 3⟩
        obtain ⟨p0, p1, p2⟩ : W.cell? ⟨w.heap.size + 1, 0, none⟩ = some (.int .i64 p.fg) ∧ W.cell? ⟨w.heap.size + 1, 1, none⟩ = some (.int .i64 p.bg) ∧ W.cell? ⟨w.heap.size + 1, 2, none⟩ = some (.int .i64 p.fl) := ⟨hE.rp.b2.cell 0, hE.rp.b2.cell 1, hE.rp.b2.cell 2⟩
        have HE := Lib.hid hE
        clear hE H2
        go_wp2_with fail
        refine h1.mono ?_
        rintro e w4 ⟨A4, c4, rfl, hin4, hb4⟩
        have hE := RowT.new (HE.out.on hb4) hin4
        clear h1 hb4 hin4 HE m0 m1 m2 m3 p0 p1 p2
        go_upto_region 14 with fail
        generalize hG : w4.heap.size = gt at *
        generalize w4.alloc (.cells #[.slice A4 s'.cs.length c4, .bool s'.wrap, .int .i64 s'.dir, .bool s'.ex] 24) = W2 at *
        clear hG
        obtain ⟨k0, k1, k2, k3⟩ : W2.cell? ⟨w.heap.size, 0, none⟩ = some (.slice A r.cs.length c) ∧ W2.cell? ⟨w.heap.size, 1, none⟩ = some (.bool r.wrap) ∧ W2.cell? ⟨w.heap.size, 2, none⟩ = some (.int .i64 r.dir) ∧ W2.cell? ⟨w.heap.size, 3, none⟩ = some (.bool r.ex) := ⟨hE.rs.rp.b1.cell 0, hE.rs.rp.b1.cell 1, hE.rs.rp.b1.cell 2, hE.rs.rp.b1.cell 3⟩
        obtain ⟨m0, m1, m2, m3⟩ : W2.cell? ⟨gs, 0, none⟩ = some (.slice A3 s.cs.length c3) ∧ W2.cell? ⟨gs, 1, none⟩ = some (.bool s.wrap) ∧ W2.cell? ⟨gs, 2, none⟩ = some (.int .i64 s.dir) ∧ W2.cell? ⟨gs, 3, none⟩ = some (.bool s.ex) := ⟨hE.rs.b3.cell 0, hE.rs.b3.cell 1, hE.rs.b3.cell 2, hE.rs.b3.cell 3⟩
        have h1 := same_c s r A3 A c3 c W2 hE.rs.ins hE.rs.rp.inr
        simp only [rwV_eq] at h1
        have en : ((s.cs.length : Int) == (r.cs.length : Int)) = true := by rw [HM.out.1]; simp
        have HE := Lib.hid hE
        clear hE
        by_cases hsr : s = r
        · rw [decide_eq_true hsr] at h1
          clear hsr
          go_wp2_with fail
          refine h1.mono ?_
          rintro e w5 ⟨rfl, hb5⟩
          have hE := HE.out.on hb5
          clear h1 hb5 HE k0 k1 k2 k3 m0 m1 m2 m3
          have k0 : w5.cell? ⟨w.heap.size, 0, none⟩ = some (.slice A r.cs.length c) := hE.rs.rp.b1.cell 0
          have m0 : w5.cell? ⟨gs, 0, none⟩ = some (.slice A3 s.cs.length c3) := hE.rs.b3.cell 0
          have hb := hE.rs.rp.bel
          clear hE
          go_wp2_with fail
          go_ret
          exact ⟨rfl, hb⟩
        · rw [decide_eq_false hsr] at h1
          have hpn : SaneN p := by
            rcases Decidable.em (SaneN p) with h | h
            · exact h
            · exact absurd (HM.out.2.2.1 h) hsr
          clear en
          go_wp2_with fail
          refine h1.mono ?_
          rintro e w5 ⟨rfl, hb5⟩
          have hE := HE.out.on hb5
          have HD := Lib.hid (HM.out.2.2.2 hpn)
          have HL := Lib.hid (And.intro HM.out.1 HM.out.2.1)
          clear h1 hb5 HE k0 k1 k2 k3 m0 m1 m2 m3 HM hsr
          have k0 : w5.cell? ⟨w.heap.size, 0, none⟩ = some (.slice A r.cs.length c) := hE.rs.rp.b1.cell 0
          have m0 : w5.cell? ⟨gs, 0, none⟩ = some (.slice A3 s.cs.length c3) := hE.rs.b3.cell 0
          have r0 : w5.cell? ⟨gt, 0, none⟩ = some (.slice A4 s'.cs.length c4) := hE.b4.cell 0
          have n1 : ((s.cs.length : Int) != (r.cs.length : Int)) = false := by rw [HL.out.1]; simp
          have n2 : ((s'.cs.length : Int) != (r.cs.length : Int)) = false := by rw [HL.out.2]; simp
          have HE := Lib.hid hE
          clear hE
          go_wp2_with fail
          go_loopw [18] (fun u18 wr => ∃ i : Nat, i ≤ r.cs.length ∧ u18 = .int .i64 (i : Int) ∧ RowT w wr r A c p gs s A3 c3 gt s' A4 c4) (fun u18 _ => r.cs.length - (intOf u18).toNat)
          case atStart => exact ⟨0, Nat.zero_le _, rfl, HE.out⟩
          case round =>
            clear HE k0 m0 r0 n1 n2 zl hi1 hlt
            rename_i i0 _
            obtain ⟨i, hi1, rfl, hE⟩ := hrel
            by_cases hlt : i < r.cs.length
            · obtain ⟨x, hx⟩ : ∃ x, r.cs[i]? = some x := ⟨_, List.getElem?_eq_getElem hlt⟩
              obtain ⟨y, hy⟩ : ∃ y, s'.cs[i]? = some y := ⟨_, List.getElem?_eq_getElem (by rw [HL.out.2]; exact hlt)⟩
              have hd1 := HD.out.1 i hlt
              rw [hx, hy] at hd1
              simp only [Option.some.injEq] at hd1
              obtain ⟨g1, o1, eA, ab, a0, a1, a2, a3, a4, a5, a6⟩ := hE.rs.rp.inr.at_ hx
              obtain ⟨g2, o2, eB, bb, b0, b1, b2, b3, b4, b5, b6⟩ := hE.ins'.at_ hy
              have u0 := Ext.cell (w := wr) (B := wr.heap.size) (p := ⟨g1, o1 + i * 7, none⟩) ab a0
              have u1 := Ext.cell (w := wr) (B := wr.heap.size) (p := ⟨g1, o1 + i * 7 + 1, none⟩) ab a1
              have u2 := Ext.cell (w := wr) (B := wr.heap.size) (p := ⟨g1, o1 + i * 7 + 2, none⟩) ab a2
              have u3 := Ext.cell (w := wr) (B := wr.heap.size) (p := ⟨g1, o1 + i * 7 + 3, none⟩) ab a3
              have u4 := Ext.cell (w := wr) (B := wr.heap.size) (p := ⟨g1, o1 + i * 7 + 4, none⟩) ab a4
              have u5 := Ext.cell (w := wr) (B := wr.heap.size) (p := ⟨g1, o1 + i * 7 + 5, none⟩) ab a5
              have u6 := Ext.cell (w := wr) (B := wr.heap.size) (p := ⟨g1, o1 + i * 7 + 6, none⟩) ab a6
              have v0 := Ext.cell (w := wr) (B := wr.heap.size) (p := ⟨g2, o2 + i * 7, none⟩) bb b0
              have v1 := Ext.cell (w := wr) (B := wr.heap.size) (p := ⟨g2, o2 + i * 7 + 1, none⟩) bb b1
              have v2 := Ext.cell (w := wr) (B := wr.heap.size) (p := ⟨g2, o2 + i * 7 + 2, none⟩) bb b2
              have v3 := Ext.cell (w := wr) (B := wr.heap.size) (p := ⟨g2, o2 + i * 7 + 3, none⟩) bb b3
              have v4 := Ext.cell (w := wr) (B := wr.heap.size) (p := ⟨g2, o2 + i * 7 + 4, none⟩) bb b4
              have v5 := Ext.cell (w := wr) (B := wr.heap.size) (p := ⟨g2, o2 + i * 7 + 5, none⟩) bb b5
              have v6 := Ext.cell (w := wr) (B := wr.heap.size) (p := ⟨g2, o2 + i * 7 + 6, none⟩) bb b6
              have s0 := Ext.cell (w := wr) (B := wr.heap.size) hE.b4.lt (show wr.cell? ⟨gt, 0, none⟩ = some (.slice (some ⟨g2, o2, none⟩) s'.cs.length c4) from by rw [← eB]; exact hE.b4.cell 0)
              have r0 := Ext.cell (w := wr) (B := wr.heap.size) hE.rs.rp.b1.lt (show wr.cell? ⟨w.heap.size, 0, none⟩ = some (.slice (some ⟨g1, o1, none⟩) r.cs.length c) from by rw [← eA]; exact hE.rs.rp.b1.cell 0)
              have q0 := Ext.cell (w := wr) (B := wr.heap.size) hE.rs.rp.b2.lt (show wr.cell? ⟨w.heap.size + 1, 0, none⟩ = some (.int .i64 p.fg) from hE.rs.rp.b2.cell 0)
              have q1 := Ext.cell (w := wr) (B := wr.heap.size) hE.rs.rp.b2.lt (show wr.cell? ⟨w.heap.size + 1, 1, none⟩ = some (.int .i64 p.bg) from hE.rs.rp.b2.cell 1)
              have q2 := Ext.cell (w := wr) (B := wr.heap.size) hE.rs.rp.b2.lt (show wr.cell? ⟨w.heap.size + 1, 2, none⟩ = some (.int .i64 p.fl) from hE.rs.rp.b2.cell 2)
              have zl : (i : Int) < (r.cs.length : Int) := by omega
              have zs : (i : Int) < (s'.cs.length : Int) := by rw [HL.out.2]; omega
              have hb1 : ∀ V, Calls Try.prog 11 #[.agg #[.int .i64 p.fg, .int .i64 p.bg, .int .i64 p.fl]] V (fun e w' => e = .returned (.agg #[.int .i64 0, .int .i64 0, .int .i64 0, .int .i64 1, .int .i64 p.fg, .int .i64 p.bg, .int .i64 p.fl]) ∧ Below V.heap.size V w') := fun V => hbk p V HR.out.2
              have HB1 := Lib.hid hb1
              have k0 : wr.cell? ⟨w.heap.size, 0, none⟩ = some (.slice (some ⟨g1, o1, none⟩) r.cs.length c) := by rw [← eA]; exact hE.rs.rp.b1.cell 0
              have hcap1 : s'.cs.length ≤ c4 := hE.ins'.cap
              have hcap2 : r.cs.length ≤ c := hE.rs.rp.inr.cap
              have HE := Lib.hid hE
              clear hx hy eB a0 a1 a2 a3 a4 a5 a6 b0 b1 b2 b3 b4 b5 b6 hE hb1
              by_cases l1 : u + 1 - m ≤ i
              · have l1' : 1 + (u : Int) - (m : Int) ≤ (i : Int) := by omega
                have d1 : decide (1 + (u : Int) - (m : Int) ≤ (i : Int)) = true := decide_eq_true l1'
                by_cases l2 : i < u + 1
                · have l2' : (i : Int) < 1 + (u : Int) := by omega
                  have d2 : decide ((i : Int) < 1 + (u : Int)) = true := decide_eq_true l2'
                  rw [if_pos ⟨l1, l2⟩] at hd1
                  have hyx := hd1
                  clear hd1
                  by_cases l3 : k + m ≤ i
                  · have l3' : (k : Int) + (m : Int) ≤ (i : Int) := by omega
                    have d3 : decide ((k : Int) + (m : Int) ≤ (i : Int)) = true := decide_eq_true l3'
                    have hne1 : ∀ V, (binOp .neq 29 (.agg #[.int .i64 y.r, .int .i64 y.m0, .int .i64 y.m1, .int .i64 y.w, .int .i64 y.pen.fg, .int .i64 y.pen.bg, .int .i64 y.pen.fl]) (.agg #[.int .i64 0, .int .i64 0, .int .i64 0, .int .i64 1, .int .i64 p.fg, .int .i64 p.bg, .int .i64 p.fl])).run Try.prog V = .ok (.bool false) V := fun V => by
                      have h := cell_neq y (blankC p) V
                      rw [decide_eq_true (hyx)] at h
                      exact h
                    clear hyx
                    obtain ⟨j, hj⟩ : ∃ j : Nat, i = j + m := ⟨i - m, by omega⟩
                    have hji : (i : Int) - (m : Int) = (j : Int) := by omega
                    have hjl : j < r.cs.length := by omega
                    obtain ⟨x2, hx2⟩ : ∃ d, r.cs[j]? = some d := ⟨_, List.getElem?_eq_getElem hjl⟩
                    obtain ⟨y2, hy2⟩ : ∃ d, s.cs[i]? = some d := ⟨_, List.getElem?_eq_getElem (by rw [HL.out.1]; exact hlt)⟩
                    have hyx2 : y2 = x2 := by
                      have h := HD.out.2 i (by omega) (by omega)
                      rw [hy2, show i - m = j by omega, hx2] at h
                      exact Option.some.inj h
                    obtain ⟨g3, o3, eC, cb, c0, c1, c2, c3', c4', c5, c6⟩ := HE.out.rs.ins.at_ hy2
                    obtain ⟨g4, o4, eD, db, d0, d1, d2, d3, d4, d5, d6⟩ := HE.out.rs.rp.inr.at_ hx2
                    have eo : g4 = g1 ∧ o4 = o1 := by
                      rw [eA] at eD
                      simp only [Option.some.injEq, Addr.mk.injEq, and_true] at eD
                      exact ⟨eD.1.symm, eD.2.symm⟩
                    obtain ⟨rfl, rfl⟩ := eo
                    have t0 := Ext.cell (w := wr) (B := wr.heap.size) HE.out.rs.b3.lt (show wr.cell? ⟨gs, 0, none⟩ = some (.slice (some ⟨g3, o3, none⟩) s.cs.length c3) from by rw [← eC]; exact HE.out.rs.b3.cell 0)
                    have e0 := Ext.cell (w := wr) (B := wr.heap.size) (p := ⟨g3, o3 + i * 7, none⟩) cb c0
                    have e1 := Ext.cell (w := wr) (B := wr.heap.size) (p := ⟨g3, o3 + i * 7 + 1, none⟩) cb c1
                    have e2 := Ext.cell (w := wr) (B := wr.heap.size) (p := ⟨g3, o3 + i * 7 + 2, none⟩) cb c2
                    have e3 := Ext.cell (w := wr) (B := wr.heap.size) (p := ⟨g3, o3 + i * 7 + 3, none⟩) cb c3'
                    have e4 := Ext.cell (w := wr) (B := wr.heap.size) (p := ⟨g3, o3 + i * 7 + 4, none⟩) cb c4'
                    have e5 := Ext.cell (w := wr) (B := wr.heap.size) (p := ⟨g3, o3 + i * 7 + 5, none⟩) cb c5
                    have e6 := Ext.cell (w := wr) (B := wr.heap.size) (p := ⟨g3, o3 + i * 7 + 6, none⟩) cb c6
                    have f0 := Ext.cell (w := wr) (B := wr.heap.size) (p := ⟨g4, o4 + j * 7, none⟩) db d0
                    have f1 := Ext.cell (w := wr) (B := wr.heap.size) (p := ⟨g4, o4 + j * 7 + 1, none⟩) db d1
                    have f2 := Ext.cell (w := wr) (B := wr.heap.size) (p := ⟨g4, o4 + j * 7 + 2, none⟩) db d2
                    have f3 := Ext.cell (w := wr) (B := wr.heap.size) (p := ⟨g4, o4 + j * 7 + 3, none⟩) db d3
                    have f4 := Ext.cell (w := wr) (B := wr.heap.size) (p := ⟨g4, o4 + j * 7 + 4, none⟩) db d4
                    have f5 := Ext.cell (w := wr) (B := wr.heap.size) (p := ⟨g4, o4 + j * 7 + 5, none⟩) db d5
                    have f6 := Ext.cell (w := wr) (B := wr.heap.size) (p := ⟨g4, o4 + j * 7 + 6, none⟩) db d6
                    have hne2 : ∀ V, (binOp .neq 29 (.agg #[.int .i64 y2.r, .int .i64 y2.m0, .int .i64 y2.m1, .int .i64 y2.w, .int .i64 y2.pen.fg, .int .i64 y2.pen.bg, .int .i64 y2.pen.fl]) (.agg #[.int .i64 x2.r, .int .i64 x2.m0, .int .i64 x2.m1, .int .i64 x2.w, .int .i64 x2.pen.fg, .int .i64 x2.pen.bg, .int .i64 x2.pen.fl])).run Try.prog V = .ok (.bool false) V := fun V => by
                      have h := cell_neq y2 x2 V
                      rw [decide_eq_true (hyx2)] at h
                      exact h
                    have hcap3 : s.cs.length ≤ c3 := HE.out.rs.ins.cap
                    have zj : (j : Int) < (r.cs.length : Int) := by omega
                    have zq : (i : Int) < (s.cs.length : Int) := by rw [HL.out.1]; omega
                    clear hx2 hy2 hyx2 eC eD c0 c1 c2 c3' c4' c5 c6 d0 d1 d2 d3 d4 d5 d6 hj
                    clear eA HD
                    go_upto_region 22 with fail
                    refine region_plan [([0, 1, 2, 3, 4, 5, 6, 7, 8, 9, 10, 11, 12, 13, 14, 15, 16, 17, 18, 19, 20, 21, 22, 23], [24]), ([25, 26, 27], [])] (fun w' => ∃ u : Ext wr wr.heap.size, w' = u.val) (by kernel_rfl) (by kernel_rfl) (fun _ _ _ _ _ h => h) ⟨⟨_, (Below.refl _ _).drew⟩, rfl⟩ ?_
                    simp only [wpPlan, sel, List.take_succ_cons, List.take_zero, List.drop_succ_cons, List.drop_zero, List.cons_append, List.nil_append]
                    repeat (go_big_quiet_step (fail))
                    refine wpQuiet_nil ?_
                    unfold wpChain
                    go_wp2_with fail
                    refine (HB1.out _).mono ?_
                    rintro e x7 ⟨rfl, hv⟩
                    have hv7 : Below wr.heap.size wr x7 := ((Below.refl wr.heap.size wr).drew).trans hv
                    clear hv
                    go_wp2_with fail
                    refine ⟨⟨⟨_, hv7⟩, rfl⟩, ?_⟩
                    unfold wpChain
                    try simp only [Act.put, List.setIfInBounds_toArray, List.set_cons_succ, List.set_cons_zero]
                    repeat (go_big_quiet_step (fail))
                    refine wpQuiet_nil ?_
                    unfold wpChain
                    go_upto_region 24 with fail
                    refine region_plan [([0, 1, 2, 3, 4, 5, 6, 7, 8, 9, 10, 11, 12, 13, 14, 15, 16, 17, 18, 19, 20, 21, 22, 23, 24], [])] (fun w' => ∃ u : Ext wr wr.heap.size, w' = u.val) (by kernel_rfl) (by kernel_rfl) (fun _ _ _ _ _ h => h) ⟨⟨_, hv7.drew⟩, rfl⟩ ?_
                    simp only [wpPlan, sel, List.take_succ_cons, List.take_zero, List.drop_succ_cons, List.drop_zero, List.cons_append, List.nil_append]
                    repeat (go_big_quiet_step (fail))
                    refine wpQuiet_nil ?_
                    unfold wpChain
                    have hE := HE.out.on hv7.drew
                    clear HB1 HE
                    go_wp2_with fail
                    exact ⟨⟨i + 1, by omega, by simp, hE⟩, by simp [intOf]; omega⟩
                  · have l3' : ¬ (k : Int) + (m : Int) ≤ (i : Int) := by omega
                    have d3 : decide ((k : Int) + (m : Int) ≤ (i : Int)) = false := decide_eq_false l3'
                    have hne1 : ∀ V, (binOp .neq 29 (.agg #[.int .i64 y.r, .int .i64 y.m0, .int .i64 y.m1, .int .i64 y.w, .int .i64 y.pen.fg, .int .i64 y.pen.bg, .int .i64 y.pen.fl]) (.agg #[.int .i64 0, .int .i64 0, .int .i64 0, .int .i64 1, .int .i64 p.fg, .int .i64 p.bg, .int .i64 p.fl])).run Try.prog V = .ok (.bool false) V := fun V => by
                      have h := cell_neq y (blankC p) V
                      rw [decide_eq_true (hyx)] at h
                      exact h
                    clear hyx
                    clear eA HD
                    go_upto_region 22 with fail
                    refine region_plan [([0, 1, 2, 3, 4, 5, 6, 7, 8, 9, 10, 11, 12, 13, 14, 15, 16, 17, 18, 19, 20, 21, 22, 23], [24]), ([25, 26, 27], [])] (fun w' => ∃ u : Ext wr wr.heap.size, w' = u.val) (by kernel_rfl) (by kernel_rfl) (fun _ _ _ _ _ h => h) ⟨⟨_, (Below.refl _ _).drew⟩, rfl⟩ ?_
                    simp only [wpPlan, sel, List.take_succ_cons, List.take_zero, List.drop_succ_cons, List.drop_zero, List.cons_append, List.nil_append]
                    repeat (go_big_quiet_step (fail))
                    refine wpQuiet_nil ?_
                    unfold wpChain
                    go_wp2_with fail
                    refine (HB1.out _).mono ?_
                    rintro e x7 ⟨rfl, hv⟩
                    have hv7 : Below wr.heap.size wr x7 := ((Below.refl wr.heap.size wr).drew).trans hv
                    clear hv
                    go_wp2_with fail
                    refine ⟨⟨⟨_, hv7⟩, rfl⟩, ?_⟩
                    unfold wpChain
                    try simp only [Act.put, List.setIfInBounds_toArray, List.set_cons_succ, List.set_cons_zero]
                    repeat (go_big_quiet_step (fail))
                    refine wpQuiet_nil ?_
                    unfold wpChain
                    go_upto_region 24 with fail
                    refine region_plan [([0, 1, 2, 3, 4, 5, 6, 7, 8, 9, 10, 11, 12, 13, 14, 15, 16, 17, 18, 19, 20, 21, 22, 23, 24], [])] (fun w' => ∃ u : Ext wr wr.heap.size, w' = u.val) (by kernel_rfl) (by kernel_rfl) (fun _ _ _ _ _ h => h) ⟨⟨_, hv7.drew⟩, rfl⟩ ?_
                    simp only [wpPlan, sel, List.take_succ_cons, List.take_zero, List.drop_succ_cons, List.drop_zero, List.cons_append, List.nil_append]
                    repeat (go_big_quiet_step (fail))
                    refine wpQuiet_nil ?_
                    unfold wpChain
                    have hE := HE.out.on hv7.drew
                    clear HB1 HE
                    go_wp2_with fail
                    exact ⟨⟨i + 1, by omega, by simp, hE⟩, by simp [intOf]; omega⟩
                · have l2' : ¬ (i : Int) < 1 + (u : Int) := by omega
                  have d2 : decide ((i : Int) < 1 + (u : Int)) = false := decide_eq_false l2'
                  have l3' : (k : Int) + (m : Int) ≤ (i : Int) := by omega
                  have d3 : decide ((k : Int) + (m : Int) ≤ (i : Int)) = true := decide_eq_true l3'
                  rw [if_neg (fun h => l2 h.2)] at hd1
                  have hyx := hd1
                  clear hd1
                  have hne1 : ∀ V, (binOp .neq 29 (.agg #[.int .i64 y.r, .int .i64 y.m0, .int .i64 y.m1, .int .i64 y.w, .int .i64 y.pen.fg, .int .i64 y.pen.bg, .int .i64 y.pen.fl]) (.agg #[.int .i64 x.r, .int .i64 x.m0, .int .i64 x.m1, .int .i64 x.w, .int .i64 x.pen.fg, .int .i64 x.pen.bg, .int .i64 x.pen.fl])).run Try.prog V = .ok (.bool false) V := fun V => by
                    have h := cell_neq y x V
                    rw [decide_eq_true (hyx)] at h
                    exact h
                  clear hyx
                  clear eA HD
                  go_upto_region 22 with fail
                  refine region_plan [([0, 1, 2, 3, 4, 5, 6, 7, 8, 9, 10, 11, 12, 13, 14, 15, 16, 17, 18, 19, 20, 21, 22, 23], [24]), ([25, 26, 27], [])] (fun w' => ∃ u : Ext wr wr.heap.size, w' = u.val) (by kernel_rfl) (by kernel_rfl) (fun _ _ _ _ _ h => h) ⟨⟨_, (Below.refl _ _).drew⟩, rfl⟩ ?_
                  simp only [wpPlan, sel, List.take_succ_cons, List.take_zero, List.drop_succ_cons, List.drop_zero, List.cons_append, List.nil_append]
                  repeat (go_big_quiet_step (fail))
                  refine wpQuiet_nil ?_
                  unfold wpChain
                  have hv7 : Below wr.heap.size wr wr.drew := (Below.refl wr.heap.size wr).drew
                  refine ⟨⟨⟨_, hv7⟩, rfl⟩, ?_⟩
                  unfold wpChain
                  try simp only [Act.put, List.setIfInBounds_toArray, List.set_cons_succ, List.set_cons_zero]
                  repeat (go_big_quiet_step (fail))
                  refine wpQuiet_nil ?_
                  unfold wpChain
                  go_upto_region 24 with fail
                  refine region_plan [([0, 1, 2, 3, 4, 5, 6, 7, 8, 9, 10, 11, 12, 13, 14, 15, 16, 17, 18, 19, 20, 21, 22, 23, 24], [])] (fun w' => ∃ u : Ext wr wr.heap.size, w' = u.val) (by kernel_rfl) (by kernel_rfl) (fun _ _ _ _ _ h => h) ⟨⟨_, hv7.drew⟩, rfl⟩ ?_
                  simp only [wpPlan, sel, List.take_succ_cons, List.take_zero, List.drop_succ_cons, List.drop_zero, List.cons_append, List.nil_append]
                  repeat (go_big_quiet_step (fail))
                  refine wpQuiet_nil ?_
                  unfold wpChain
                  have hE := HE.out.on hv7.drew
                  clear HB1 HE
                  go_wp2_with fail
                  exact ⟨⟨i + 1, by omega, by simp, hE⟩, by simp [intOf]; omega⟩
              · have l1' : ¬ 1 + (u : Int) - (m : Int) ≤ (i : Int) := by omega
                have d1 : decide (1 + (u : Int) - (m : Int) ≤ (i : Int)) = false := decide_eq_false l1'
                have l2 : i < u + 1 := by omega
                have l2' : (i : Int) < 1 + (u : Int) := by omega
                have d2 : decide ((i : Int) < 1 + (u : Int)) = true := decide_eq_true l2'
                rw [if_neg (fun h => l1 h.1)] at hd1
                have hyx := hd1
                clear hd1
                by_cases l3 : k + m ≤ i
                · have l3' : (k : Int) + (m : Int) ≤ (i : Int) := by omega
                  have d3 : decide ((k : Int) + (m : Int) ≤ (i : Int)) = true := decide_eq_true l3'
                  have hne1 : ∀ V, (binOp .neq 29 (.agg #[.int .i64 y.r, .int .i64 y.m0, .int .i64 y.m1, .int .i64 y.w, .int .i64 y.pen.fg, .int .i64 y.pen.bg, .int .i64 y.pen.fl]) (.agg #[.int .i64 x.r, .int .i64 x.m0, .int .i64 x.m1, .int .i64 x.w, .int .i64 x.pen.fg, .int .i64 x.pen.bg, .int .i64 x.pen.fl])).run Try.prog V = .ok (.bool false) V := fun V => by
                    have h := cell_neq y x V
                    rw [decide_eq_true (hyx)] at h
                    exact h
                  clear hyx
                  obtain ⟨j, hj⟩ : ∃ j : Nat, i = j + m := ⟨i - m, by omega⟩
                  have hji : (i : Int) - (m : Int) = (j : Int) := by omega
                  have hjl : j < r.cs.length := by omega
                  obtain ⟨x2, hx2⟩ : ∃ d, r.cs[j]? = some d := ⟨_, List.getElem?_eq_getElem hjl⟩
                  obtain ⟨y2, hy2⟩ : ∃ d, s.cs[i]? = some d := ⟨_, List.getElem?_eq_getElem (by rw [HL.out.1]; exact hlt)⟩
                  have hyx2 : y2 = x2 := by
                    have h := HD.out.2 i (by omega) (by omega)
                    rw [hy2, show i - m = j by omega, hx2] at h
                    exact Option.some.inj h
                  obtain ⟨g3, o3, eC, cb, c0, c1, c2, c3', c4', c5, c6⟩ := HE.out.rs.ins.at_ hy2
                  obtain ⟨g4, o4, eD, db, d0, d1, d2, d3, d4, d5, d6⟩ := HE.out.rs.rp.inr.at_ hx2
                  have eo : g4 = g1 ∧ o4 = o1 := by
                    rw [eA] at eD
                    simp only [Option.some.injEq, Addr.mk.injEq, and_true] at eD
                    exact ⟨eD.1.symm, eD.2.symm⟩
                  obtain ⟨rfl, rfl⟩ := eo
                  have t0 := Ext.cell (w := wr) (B := wr.heap.size) HE.out.rs.b3.lt (show wr.cell? ⟨gs, 0, none⟩ = some (.slice (some ⟨g3, o3, none⟩) s.cs.length c3) from by rw [← eC]; exact HE.out.rs.b3.cell 0)
                  have e0 := Ext.cell (w := wr) (B := wr.heap.size) (p := ⟨g3, o3 + i * 7, none⟩) cb c0
                  have e1 := Ext.cell (w := wr) (B := wr.heap.size) (p := ⟨g3, o3 + i * 7 + 1, none⟩) cb c1
                  have e2 := Ext.cell (w := wr) (B := wr.heap.size) (p := ⟨g3, o3 + i * 7 + 2, none⟩) cb c2
                  have e3 := Ext.cell (w := wr) (B := wr.heap.size) (p := ⟨g3, o3 + i * 7 + 3, none⟩) cb c3'
                  have e4 := Ext.cell (w := wr) (B := wr.heap.size) (p := ⟨g3, o3 + i * 7 + 4, none⟩) cb c4'
                  have e5 := Ext.cell (w := wr) (B := wr.heap.size) (p := ⟨g3, o3 + i * 7 + 5, none⟩) cb c5
                  have e6 := Ext.cell (w := wr) (B := wr.heap.size) (p := ⟨g3, o3 + i * 7 + 6, none⟩) cb c6
                  have f0 := Ext.cell (w := wr) (B := wr.heap.size) (p := ⟨g4, o4 + j * 7, none⟩) db d0
                  have f1 := Ext.cell (w := wr) (B := wr.heap.size) (p := ⟨g4, o4 + j * 7 + 1, none⟩) db d1
                  have f2 := Ext.cell (w := wr) (B := wr.heap.size) (p := ⟨g4, o4 + j * 7 + 2, none⟩) db d2
                  have f3 := Ext.cell (w := wr) (B := wr.heap.size) (p := ⟨g4, o4 + j * 7 + 3, none⟩) db d3
                  have f4 := Ext.cell (w := wr) (B := wr.heap.size) (p := ⟨g4, o4 + j * 7 + 4, none⟩) db d4
                  have f5 := Ext.cell (w := wr) (B := wr.heap.size) (p := ⟨g4, o4 + j * 7 + 5, none⟩) db d5
                  have f6 := Ext.cell (w := wr) (B := wr.heap.size) (p := ⟨g4, o4 + j * 7 + 6, none⟩) db d6
                  have hne2 : ∀ V, (binOp .neq 29 (.agg #[.int .i64 y2.r, .int .i64 y2.m0, .int .i64 y2.m1, .int .i64 y2.w, .int .i64 y2.pen.fg, .int .i64 y2.pen.bg, .int .i64 y2.pen.fl]) (.agg #[.int .i64 x2.r, .int .i64 x2.m0, .int .i64 x2.m1, .int .i64 x2.w, .int .i64 x2.pen.fg, .int .i64 x2.pen.bg, .int .i64 x2.pen.fl])).run Try.prog V = .ok (.bool false) V := fun V => by
                    have h := cell_neq y2 x2 V
                    rw [decide_eq_true (hyx2)] at h
                    exact h
                  have hcap3 : s.cs.length ≤ c3 := HE.out.rs.ins.cap
                  have zj : (j : Int) < (r.cs.length : Int) := by omega
                  have zq : (i : Int) < (s.cs.length : Int) := by rw [HL.out.1]; omega
                  clear hx2 hy2 hyx2 eC eD c0 c1 c2 c3' c4' c5 c6 d0 d1 d2 d3 d4 d5 d6 hj
                  clear eA HD
                  go_upto_region 22 with fail
                  refine region_plan [([0, 1, 2, 3, 4, 5, 6, 7, 8, 9, 10, 11, 12, 13, 14, 15, 16, 17, 18, 19, 20, 21, 22, 23], [24]), ([25, 26, 27], [])] (fun w' => ∃ u : Ext wr wr.heap.size, w' = u.val) (by kernel_rfl) (by kernel_rfl) (fun _ _ _ _ _ h => h) ⟨⟨_, (Below.refl _ _).drew⟩, rfl⟩ ?_
                  simp only [wpPlan, sel, List.take_succ_cons, List.take_zero, List.drop_succ_cons, List.drop_zero, List.cons_append, List.nil_append]
                  repeat (go_big_quiet_step (fail))
                  refine wpQuiet_nil ?_
                  unfold wpChain
                  have hv7 : Below wr.heap.size wr wr.drew := (Below.refl wr.heap.size wr).drew
                  refine ⟨⟨⟨_, hv7⟩, rfl⟩, ?_⟩
                  unfold wpChain
                  try simp only [Act.put, List.setIfInBounds_toArray, List.set_cons_succ, List.set_cons_zero]
                  repeat (go_big_quiet_step (fail))
                  refine wpQuiet_nil ?_
                  unfold wpChain
                  go_upto_region 24 with fail
                  refine region_plan [([0, 1, 2, 3, 4, 5, 6, 7, 8, 9, 10, 11, 12, 13, 14, 15, 16, 17, 18, 19, 20, 21, 22, 23, 24], [])] (fun w' => ∃ u : Ext wr wr.heap.size, w' = u.val) (by kernel_rfl) (by kernel_rfl) (fun _ _ _ _ _ h => h) ⟨⟨_, hv7.drew⟩, rfl⟩ ?_
                  simp only [wpPlan, sel, List.take_succ_cons, List.take_zero, List.drop_succ_cons, List.drop_zero, List.cons_append, List.nil_append]
                  repeat (go_big_quiet_step (fail))
                  refine wpQuiet_nil ?_
                  unfold wpChain
                  have hE := HE.out.on hv7.drew
                  clear HB1 HE
                  go_wp2_with fail
                  exact ⟨⟨i + 1, by omega, by simp, hE⟩, by simp [intOf]; omega⟩
                · have l3' : ¬ (k : Int) + (m : Int) ≤ (i : Int) := by omega
                  have d3 : decide ((k : Int) + (m : Int) ≤ (i : Int)) = false := decide_eq_false l3'
                  have hne1 : ∀ V, (binOp .neq 29 (.agg #[.int .i64 y.r, .int .i64 y.m0, .int .i64 y.m1, .int .i64 y.w, .int .i64 y.pen.fg, .int .i64 y.pen.bg, .int .i64 y.pen.fl]) (.agg #[.int .i64 x.r, .int .i64 x.m0, .int .i64 x.m1, .int .i64 x.w, .int .i64 x.pen.fg, .int .i64 x.pen.bg, .int .i64 x.pen.fl])).run Try.prog V = .ok (.bool false) V := fun V => by
                    have h := cell_neq y x V
                    rw [decide_eq_true (hyx)] at h
                    exact h
                  clear hyx
                  clear eA HD
                  go_upto_region 22 with fail
                  refine region_plan [([0, 1, 2, 3, 4, 5, 6, 7, 8, 9, 10, 11, 12, 13, 14, 15, 16, 17, 18, 19, 20, 21, 22, 23], [24]), ([25, 26, 27], [])] (fun w' => ∃ u : Ext wr wr.heap.size, w' = u.val) (by kernel_rfl) (by kernel_rfl) (fun _ _ _ _ _ h => h) ⟨⟨_, (Below.refl _ _).drew⟩, rfl⟩ ?_
                  simp only [wpPlan, sel, List.take_succ_cons, List.take_zero, List.drop_succ_cons, List.drop_zero, List.cons_append, List.nil_append]
                  repeat (go_big_quiet_step (fail))
                  refine wpQuiet_nil ?_
                  unfold wpChain
                  have hv7 : Below wr.heap.size wr wr.drew := (Below.refl wr.heap.size wr).drew
                  refine ⟨⟨⟨_, hv7⟩, rfl⟩, ?_⟩
                  unfold wpChain
                  try simp only [Act.put, List.setIfInBounds_toArray, List.set_cons_succ, List.set_cons_zero]
                  repeat (go_big_quiet_step (fail))
                  refine wpQuiet_nil ?_
                  unfold wpChain
                  go_upto_region 24 with fail
                  refine region_plan [([0, 1, 2, 3, 4, 5, 6, 7, 8, 9, 10, 11, 12, 13, 14, 15, 16, 17, 18, 19, 20, 21, 22, 23, 24], [])] (fun w' => ∃ u : Ext wr wr.heap.size, w' = u.val) (by kernel_rfl) (by kernel_rfl) (fun _ _ _ _ _ h => h) ⟨⟨_, hv7.drew⟩, rfl⟩ ?_
                  simp only [wpPlan, sel, List.take_succ_cons, List.take_zero, List.drop_succ_cons, List.drop_zero, List.cons_append, List.nil_append]
                  repeat (go_big_quiet_step (fail))
                  refine wpQuiet_nil ?_
                  unfold wpChain
                  have hE := HE.out.on hv7.drew
                  clear HB1 HE
                  go_wp2_with fail
                  exact ⟨⟨i + 1, by omega, by simp, hE⟩, by simp [intOf]; omega⟩
            · have zl : ¬ (i : Int) < (r.cs.length : Int) := by omega
              have k0 : wr.cell? ⟨w.heap.size, 0, none⟩ = some (.slice A r.cs.length c) := hE.rs.rp.b1.cell 0
              have hb := hE.rs.rp.bel
              clear hE
              go_wp2_with fail
              go_ret
              exact ⟨rfl, hb⟩
  · rw [decide_eq_false hsane] at h1
    go_wp2_with fail
    refine h1.mono ?_
    rintro e w2 ⟨rfl, hb2⟩
    have hb := HE.out.bel.trans (hb2.mono HE.out.bel.size)
    clear h1 hb2 HE k0 k1 k2 k3 a1 a2 a3
    go_wp2_with fail
    go_ret
    exact ⟨rfl, hb⟩
end Go.Proofs.Ytflpelpgnjdnkaa
