/- RowLetters over the contracts. -/
import Derived.Test.YtflpelpgnjdnkaaMem08l
import Derived.Test.YtflpelpgnjdnkaaAwake08
import Derived.Test.YtflpelpgnjdnkaaEq08
import Derived.Test.YtflpelpgnjdnkaaMath08c
import Derived.Test.YtflpelpgnjdnkaaRows08
import Derived.Test.YtflpelpgnjdnkaaBitsR
import Derived.Test.YtflpelpgnjdnkaaAppR
import Derived.Test.YtflpelpgnjdnkaaInts3
namespace Go.Proofs.Ytflpelpgnjdnkaa
open Go Go.RowKit
set_option linter.unusedVariables false
set_option linter.unusedSimpArgs false

/-- Letters are told. -/
theorem info8Int : (Try.prog.info? 3).map (fun i => (i.zero, i.size, i.bytes)) = some (some (.int .i64 0), 1, 8) := by kernel_rfl
theorem lets_le (l : List Cl) : (lets l).length ≤ 3 * l.length := by
  induction l with
  | nil => simp [lets]
  | cons c l ih =>
    have e : lets (c :: l) = letsC c ++ lets l := by simp [lets]
    rw [e, List.length_append, List.length_cons]
    have : (letsC c).length ≤ 3 := by
      unfold letsC marksC
      split
      · simp
      split
      · simp
      · simp only [List.length_cons, List.length_append]
        split <;> split <;> simp
    omega
theorem letters_le (r : Rw) (a b : Int) : (lettersR r a b).length ≤ 3 * r.cs.length := by
  unfold lettersR
  split
  · refine Nat.le_trans (lets_le _) ?_
    rw [List.length_drop, List.length_take]
    omega
  · simp
/-- What stands in the law's own variables: the row; and letters of its own so far. -/
structure LetAt (w W : World) (r : Rw) (A : Option Addr) (c : Nat) (l : List Int) (B : Option Addr) (d : Nat) : Prop where
  b1 : Box W w.heap.size 24 #[.slice A r.cs.length c, .bool r.wrap, .int .i64 r.dir, .bool r.ex]
  own : W.ownsRow (w.heap.size + 1) 3 1 (.slice B l.length d) l.length (l.map intV)
  bel : Below w.heap.size w W
theorem LetAt.on {w W W' : World} {r : Rw} {A : Option Addr} {c : Nat} {l : List Int} {B : Option Addr} {d : Nat} (h : LetAt w W r A c l B d) (hb : Below W.heap.size W W') : LetAt w W' r A c l B d :=
  ⟨h.b1.below hb h.b1.lt, own_below h.own hb, h.bel.trans (hb.mono h.bel.size)⟩
theorem LetAt.push {w W W' : World} {r : Rw} {A : Option Addr} {c : Nat} {l m : List Int} {B : Option Addr} {d : Nat} {v' : Value} (h : LetAt w W r A c l B d)
    (ho : W'.ownsRow (w.heap.size + 1) 3 1 v' (l.length + m.length) (l.map intV ++ m.map intV)) (hO : Own1 W W' (.slice B l.length d) v') : ∃ B' d', v' = .slice B' (l ++ m).length d' ∧ LetAt w W' r A c (l ++ m) B' d' := by
  obtain ⟨B', d', rfl, _, _⟩ := own_form1 ho
  have hlt := h.b1.lt
  refine ⟨B', d', by rw [List.length_append], hO.box h.b1 (fun hg => ?_), ?_, h.bel.trans (hO.belowBase h.bel.size fun g hg => ?_)⟩
  · have := (own_block h.own hg).1; omega
  · rw [List.length_append, List.map_append]; exact ho
  · have := (own_block h.own hg).1; omega
theorem LetAt.new {w W : World} {r : Rw} {A : Option Addr} {c : Nat} (h : Box W w.heap.size 24 #[.slice A r.cs.length c, .bool r.wrap, .int .i64 r.dir, .bool r.ex]) (hb : Below w.heap.size w W) :
    LetAt w (W.alloc (.cells #[] 3)) r A c [] (some ⟨W.heap.size, 0, none⟩) 0 := by
  have hlt := h.lt
  exact ⟨h.alloc _, ⟨rfl, .inr ⟨W.heap.size, 0, #[], rfl, by omega, Box.new W _ _, Nat.le_refl _, by decide, rfl, rfl⟩⟩, hb.alloc hb.size _⟩
theorem cnt_snoc {l : List Cl} {k : Nat} {x : Cl} (h : l[k]? = some x) : cntL (l.take (k + 1)) = cntL (l.take k) + cntC x := by
  unfold cntL
  rw [take_snoc h]
  simp
theorem cnt_b (x : Cl) : cntC x = (if 0 < x.w then 1 else 0) + ((if (x.m0 != 0) = true then 1 else 0) + (if (x.m1 != 0) = true then 1 else 0)) := by
  unfold cntC
  simp
theorem cnt_le (l : List Cl) : cntL l ≤ 3 * l.length := by
  induction l with
  | nil => simp [cntL]
  | cons c l ih =>
    have e : cntL (c :: l) = cntC c + cntL l := by simp [cntL]
    rw [e, List.length_cons]
    have : cntC c ≤ 3 := by unfold cntC; split <;> split <;> split <;> omega
    omega
set_option maxRecDepth 100000 in
set_option maxHeartbeats 8000000 in
theorem letters_law (hn : New8C) (hp : Put8C) (hs : Sane8C) (hlt8 : Letters8C) (hln8 : Length8C) (r : Rw) (A : Option Addr) (c : Nat) (ka kb : Int) (w : World) (hin : InC w A c r.cs) (hr : RwOk r) :
    Calls Try.prog 5 #[rwV r A c, .int .i64 ka, .int .i64 kb] w fun e w' => e = .returned (.bool true) ∧ Below w.heap.size w w' := by
  obtain ⟨i0, hi, hz0, hz1, hz2⟩ := info_parts info8Int
  have HI := Lib.hid (And.intro hi (And.intro hz0 (And.intro hz1 hz2)))
  have hb0 := Box.new w 24 #[.slice A r.cs.length c, .bool r.wrap, .int .i64 r.dir, .bool r.ex]
  have hbl0 : Below w.heap.size w (w.alloc (.cells #[.slice A r.cs.length c, .bool r.wrap, .int .i64 r.dir, .bool r.ex] 24)) := (Below.refl _ _).alloc (Nat.le_refl _) _
  have hawake := awake8_c hn hp hs (w.alloc (.cells #[.slice A r.cs.length c, .bool r.wrap, .int .i64 r.dir, .bool r.ex] 24))
  have hlen := hin.len
  unfold maxLen at hlen
  have a1 := and_65535 ka
  have a2 := and_65535 kb
  have HE := Lib.hid (And.intro hb0 hbl0)
  have HR := Lib.hid (And.intro hr hin)
  clear hb0 hbl0 hin hr hi hz0 hz1 hz2
  simp only [rwV_eq]
  go_enter Try.func5, Try.ntmps5
  go_wp2_with fail
  refine hawake.mono ?_
  rintro e w1 ⟨rfl, hb1⟩
  have hbx := HE.out.1.below hb1 HE.out.1.lt
  have hbl := HE.out.2.trans (hb1.mono HE.out.2.size)
  clear hawake hb1 HE
  obtain ⟨k0, k1, k2, k3⟩ : w1.cell? ⟨w.heap.size, 0, none⟩ = some (.slice A r.cs.length c) ∧ w1.cell? ⟨w.heap.size, 1, none⟩ = some (.bool r.wrap) ∧ w1.cell? ⟨w.heap.size, 2, none⟩ = some (.int .i64 r.dir) ∧ w1.cell? ⟨w.heap.size, 3, none⟩ = some (.bool r.ex) := ⟨hbx.cell 0, hbx.cell 1, hbx.cell 2, hbx.cell 3⟩
  by_cases h300 : r.cs.length > 300
  · have z1 : (r.cs.length : Int) > 300 := by omega
    clear hbx a1 a2
    go_wp2_with fail
    go_ret
    exact ⟨rfl, hbl⟩
  have z1 : ¬ (r.cs.length : Int) > 300 := by omega
  have z1d : decide ((300 : Int) < (r.cs.length : Int)) = false := decide_eq_false (by omega)
  have h1 := hs r A c w1 (HR.out.2.on hbl) HR.out.1
  simp only [rwV_eq] at h1
  have HE := Lib.hid (And.intro hbx hbl)
  clear hbx hbl
  by_cases hsane : SaneR r
  · rw [decide_eq_true hsane] at h1
    have HS := Lib.hid hsane
    clear hsane
    go_wp2_with fail
    refine h1.mono ?_
    rintro e w2 ⟨rfl, hb2⟩
    have hbx := HE.out.1.below hb2 HE.out.1.lt
    have hbl := HE.out.2.trans (hb2.mono HE.out.2.size)
    clear h1 hb2 HE k0 k1 k2 k3
    obtain ⟨k0, k1, k2, k3⟩ : w2.cell? ⟨w.heap.size, 0, none⟩ = some (.slice A r.cs.length c) ∧ w2.cell? ⟨w.heap.size, 1, none⟩ = some (.bool r.wrap) ∧ w2.cell? ⟨w.heap.size, 2, none⟩ = some (.int .i64 r.dir) ∧ w2.cell? ⟨w.heap.size, 3, none⟩ = some (.bool r.ex) := ⟨hbx.cell 0, hbx.cell 1, hbx.cell 2, hbx.cell 3⟩
    have HE := Lib.hid (LetAt.new hbx hbl)
    clear hbx hbl
    obtain ⟨x, hx⟩ : ∃ x, ka % 65536 = x := ⟨_, rfl⟩
    obtain ⟨y, hy⟩ : ∃ y, kb % 65536 = y := ⟨_, rfl⟩
    rw [hx] at a1
    rw [hy] at a2
    have hx0 : 0 ≤ x := by omega
    have hx1 : x ≤ 65535 := by omega
    have hy0 : 0 ≤ y := by omega
    have hy1 : y ≤ 65535 := by omega
    have hl1 : (0 : Int) ≤ r.cs.length := by omega
    clear hx hy
    have hxm := Int.emod_nonneg x (show (r.cs.length : Int) + 1 ≠ 0 by omega)
    have hym := Int.emod_nonneg y (show (r.cs.length : Int) + 1 ≠ 0 by omega)
    have hxl := Int.emod_lt_of_pos x (show (0 : Int) < (r.cs.length : Int) + 1 by omega)
    have hyl := Int.emod_lt_of_pos y (show (0 : Int) < (r.cs.length : Int) + 1 by omega)
    obtain ⟨f, hf⟩ : ∃ f : Nat, x % ((r.cs.length : Int) + 1) = (f : Int) := Int.eq_ofNat_of_zero_le hxm
    obtain ⟨t, ht⟩ : ∃ t : Nat, y % ((r.cs.length : Int) + 1) = (t : Int) := Int.eq_ofNat_of_zero_le hym
    have hft : x.tmod ((r.cs.length : Int) + 1) = (f : Int) := by rw [Int.tmod_eq_emod_of_nonneg hx0]; exact hf
    have htt : y.tmod ((r.cs.length : Int) + 1) = (t : Int) := by rw [Int.tmod_eq_emod_of_nonneg hy0]; exact ht
    have hfl : f ≤ r.cs.length := by omega
    have htl : t ≤ r.cs.length := by omega
    clear hxm hym hxl hyl hf ht
    obtain ⟨lo, hi, hlohi, hhi, hlov, hhiv⟩ : ∃ lo hi : Nat, lo ≤ hi ∧ hi ≤ r.cs.length ∧ (if t < f then (t : Int) else (f : Int)) = (lo : Int) ∧ (if f < t then (t : Int) else (f : Int)) = (hi : Int) := by
      by_cases h : t < f
      · exact ⟨t, f, by omega, hfl, by rw [if_pos h], by rw [if_neg (by omega)]⟩
      · by_cases h2 : f < t
        · exact ⟨f, t, by omega, htl, by rw [if_neg h], by rw [if_pos h2]⟩
        · exact ⟨f, f, by omega, hfl, by rw [if_neg h], by rw [if_neg h2]⟩
    have hm1 := letters_said HS.out hlohi hhi
    have HM := Lib.hid hm1
    have HLL := Lib.hid (fun a b => letters_le r a b)
    clear hm1
    go_upto_region 9 with fail
    clear hlov hhiv k0 k1 k2 k3 hft htt hx0 hx1 hy0 hy1 a1 a2 hl1 hfl htl
    obtain ⟨k0, k1, k2, k3⟩ : (w2.alloc (.cells #[] 3)).cell? ⟨w.heap.size, 0, none⟩ = some (.slice A r.cs.length c) ∧ (w2.alloc (.cells #[] 3)).cell? ⟨w.heap.size, 1, none⟩ = some (.bool r.wrap) ∧ (w2.alloc (.cells #[] 3)).cell? ⟨w.heap.size, 2, none⟩ = some (.int .i64 r.dir) ∧ (w2.alloc (.cells #[] 3)).cell? ⟨w.heap.size, 3, none⟩ = some (.bool r.ex) := ⟨HE.out.b1.cell 0, HE.out.b1.cell 1, HE.out.b1.cell 2, HE.out.b1.cell 3⟩
    have hc1 := hlt8 r A c 0 (lo : Int) (w2.alloc (.cells #[] 3)) (HR.out.2.on HE.out.bel) HR.out.1 (by unfold I64; omega) (by unfold I64; omega)
    simp only [rwV_eq] at hc1
    unfold GivesI at hc1
    have hll1 := HLL.out 0 (lo : Int)
    generalize hm1 : lettersR r 0 (lo : Int) = m1 at hc1 hll1
    have HM1 := Lib.hid hm1
    clear hm1
    go_wp2_with fail
    refine hc1.mono ?_
    rintro e x1 ⟨B1, d1, rfl, hI1, hcd1, hmd1, hb1⟩
    have hE1 := HE.out.on hb1
    have hown := hE1.own
    have hbs := hE1.bel.size
    have hbx := hE1.b1.lt
    have HE1 := Lib.hid hE1
    clear hc1 hb1 HE k0 k1 k2 k3 hE1
    obtain ⟨hi1, hz0, hz1, hz2⟩ := HI.out
    go_wp2_with (at_builtin; refine wpList_append_rd (f := intV) (fun _ => rfl) rfl _ _ 38 rfl (w.heap.size + 1) 3 i0 _ 8 Try.underlying38 hi1 hz0 hz1 hz2 rfl _ 0 _ rfl hown B1 d1 _ m1 rfl hI1 (by unfold maxLen; omega) (by omega) (by omega) ?_)
    intro v' y1 hw hO
    obtain ⟨C1, g1, rfl, hE1⟩ := HE1.out.push (m := m1) (by simpa using hw) (by simpa using hO)
    rw [List.nil_append] at hE1 ⊢
    have HF1 := Lib.hid hE1
    clear hw hO hE1 HE1 hown hI1 hcd1 hmd1 hi1 hz0 hz1 hz2 hbs hbx
    obtain ⟨k0, k1, k2, k3⟩ : y1.cell? ⟨w.heap.size, 0, none⟩ = some (.slice A r.cs.length c) ∧ y1.cell? ⟨w.heap.size, 1, none⟩ = some (.bool r.wrap) ∧ y1.cell? ⟨w.heap.size, 2, none⟩ = some (.int .i64 r.dir) ∧ y1.cell? ⟨w.heap.size, 3, none⟩ = some (.bool r.ex) := ⟨HF1.out.b1.cell 0, HF1.out.b1.cell 1, HF1.out.b1.cell 2, HF1.out.b1.cell 3⟩
    have hc2 := hlt8 r A c (lo : Int) (hi : Int) y1 (HR.out.2.on HF1.out.bel) HR.out.1 (by unfold I64; omega) (by unfold I64; omega)
    simp only [rwV_eq] at hc2
    unfold GivesI at hc2
    have hll2 := HLL.out (lo : Int) (hi : Int)
    generalize hm2 : lettersR r (lo : Int) (hi : Int) = m2 at hc2 hll2
    have HM2 := Lib.hid hm2
    clear hm2
    go_wp2_with fail
    refine hc2.mono ?_
    rintro e x2 ⟨B2, d2, rfl, hI2, hcd2, hmd2, hb2⟩
    have hE2 := HF1.out.on hb2
    have hown := hE2.own
    have hbs := hE2.bel.size
    have hbx := hE2.b1.lt
    have HE2 := Lib.hid hE2
    clear hc2 hb2 HF1 k0 k1 k2 k3 hE2
    obtain ⟨hi1, hz0, hz1, hz2⟩ := HI.out
    go_wp2_with (at_builtin; refine wpList_append_rd (f := intV) (fun _ => rfl) rfl _ _ 38 rfl (w.heap.size + 1) 3 i0 _ 8 Try.underlying38 hi1 hz0 hz1 hz2 rfl _ m1.length _ rfl hown B2 d2 _ m2 rfl hI2 (by unfold maxLen; omega) (by omega) (by omega) ?_)
    intro v' y2 hw hO
    obtain ⟨C2, g2, rfl, hE2⟩ := HE2.out.push (m := m2) (by exact hw) (by exact hO)
    obtain ⟨l2, hl2⟩ : ∃ l2, m1 ++ m2 = l2 := ⟨_, rfl⟩
    rw [hl2] at hE2 ⊢
    have hlb2 : l2.length = m1.length + m2.length := by rw [← hl2, List.length_append]
    have hlc2 : l2.length ≤ 1800 := by omega
    have HL2 := Lib.hid hl2
    clear hl2 hlb2
    have HF2 := Lib.hid hE2
    clear hw hO hE2 HE2 hown hI2 hcd2 hmd2 hi1 hz0 hz1 hz2 hbs hbx
    obtain ⟨k0, k1, k2, k3⟩ : y2.cell? ⟨w.heap.size, 0, none⟩ = some (.slice A r.cs.length c) ∧ y2.cell? ⟨w.heap.size, 1, none⟩ = some (.bool r.wrap) ∧ y2.cell? ⟨w.heap.size, 2, none⟩ = some (.int .i64 r.dir) ∧ y2.cell? ⟨w.heap.size, 3, none⟩ = some (.bool r.ex) := ⟨HF2.out.b1.cell 0, HF2.out.b1.cell 1, HF2.out.b1.cell 2, HF2.out.b1.cell 3⟩
    have hc3 := hlt8 r A c (hi : Int) (r.cs.length : Int) y2 (HR.out.2.on HF2.out.bel) HR.out.1 (by unfold I64; omega) (by unfold I64; omega)
    simp only [rwV_eq] at hc3
    unfold GivesI at hc3
    have hll3 := HLL.out (hi : Int) (r.cs.length : Int)
    generalize hm3 : lettersR r (hi : Int) (r.cs.length : Int) = m3 at hc3 hll3
    have HM3 := Lib.hid hm3
    clear hm3
    go_wp2_with fail
    refine hc3.mono ?_
    rintro e x3 ⟨B3, d3, rfl, hI3, hcd3, hmd3, hb3⟩
    have hE3 := HF2.out.on hb3
    have hown := hE3.own
    have hbs := hE3.bel.size
    have hbx := hE3.b1.lt
    have HE3 := Lib.hid hE3
    clear hc3 hb3 HF2 k0 k1 k2 k3 hE3
    obtain ⟨hi1, hz0, hz1, hz2⟩ := HI.out
    go_wp2_with (at_builtin; refine wpList_append_rd (f := intV) (fun _ => rfl) rfl _ _ 38 rfl (w.heap.size + 1) 3 i0 _ 8 Try.underlying38 hi1 hz0 hz1 hz2 rfl _ l2.length _ rfl hown B3 d3 _ m3 rfl hI3 (by unfold maxLen; omega) (by omega) (by omega) ?_)
    intro v' y3 hw hO
    obtain ⟨C3, g3, rfl, hE3⟩ := HE3.out.push (m := m3) (by exact hw) (by exact hO)
    obtain ⟨l3, hl3⟩ : ∃ l3, l2 ++ m3 = l3 := ⟨_, rfl⟩
    rw [hl3] at hE3 ⊢
    have hlb3 : l3.length = l2.length + m3.length := by rw [← hl3, List.length_append]
    have hlc3 : l3.length ≤ 2700 := by omega
    have HL3 := Lib.hid hl3
    clear hl3 hlb3
    have HF3 := Lib.hid hE3
    clear hw hO hE3 HE3 hown hI3 hcd3 hmd3 hi1 hz0 hz1 hz2 hbs hbx
    have HLE := Lib.hid (show l3 = lettersR r 0 (r.cs.length : Int) by
      rw [← HL3.out, ← HL2.out, ← HM1.out, ← HM2.out, ← HM3.out]; exact HM.out.1)
    have HLN := Lib.hid (show l3.length = cntL r.cs by rw [HLE.out]; exact HM.out.2)
    have HCL : Hid (∀ i, cntL (r.cs.take i) ≤ 900) := Lib.hid fun i => by
      have := cnt_le (r.cs.take i)
      rw [List.length_take] at this
      omega
    clear HM HM1 HM2 HM3 HL2 HL3 hll1 hll2 hll3 hlc2
    go_wp2_with fail
    go_loopw [14, 15] (fun u14 u15 wr => ∃ i n : Nat, i ≤ r.cs.length ∧ n ≤ 900 ∧ u15 = .int .i64 (i : Int) ∧ u14 = .int .i64 (n : Int) ∧ Hid (n = cntL (r.cs.take i)) ∧ Hid (LetAt w wr r A c l3 C3 g3)) (fun _ u15 _ => r.cs.length - (intOf u15).toNat)
    case atStart => exact ⟨0, 0, Nat.zero_le _, Nat.zero_le _, rfl, rfl, Lib.hid rfl, HF3⟩
    case round =>
      obtain ⟨i, n, hi, hn9, rfl, rfl, HN, HE⟩ := hrel
      clear HF3
      by_cases hlt : i < r.cs.length
      · obtain ⟨x, hx⟩ : ∃ x, r.cs[i]? = some x := ⟨_, List.getElem?_eq_getElem hlt⟩
        obtain ⟨g1, o1, eA, ab, a0, a1, a2, a3, a4, a5, a6⟩ := (HR.out.2.on HE.out.bel).at_ hx
        have k0 : wr.cell? ⟨w.heap.size, 0, none⟩ = some (.slice (some ⟨g1, o1, none⟩) r.cs.length c) := by rw [← eA]; exact HE.out.b1.cell 0
        have HE2 := Lib.hid (HE.out.on ((Below.refl wr.heap.size wr).alloc (Nat.le_refl _) (.cells #[.int .i64 x.r, .int .i64 x.m0, .int .i64 x.m1, .int .i64 x.w, .int .i64 x.pen.fg, .int .i64 x.pen.bg, .int .i64 x.pen.fl] 29)))
        have HCT := Lib.hid (cnt_snoc hx)
        have hcr := (HR.out.2).cap
        have zl : (i : Int) < (r.cs.length : Int) := by omega
        clear hx eA HE
        by_cases h1 : 0 < x.w
        · cases h2 : (x.m0 != 0) with
          | true =>
            cases h3 : (x.m1 != 0) with
            | true =>
              have hv := cnt_b x
              rw [if_pos h1, h2, h3] at hv
              have hv2 : cntC x = 3 := by rw [hv]; decide
              have HN2 : Hid (n + 3 = cntL (r.cs.take (i + 1))) := Lib.hid (by rw [HCT.out, hv2, HN.out])
              clear hv hv2
              go_wp2_with fail
              exact ⟨⟨i + 1, n + 3, by omega, by have := HN2.out; have := HCL.out (i + 1); omega, by simp, by first | rfl | go_num | (simp; omega), HN2, HE2⟩, by simp [intOf]; omega⟩
            | false =>
              have hv := cnt_b x
              rw [if_pos h1, h2, h3] at hv
              have hv2 : cntC x = 2 := by rw [hv]; decide
              have HN2 : Hid (n + 2 = cntL (r.cs.take (i + 1))) := Lib.hid (by rw [HCT.out, hv2, HN.out])
              clear hv hv2
              go_wp2_with fail
              exact ⟨⟨i + 1, n + 2, by omega, by have := HN2.out; have := HCL.out (i + 1); omega, by simp, by first | rfl | go_num | (simp; omega), HN2, HE2⟩, by simp [intOf]; omega⟩
          | false =>
            cases h3 : (x.m1 != 0) with
            | true =>
              have hv := cnt_b x
              rw [if_pos h1, h2, h3] at hv
              have hv2 : cntC x = 2 := by rw [hv]; decide
              have HN2 : Hid (n + 2 = cntL (r.cs.take (i + 1))) := Lib.hid (by rw [HCT.out, hv2, HN.out])
              clear hv hv2
              go_wp2_with fail
              exact ⟨⟨i + 1, n + 2, by omega, by have := HN2.out; have := HCL.out (i + 1); omega, by simp, by first | rfl | go_num | (simp; omega), HN2, HE2⟩, by simp [intOf]; omega⟩
            | false =>
              have hv := cnt_b x
              rw [if_pos h1, h2, h3] at hv
              have hv2 : cntC x = 1 := by rw [hv]; decide
              have HN2 : Hid (n + 1 = cntL (r.cs.take (i + 1))) := Lib.hid (by rw [HCT.out, hv2, HN.out])
              clear hv hv2
              go_wp2_with fail
              exact ⟨⟨i + 1, n + 1, by omega, by have := HN2.out; have := HCL.out (i + 1); omega, by simp, by first | rfl | go_num | (simp; omega), HN2, HE2⟩, by simp [intOf]; omega⟩
        · cases h2 : (x.m0 != 0) with
          | true =>
            cases h3 : (x.m1 != 0) with
            | true =>
              have hv := cnt_b x
              rw [if_neg h1, h2, h3] at hv
              have hv2 : cntC x = 2 := by rw [hv]; decide
              have HN2 : Hid (n + 2 = cntL (r.cs.take (i + 1))) := Lib.hid (by rw [HCT.out, hv2, HN.out])
              clear hv hv2
              go_wp2_with fail
              exact ⟨⟨i + 1, n + 2, by omega, by have := HN2.out; have := HCL.out (i + 1); omega, by simp, by first | rfl | go_num | (simp; omega), HN2, HE2⟩, by simp [intOf]; omega⟩
            | false =>
              have hv := cnt_b x
              rw [if_neg h1, h2, h3] at hv
              have hv2 : cntC x = 1 := by rw [hv]; decide
              have HN2 : Hid (n + 1 = cntL (r.cs.take (i + 1))) := Lib.hid (by rw [HCT.out, hv2, HN.out])
              clear hv hv2
              go_wp2_with fail
              exact ⟨⟨i + 1, n + 1, by omega, by have := HN2.out; have := HCL.out (i + 1); omega, by simp, by first | rfl | go_num | (simp; omega), HN2, HE2⟩, by simp [intOf]; omega⟩
          | false =>
            cases h3 : (x.m1 != 0) with
            | true =>
              have hv := cnt_b x
              rw [if_neg h1, h2, h3] at hv
              have hv2 : cntC x = 1 := by rw [hv]; decide
              have HN2 : Hid (n + 1 = cntL (r.cs.take (i + 1))) := Lib.hid (by rw [HCT.out, hv2, HN.out])
              clear hv hv2
              go_wp2_with fail
              exact ⟨⟨i + 1, n + 1, by omega, by have := HN2.out; have := HCL.out (i + 1); omega, by simp, by first | rfl | go_num | (simp; omega), HN2, HE2⟩, by simp [intOf]; omega⟩
            | false =>
              have hv := cnt_b x
              rw [if_neg h1, h2, h3] at hv
              have hv2 : cntC x = 0 := by rw [hv]; decide
              have HN2 : Hid (n + 0 = cntL (r.cs.take (i + 1))) := Lib.hid (by rw [HCT.out, hv2, HN.out])
              clear hv hv2
              go_wp2_with fail
              exact ⟨⟨i + 1, n + 0, by omega, by have := HN2.out; have := HCL.out (i + 1); omega, by simp, by first | rfl | go_num | (simp; omega), HN2, HE2⟩, by simp [intOf]; omega⟩
      · have zl : ¬ (i : Int) < (r.cs.length : Int) := by omega
        have hie : r.cs.take i = r.cs := List.take_of_length_le (by omega)
        have HN3 := Lib.hid (show l3.length = n by rw [HLN.out, HN.out, hie])
        obtain ⟨k0, k1, k2, k3⟩ : wr.cell? ⟨w.heap.size, 0, none⟩ = some (.slice A r.cs.length c) ∧ wr.cell? ⟨w.heap.size, 1, none⟩ = some (.bool r.wrap) ∧ wr.cell? ⟨w.heap.size, 2, none⟩ = some (.int .i64 r.dir) ∧ wr.cell? ⟨w.heap.size, 3, none⟩ = some (.bool r.ex) := ⟨HE.out.b1.cell 0, HE.out.b1.cell 1, HE.out.b1.cell 2, HE.out.b1.cell 3⟩
        have hcl := hln8 r A c wr (HR.out.2.on HE.out.bel) HR.out.1
        simp only [rwV_eq] at hcl
        have hsd := length_said HS.out
        generalize lengthR r = kl at *
        have HSD := Lib.hid hsd.2
        have hkl := hsd.1
        clear hie hsd HN HLN
        go_wp2_with fail
        refine hcl.mono ?_
        rintro e z1 ⟨rfl, hzb⟩
        have hE := HE.out.on hzb
        clear hcl hzb HE k0 k1 k2 k3
        obtain ⟨k0, k1, k2, k3⟩ : z1.cell? ⟨w.heap.size, 0, none⟩ = some (.slice A r.cs.length c) ∧ z1.cell? ⟨w.heap.size, 1, none⟩ = some (.bool r.wrap) ∧ z1.cell? ⟨w.heap.size, 2, none⟩ = some (.int .i64 r.dir) ∧ z1.cell? ⟨w.heap.size, 3, none⟩ = some (.bool r.ex) := ⟨hE.b1.cell 0, hE.b1.cell 1, hE.b1.cell 2, hE.b1.cell 3⟩
        have hc4 := hlt8 r A c 0 (r.cs.length : Int) z1 (HR.out.2.on hE.bel) HR.out.1 (by unfold I64; omega) (by unfold I64; omega)
        simp only [rwV_eq] at hc4
        unfold GivesI at hc4
        rw [← HLE.out] at hc4
        have HE := Lib.hid hE
        clear hE
        go_wp2_with fail
        refine hc4.mono ?_
        rintro e z2 ⟨B4, d4, rfl, hI4, -, -, hb4⟩
        have hE := HE.out.on hb4
        have hin := ints3_c C3 B4 l3 g3 d4 z2 (Rd.of_own hE.own) hI4 (by omega)
        have HE2 := Lib.hid hE
        clear hc4 hI4 hb4 hE HE k0 k1 k2 k3
        have hl3n : (l3.length : Int) = (n : Int) := by rw [HN3.out]
        have hl3e : ((l3.length : Int) == (n : Int)) = true := beq_iff_eq.2 hl3n
        clear hl3n
        go_wp2_with (fail)
        refine hin.mono ?_
        rintro e z3 ⟨rfl, hb5⟩
        have hE := HE2.out.on hb5
        clear hin hb5 HE2
        have hbE := hE.bel
        by_cases hk0 : kl = 0
        · subst hk0
          clear hE
          go_wp2_with fail
          go_ret
          exact ⟨rfl, hbE⟩
        · obtain ⟨j, rfl⟩ : ∃ j, kl = j + 1 := ⟨kl - 1, by omega⟩
          obtain ⟨d, hd, hprop⟩ : ∃ d, r.cs[j]? = some d ∧ (d.r ≠ 0 ∨ d.w = 0 ∨ d.pen ≠ zeroN) := by
            rcases HSD.out with h | ⟨d, hd, hp⟩
            · exact absurd h (by omega)
            · exact ⟨d, by simpa using hd, hp⟩
          obtain ⟨g4, o4, eA, ab, a0, a1, a2, a3, a4, a5, a6⟩ := (HR.out.2.on hE.bel).at_ hd
          have k0 : z3.cell? ⟨w.heap.size, 0, none⟩ = some (.slice (some ⟨g4, o4, none⟩) r.cs.length c) := by rw [← eA]; exact hE.b1.cell 0
          have hcr := (HR.out.2).cap
          have zj : (j : Int) < (r.cs.length : Int) := by omega
          have ze : ((j : Int) + 1 == 0) = false := beq_eq_false_iff_ne.2 (by omega)
          have zp := pen_neq d.pen zeroN
          have HP := Lib.hid hprop
          clear hprop hd eA hE hk0 HSD
          rcases HP.out with h | h | h
          · have e1 : (d.r != 0) = true := bne_iff_ne.2 h
            clear h zp
            go_wp2_with fail
            go_ret
            exact ⟨rfl, hbE⟩
          · have e2 : (d.w == 0) = true := beq_iff_eq.2 h
            clear h zp
            cases e1 : (d.r != 0) with
            | true =>
              go_wp2_with fail
              go_ret
              exact ⟨rfl, hbE⟩
            | false =>
              go_wp2_with fail
              go_ret
              exact ⟨rfl, hbE⟩
          · rw [decide_eq_false h] at zp
            have zp : ∀ V, (binOp .neq 27 (.agg #[.int .i64 d.pen.fg, .int .i64 d.pen.bg, .int .i64 d.pen.fl]) (.agg #[.int .i64 0, .int .i64 0, .int .i64 0])).run Try.prog V = .ok (.bool true) V := zp
            clear h
            cases e1 : (d.r != 0) with
            | true =>
              go_wp2_with fail
              go_ret
              exact ⟨rfl, hbE⟩
            | false =>
              cases e2 : (d.w == 0) with
              | true =>
                go_wp2_with fail
                go_ret
                exact ⟨rfl, hbE⟩
              | false =>
                go_wp2_with fail
                go_ret
                exact ⟨rfl, hbE⟩
  · rw [decide_eq_false hsane] at h1
    clear hsane
    go_wp2_with fail
    refine h1.mono ?_
    rintro e w2 ⟨rfl, hb2⟩
    have hb := HE.out.2.trans (hb2.mono HE.out.2.size)
    clear h1 hb2 HE k0 k1 k2 k3 a1 a2
    go_wp2_with fail
    go_ret
    exact ⟨rfl, hb⟩
end Go.Proofs.Ytflpelpgnjdnkaa
