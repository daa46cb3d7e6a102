/- Concat of two slices, Put, Sane, End, by their contracts. -/
import Derived.Test.YthkahbgcemhebaaDoorUtfB
import Derived.Test.YthkahbgcemhebaaDoorAppR
namespace Go.Proofs.YthkahbgcemhebaaDoor
open Go Go.RowKit
set_option linter.unusedVariables false
set_option linter.unusedSimpArgs false

theorem infoByte : (Tryd.prog.info? 5).map (fun i => (i.zero, i.size, i.bytes)) = some (some (.int .u8 0), 1, 1) := by kernel_rfl
theorem infoInt : (Tryd.prog.info? 3).map (fun i => (i.zero, i.size, i.bytes)) = some (some (.int .i64 0), 1, 8) := by kernel_rfl

theorem zeroCells_size (z : Array Value) (n : Nat) : (Builtin.zeroCells z n).size = n * z.size := by simp [Builtin.zeroCells]
/-- slices.Grow of nothing. -/
theorem grow_c (n : Nat) (w : World) (hn : n ≤ 1000000) :
    Calls Tryd.prog 19 #[.slice none 0 0, .int .i64 n] w fun e w' => ∃ v, e = .returned v ∧ w'.ownsRow w.heap.size 5 1 v 0 [] ∧ Below w.heap.size w w' := by
  obtain ⟨i0, hi, hz0, hz1, hz2⟩ := info_parts infoByte
  rcases Nat.eq_zero_or_pos n with rfl | h0
  · refine (Any8.slices_Grow_room Tryd.lays84 none 0 0 0 w (Nat.le_refl _) (by decide) (by decide) (by decide)).mono ?_
    rintro e w' ⟨rfl, rfl⟩
    exact ⟨_, rfl, World.ownsRow_nil _ _ _ _, Below.refl _ _⟩
  · refine (Any8.slices_Grow_grow Tryd.lays84 i0 _ hi hz0 (by rw [hz1]; decide) none 0 0 n [] w (Nat.le_refl _) (by omega) (by rw [hz2]; omega) (by omega) (by simp) (fun _ => rfl) (fun a h => by cases h)).mono ?_
    rintro e w' ⟨rfl, rfl⟩
    have hge := grownCap_ge w (0 + n) 0 5
    have hle := grownCap_le_maxLen w (0 + n) 0 5 (by unfold maxLen; omega)
    refine ⟨_, rfl, ⟨by simp, .inr ⟨w.heap.size, _, _, rfl, Nat.le_refl _, heap_alloc_new w.drew _, Nat.zero_le _, hle, ?_, by simp⟩⟩, ((Below.refl _ _).drew).alloc (Nat.le_refl _) _⟩
    simp only [Array.size_append, zeroCells_size]
    simp [Value.cells]
    rw [Nat.zero_add] at hge
    change n + (grownCap w n 0 5 - n) = grownCap w n 0 5
    omega
def upTo (a b j : Nat) : Nat := if j = 0 then 0 else if j = 1 then a else a + b
set_option maxRecDepth 100000 in
set_option maxHeartbeats 4000000 in
/-- slices.Concat of two slices of bytes. -/
theorem concat_c (Y : Nat) (A1 A2 : Option Addr) (l1 l2 : List Nat) (k1 k2 : Nat) (w : World) (hY : Box w Y 22 #[.slice A1 l1.length k1, .slice A2 l2.length k2])
    (h1 : Byt w w.heap.size A1 l1) (h2 : Byt w w.heap.size A2 l2) (hn : l1.length + l2.length ≤ 100000) :
    Calls Tryd.prog 15 #[.slice (some ⟨Y, 0, none⟩) 2 2] w fun e w' => ∃ v n, e = .returned v ∧ w'.ownsRow w.heap.size 5 1 v n ((l1 ++ l2).map byteV) ∧ Below w.heap.size w w' := by
  obtain ⟨i0, hi, hz0, hz1, hz2⟩ := info_parts infoByte
  have c0 : w.cell? ⟨Y, 0, none⟩ = some (.slice A1 l1.length k1) := hY.cell 0
  have c1 : w.cell? ⟨Y, 1, none⟩ = some (.slice A2 l2.length k2) := hY.cell 1
  have hYl := hY.lt
  go_enter Tryd.func15, Tryd.ntmps15
  go_wp2_with fail
  go_loop [3, 11] (fun sv iv => ∃ j : Nat, j ≤ 2 ∧ iv = .int .i64 j ∧ sv = .int .i64 (upTo l1.length l2.length j)) (fun _ iv => 2 - (intOf iv).toNat)
  case atStart => exact ⟨0, by decide, rfl, rfl⟩
  case round =>
    obtain ⟨j, hj, rfl, rfl⟩ := hrel
    obtain rfl | rfl | rfl : j = 0 ∨ j = 1 ∨ j = 2 := by omega
    · simp only [upTo, if_true] at *
      go_wp2_with fail
      exact ⟨⟨1, by decide, rfl, by simp [upTo]⟩, by simp [intOf]⟩
    · simp only [upTo, if_true, if_false, Nat.one_ne_zero] at *
      go_wp2_with fail
      exact ⟨⟨2, by decide, rfl, by simp [upTo]⟩, by simp [intOf]⟩
    · have hup : upTo l1.length l2.length 2 = l1.length + l2.length := rfl
      rw [hup]
      clear hup
      go_wp2_with fail
      have hg := grow_c (l1.length + l2.length) w (by omega)
      rw [show ((l1.length + l2.length : Nat) : Int) = (l1.length : Int) + (l2.length : Int) by omega] at hg
      refine hg.mono ?_
      rintro e w1 ⟨v0, rfl, hown0, hb1⟩
      clear hg
      go_wp2_with fail
      go_loopw [6, 27] (fun v iv wr => ∃ j : Nat, j ≤ 2 ∧ iv = .int .i64 j ∧ wr.ownsRow w.heap.size 5 1 v (upTo l1.length l2.length j) ((if j = 0 then [] else if j = 1 then l1 else l1 ++ l2).map byteV) ∧ Below w.heap.size w wr) (fun _ iv _ => 2 - (intOf iv).toNat)
      case atStart => exact ⟨0, by decide, rfl, hown0, hb1⟩
      case round =>
        obtain ⟨j, hj, rfl, hown, hbel⟩ := hrel
        obtain rfl | rfl | rfl : j = 0 ∨ j = 1 ∨ j = 2 := by omega
        · have d0 := (hbel.cell (p := ⟨Y, 0, none⟩) hYl).trans c0
          have hR := h1.on hbel
          simp only [upTo, if_true, List.map_nil] at hown
          go_wp2_with (at_builtin; refine wpList_append_rd (f := byteV) (fun _ => rfl) rfl _ _ 22 rfl w.heap.size 5 i0 _ 1 Tryd.underlying22 hi hz0 hz1 hz2 rfl _ 0 [] rfl hown A1 k1 _ l1 rfl hR (by unfold maxLen; omega) (by omega) hbel.size ?_)
          intro v' w' hown' hO
          have hbel' := hbel.trans (hO.belowBase hbel.size (fun g hg => (own_block hown hg).1))
          clear hO hown hR d0
          go_wp2_with fail
          exact ⟨⟨1, by decide, rfl, by simpa [upTo] using hown', hbel'⟩, by simp [intOf]⟩
        · have d0 := (hbel.cell (p := ⟨Y, 1, none⟩) hYl).trans c1
          have hR := h2.on hbel
          simp only [upTo, if_true, if_false, Nat.one_ne_zero] at hown
          go_wp2_with (at_builtin; refine wpList_append_rd (f := byteV) (fun _ => rfl) rfl _ _ 22 rfl w.heap.size 5 i0 _ 1 Tryd.underlying22 hi hz0 hz1 hz2 rfl _ l1.length (l1.map byteV) rfl hown A2 k2 _ l2 rfl hR (by unfold maxLen; omega) (by omega) hbel.size ?_)
          intro v' w' hown' hO
          have hbel' := hbel.trans (hO.belowBase hbel.size (fun g hg => (own_block hown hg).1))
          clear hO hown hR d0
          go_wp2_with fail
          exact ⟨⟨2, by decide, rfl, by simpa [upTo] using hown', hbel'⟩, by simp [intOf]⟩
        · have e2 : (if (2 : Nat) = 0 then [] else if (2 : Nat) = 1 then l1 else l1 ++ l2) = l1 ++ l2 := rfl
          rw [e2] at hown
          clear e2
          go_wp2_with fail
          go_ret
          exact ⟨_, _, rfl, hown, hbel⟩

theorem runeCells_put (r : Int) : Lib.runeCells r = (putF r).map byteV := by
  unfold Lib.runeCells putF normF
  by_cases hbad : r < 0 ∨ (55296 ≤ r ∧ r ≤ 57343) ∨ 1114111 < r
  · rw [Lib.encodeRuneZ_bad hbad, if_pos (by omega)]; rfl
  · rw [if_neg (by omega)]
    obtain ⟨n, rfl⟩ := Int.eq_ofNat_of_zero_le (show 0 ≤ r by omega)
    simp only [Int.toNat_natCast]
    unfold bytesF
    split
    · rw [Lib.encodeRuneZ_one (by omega) (by omega)]; rfl
    · split
      · rw [Lib.encodeRuneZ_two (by omega) (by omega)]; simp [byteV]
      · split
        · rw [Lib.encodeRuneZ_three (by omega)]; simp [byteV]
        · rw [Lib.encodeRuneZ_four (by omega) (by omega)]; simp [byteV]
set_option maxRecDepth 100000 in
/-- Put: a letter's bytes. -/
theorem put_c (r : Int) (w : World) (h0 : -9223372036854775808 ≤ r) (h1 : r ≤ 9223372036854775807) :
    Calls Tryd.prog 12 #[.int .i64 r] w fun e w' => ∃ v, e = .returned v ∧ w'.ownsRow w.heap.size 5 1 v (putF r).length ((putF r).map byteV) ∧ Below w.heap.size w w' := by
  have ha : ∀ (q : Int) (w : World), -2147483648 ≤ q → q ≤ 2147483647 → Calls Tryd.prog 18 #[.slice none 0 0, .int .i32 q] w fun e w' => ∃ v, e = .returned v ∧ w'.ownsRow w.heap.size 5 1 v (putF q).length ((putF q).map byteV) ∧ Below w.heap.size w w' := by
    intro q w h0 h1
    refine (Any.utf8_AppendRune_plain Tryd.lays242 (by kernel_rfl) w.heap.size (.slice none 0 0) 0 [] q h0 h1 w (World.ownsRow_nil _ _ _ _) (by omega) (Nat.le_refl _)).mono ?_
    rintro e w' ⟨v', rfl, hown, o, hg⟩
    refine ⟨v', rfl, ?_, ?_⟩
    · rw [runeCells_put] at hown
      simp only [List.length_map, Nat.zero_add, List.nil_append] at hown
      exact hown
    · have hb : Below w.heap.size w (w.alloc o) := (Below.refl _ _).alloc (Nat.le_refl _) _
      exact hb.trans ⟨hg.os, hg.tape, hg.output, hg.size, fun k hk => hg.block k (by simp; omega) (by simp [Value.ownBlock])⟩
  by_cases hr : 0 ≤ r
  · by_cases hr2 : r ≤ 1114111
    · have HA := Lib.hid (ha r w (by omega) (by omega))
      clear ha
      go_enter Tryd.func12, Tryd.ntmps12
      go_wp2_with fail
      refine (HA.out).mono ?_
      rintro e w' ⟨v, rfl, h1, h2⟩
      go_wp2_with fail
      go_ret
      exact ⟨v, rfl, h1, h2⟩
    · have e1 : putF r = putF 65533 := by
        have : normF r = 65533 := by unfold normF; rw [if_pos (by omega)]
        unfold putF; rw [this]; rfl
      rw [e1]
      have HA := Lib.hid (ha 65533 w (by omega) (by omega))
      clear ha e1
      go_enter Tryd.func12, Tryd.ntmps12
      go_wp2_with fail
      refine (HA.out).mono ?_
      rintro e w' ⟨v, rfl, h1, h2⟩
      go_wp2_with fail
      go_ret
      exact ⟨v, rfl, h1, h2⟩
  · have e1 : putF r = putF 65533 := by
      have : normF r = 65533 := by unfold normF; rw [if_pos (by omega)]
      unfold putF; rw [this]; rfl
    rw [e1]
    have HA := Lib.hid (ha 65533 w (by omega) (by omega))
    clear ha e1
    go_enter Tryd.func12, Tryd.ntmps12
    go_wp2_with fail
    refine (HA.out).mono ?_
    rintro e w' ⟨v, rfl, h1, h2⟩
    go_wp2_with fail
    go_ret
    exact ⟨v, rfl, h1, h2⟩
set_option maxRecDepth 100000 in
theorem sane_c (A : Option Addr) (bs : List Nat) (c : Nat) (w : World) (hT : Tb w) (h : Byt w w.heap.size A bs) (hb : ∀ c ∈ bs, c < 256) (hc : bs.length ≤ c) (hcm : c ≤ maxLen) :
    Calls Tryd.prog 11 #[.agg #[.slice A bs.length c]] w fun e w' => e = .returned (.bool (shortB bs)) ∧ Below w.heap.size w w' := by
  go_enter Tryd.func11, Tryd.ntmps11
  go_wp2_with fail
  have hb0 : Below w.heap.size w (w.alloc (.cells #[.slice A bs.length c] 26)) := (Below.refl _ _).alloc (Nat.le_refl _) _
  refine (short_c A bs c _ (hT.below hb0 hT.size) (h.on hb0) hb hc hcm).mono ?_
  rintro e w1 ⟨rfl, hz⟩
  have hb1 := hb0.trans (hz.mono hb0.size)
  clear hz hb0
  go_wp2_with fail
  go_ret
  exact ⟨rfl, hb1⟩
set_option maxRecDepth 100000 in
theorem end_c (A : Option Addr) (bs : List Nat) (c : Nat) (w : World) (hT : Tb w) (h : Byt w w.heap.size A bs) (hb : ∀ c ∈ bs, c < 256) (hc : bs.length ≤ c) (hcm : c ≤ maxLen) (hs : shortB bs = true) :
    Calls Tryd.prog 14 #[.agg #[.slice A bs.length c]] w fun e w' => ∃ A' c', e = .returned (.slice A' (endF bs).length c') ∧ Its w' w'.heap.size A' (endF bs) ∧ (endF bs).length ≤ c' ∧ c' ≤ maxLen ∧ Below w.heap.size w w' := by
  have hs0 := sane_c A bs c (w.alloc (.cells #[.slice A bs.length c] 26)) (hT.below ((Below.refl _ _).alloc (Nat.le_refl _) _) hT.size) (h.on ((Below.refl _ _).alloc (Nat.le_refl _) _)) hb hc hcm
  rw [hs] at hs0
  have HS := Lib.hid hs0
  have hb0 : Below w.heap.size w (w.alloc (.cells #[.slice A bs.length c] 26)) := (Below.refl _ _).alloc (Nat.le_refl _) _
  clear hs0 hs
  by_cases hne : bs = []
  · subst hne
    clear HS
    have he : endF [] = [] := rfl
    rw [he]
    go_enter Tryd.func14, Tryd.ntmps14
    go_wp2_with fail
    go_ret
    exact ⟨none, 0, rfl, Rd.nil, Nat.le_refl _, Nat.zero_le _, hb0⟩
  · have he : endF bs = [65533] := by unfold endF; rw [if_neg hne]
    rw [he]
    have hl := List.length_pos_iff.2 hne
    have e0 : ((bs.length : Int) == 0) = false := beq_eq_false_iff_ne.2 (by omega)
    have hl0 : ¬ (bs.length : Int) = 0 := by omega
    clear he hl
    generalize bs.length = n at *
    go_enter Tryd.func14, Tryd.ntmps14
    go_wp2_with fail
    refine (HS.out).mono ?_
    rintro e w1 ⟨rfl, hz⟩
    have hb1 := hb0.trans (hz.mono hb0.size)
    clear hz
    go_wp2_with fail
    go_ret
    exact ⟨some ⟨w1.heap.size, 0, none⟩, 1, rfl, Rd.of_box (f := intV) (Box.new w1 _ #[.int .i64 65533]), Nat.le_refl _, by unfold maxLen; decide, hb1.alloc hb1.size _⟩
end Go.Proofs.YthkahbgcemhebaaDoor
