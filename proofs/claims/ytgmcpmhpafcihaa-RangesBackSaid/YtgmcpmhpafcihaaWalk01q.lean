/- read, by its contract. -/
import Derived.Test.YtgmcpmhpafcihaaWalk01p
namespace Go.Proofs.Ytgmcpmhpafcihaa
open Go Go.RowKit
set_option linter.unusedVariables false
set_option linter.unusedSimpArgs false

set_option maxRecDepth 100000 in
set_option maxHeartbeats 2000000 in
theorem read_bad0 (A : Option Addr) (bs : List Nat) (c : Nat) (last : Int) (w : World) (hn : bs.length ≤ 100000) (h : Byt w w.heap.size A bs) (hb : ∀ c ∈ bs, c < 256) (e : Nat) (he : (numGo 0 0 bs).2.2 = e) (h0 : e ≠ 0) :
    Calls Try.prog 23 #[.slice A bs.length c, .int .i64 last] w fun e' w' => e' = .returned (.tuple #[.agg #[.int .i64 0, .int .i64 0, .int .i64 0], .slice none 0 0, .int .i64 e]) ∧ Below w.heap.size w w' := by
  have HE := Lib.hid he
  clear he
  have hbad : ((e : Int) != 0) = true := by rw [bne_iff_ne]; omega
  go_enter Try.func23, Try.ntmps23
  go_wp2
  refine wp_loop_rounds 4 ?_
  rw [rounds_succ]
  go_wp2_with fail
  refine (number_c A bs c _ hn ((h.below (((Below.refl _ _).alloc (Nat.le_refl _) _).alloc (by simp) _)).more (by simp only [World.size_alloc]; omega)) hb).mono ?_
  rintro e' w1 ⟨rfl, rfl⟩
  rw [HE.out]
  go_wp2_with fail
  exact bodyPost_ret (v := .tuple #[.agg #[.int .i64 0, .int .i64 0, .int .i64 0], .slice none 0 0, .int .i64 e]) (by simp [results, Try.results23, go_sem]) rfl ⟨rfl, by
    repeat (first | exact Below.refl _ _ | refine Below.setCell ?_ (by simp) _ | refine Below.alloc ?_ (by simp [World.setCell]; try omega) _)⟩

set_option maxRecDepth 100000 in
set_option maxHeartbeats 4000000 in
theorem read_ok (A : Option Addr) (bs : List Nat) (c : Nat) (last : Int) (w : World) (hn : bs.length ≤ 100000) (hc : bs.length ≤ c) (hcm : c ≤ maxLen) (hl0 : 0 ≤ last) (hl1 : last ≤ 1125899906842624) (BB : Nat) (hBB : BB ≤ w.heap.size) (hh : Byt w BB A bs) (hb : ∀ c ∈ bs, c < 256)
    (n0 s0 n1 s1 n2 s2 : Nat) (h0 : numGo 0 0 bs = (n0, s0, 0)) (h1 : numGo 0 0 (bs.drop s0) = (n1, s1, 0)) (h2 : numGo 0 0 ((bs.drop s0).drop s1) = (n2, s2, 0)) :
    Calls Try.prog 23 #[.slice A bs.length c, .int .i64 last] w fun e' w' => ∃ A' c', e' = .returned (.tuple #[.agg #[.int .i64 (last + n0), .int .i64 (last + n0 + n1), .int .i64 n2], .slice A' (bs.length - (s0 + s1 + s2)) c', .int .i64 0]) ∧ Byt w' BB A' (bs.drop (s0 + s1 + s2)) ∧ bs.length - (s0 + s1 + s2) ≤ c' ∧ c' ≤ maxLen ∧ Below w.heap.size w w' := by
  have h := hh.more hBB
  have z0 := numGo_size (bs := bs) (by rw [h0])
  have z1 := numGo_size (bs := bs.drop s0) (by rw [h1])
  have z2 := numGo_size (bs := (bs.drop s0).drop s1) (by rw [h2])
  have y0 := numGo_bd bs 0 0 (by omega) (by omega)
  have y1 := numGo_bd (bs.drop s0) 0 0 (by omega) (by omega)
  have y2 := numGo_bd ((bs.drop s0).drop s1) 0 0 (by omega) (by omega)
  rw [h0] at z0 y0
  rw [h1] at z1 y1
  rw [h2] at z2 y2
  simp only [List.length_drop] at z0 z1 z2
  have yy0 := y0.1
  have yy1 := y1.1
  have yy2 := y2.1
  clear y0 y1 y2
  rw [show (128 : Nat) ^ 4 = 268435456 by decide] at yy0 yy1 yy2
  simp only [] at yy0 yy1 yy2
  obtain ⟨b, o, rfl, hbb, _⟩ := hh (by rintro rfl; simp at z0; omega)
  have H0 := Lib.hid h0
  have H1 := Lib.hid h1
  have H2 := Lib.hid h2
  clear h0 h1 h2
  unfold maxLen at hcm
  have hcs0 : ¬ c = s0 := by omega
  have hcs1 : ¬ c - s0 = s1 := by omega
  go_enter Try.func23, Try.ntmps23
  go_wp2
  refine wp_loop_rounds 4 ?_
  rw [rounds_succ]
  go_wp2_with fail
  refine (number_c _ bs c _ hn ((h.below (((Below.refl _ _).alloc (Nat.le_refl _) _).alloc (by simp) _)).more (by simp only [World.size_alloc]; omega)) hb).mono ?_
  rintro e' w1 ⟨rfl, rfl⟩
  rw [H0.out]
  simp only []
  go_wp2_with fail
  rw [rounds_succ]
  go_wp2_with fail
  have k1 := fun V (hV : Byt V V.heap.size (some ⟨b, o + s0, none⟩) (bs.drop s0)) => number_c (some ⟨b, o + s0, none⟩) (bs.drop s0) (c - s0) V (by rw [List.length_drop]; omega) hV (drop_bytes hb _)
  rw [List.length_drop] at k1
  refine (k1 _ (((h.drop s0).below (((Below.refl _ _).alloc (Nat.le_refl _) _).alloc (by simp) _)).more (by simp only [World.size_alloc]; omega))).mono ?_
  rintro e' w1 ⟨rfl, rfl⟩
  rw [H1.out]
  simp only []
  clear k1
  go_wp2_with fail
  rw [rounds_succ]
  go_wp2_with fail
  have k2 := fun V (hV : Byt V V.heap.size (some ⟨b, o + s0 + s1, none⟩) ((bs.drop s0).drop s1)) => number_c (some ⟨b, o + s0 + s1, none⟩) ((bs.drop s0).drop s1) (c - s0 - s1) V (by rw [List.length_drop, List.length_drop]; omega) hV (drop_bytes (drop_bytes hb _) _)
  rw [List.length_drop, List.length_drop] at k2
  refine (k2 _ ((((h.drop s0).drop s1).below (((Below.refl _ _).alloc (Nat.le_refl _) _).alloc (by simp) _)).more (by simp only [World.size_alloc]; omega))).mono ?_
  rintro e' w1 ⟨rfl, rfl⟩
  rw [H2.out]
  simp only []
  clear k2
  have hB : Byt w BB (some ⟨b, o + s0 + s1 + s2, none⟩) (bs.drop (s0 + s1 + s2)) := by
    have := hh.drop (s0 + s1 + s2)
    rw [show o + (s0 + s1 + s2) = o + s0 + s1 + s2 by omega] at this
    exact this
  have hlen : bs.length - s0 - s1 - s2 = bs.length - (s0 + s1 + s2) := by omega
  have hcl : bs.length - (s0 + s1 + s2) ≤ c - s0 - s1 - s2 := by omega
  have hcm2 : c - s0 - s1 - s2 ≤ maxLen := by unfold maxLen; omega
  have HLEN := Lib.hid hlen
  clear hlen h hh
  by_cases hcs2 : c - s0 - s1 = s2
  · have hdr : bs.drop (s0 + s1 + s2) = [] := List.drop_eq_nil_of_le (by omega)
    have HDR := Lib.hid hdr
    clear hdr
    go_wp2_with fail
    rw [rounds_succ]
    go_wp2_with fail
    rw [HLEN.out]
    refine bodyPost_ret (v := .tuple #[.agg #[.int .i64 (last + n0), .int .i64 (last + n0 + n1), .int .i64 n2], .slice (some ⟨b, o + s0 + s1, none⟩) (bs.length - (s0 + s1 + s2)) (s2 - s2), .int .i64 0]) (by simp [results, Try.results23, go_sem]) rfl ⟨_, _, rfl, by rw [HDR.out]; exact Byt.nil, by omega, by omega, ?_⟩
    repeat (first | exact Below.refl _ _ | refine Below.setCell ?_ (by simp) _ | refine Below.alloc ?_ (by simp [World.setCell]; try omega) _)
  · go_wp2_with fail
    rw [rounds_succ]
    go_wp2_with fail
    rw [HLEN.out]
    refine bodyPost_ret (v := .tuple #[.agg #[.int .i64 (last + n0), .int .i64 (last + n0 + n1), .int .i64 n2], .slice (some ⟨b, o + s0 + s1 + s2, none⟩) (bs.length - (s0 + s1 + s2)) (c - s0 - s1 - s2), .int .i64 0]) (by simp [results, Try.results23, go_sem]) rfl ⟨_, _, rfl, ?_, hcl, hcm2, ?_⟩
    · refine hB.below (Below.mono (B := w.heap.size) ?_ hBB)
      · repeat (first | exact Below.refl _ _ | refine Below.setCell ?_ (by simp) _ | refine Below.alloc ?_ (by simp [World.setCell]; try omega) _)
    · repeat (first | exact Below.refl _ _ | refine Below.setCell ?_ (by simp) _ | refine Below.alloc ?_ (by simp [World.setCell]; try omega) _)

set_option maxRecDepth 100000 in
set_option maxHeartbeats 4000000 in
theorem read_bad1 (A : Option Addr) (bs : List Nat) (c : Nat) (last : Int) (w : World) (hn : bs.length ≤ 100000) (hc : bs.length ≤ c) (hcm : c ≤ maxLen) (h : Byt w w.heap.size A bs) (hb : ∀ c ∈ bs, c < 256)
    (n0 s0 : Nat) (h0 : numGo 0 0 bs = (n0, s0, 0)) (e : Nat) (he : (numGo 0 0 (bs.drop s0)).2.2 = e) (hne : e ≠ 0) :
    Calls Try.prog 23 #[.slice A bs.length c, .int .i64 last] w fun e' w' => e' = .returned (.tuple #[.agg #[.int .i64 0, .int .i64 0, .int .i64 0], .slice none 0 0, .int .i64 e]) ∧ Below w.heap.size w w' := by
  have z0 := numGo_size (bs := bs) (by rw [h0])
  have y0 := numGo_bd bs 0 0 (by omega) (by omega)
  rw [h0] at z0 y0
  simp only [] at z0
  have yy0 := y0.1
  clear y0
  rw [show (128 : Nat) ^ 4 = 268435456 by decide] at yy0
  simp only [] at yy0
  obtain ⟨b, o, rfl, hbb, _⟩ := h (by rintro rfl; simp at z0; omega)
  have H0 := Lib.hid h0
  have HE := Lib.hid he
  clear h0 he
  unfold maxLen at hcm
  have hbad : ((e : Int) != 0) = true := by rw [bne_iff_ne]; omega
  by_cases hcs0 : c = s0
  · have hdr : bs.drop s0 = [] := List.drop_eq_nil_of_le (by omega)
    obtain rfl : 5 = e := by have := HE.out; rw [hdr] at this; exact this
    have k1 := fun V => number_c (some ⟨b, o, none⟩) [] 0 V (by simp) Byt.nil (by simp)
    have K1 := Lib.hid k1
    clear hdr k1
    subst hcs0
    go_enter Try.func23, Try.ntmps23
    go_wp2
    refine wp_loop_rounds 4 ?_
    rw [rounds_succ]
    go_wp2_with fail
    refine (number_c _ bs c _ hn ((h.below (((Below.refl _ _).alloc (Nat.le_refl _) _).alloc (by simp) _)).more (by simp only [World.size_alloc]; omega)) hb).mono ?_
    rintro e' w1 ⟨rfl, rfl⟩
    rw [H0.out]
    simp only []
    go_wp2_with fail
    rw [rounds_succ]
    go_wp2_with fail
    refine (K1.out _).mono ?_
    rintro e' w1 ⟨rfl, rfl⟩
    simp only [numGo]
    go_wp2_with fail
    refine bodyPost_ret (v := .tuple #[.agg #[.int .i64 0, .int .i64 0, .int .i64 0], .slice none 0 0, .int .i64 5]) (by simp [results, Try.results23, go_sem]) rfl ⟨rfl, ?_⟩
    repeat (first | exact Below.refl _ _ | refine Below.setCell ?_ (by simp) _ | refine Below.alloc ?_ (by simp [World.setCell]; try omega) _)
  · have k1 := fun V (hV : Byt V V.heap.size (some ⟨b, o + s0, none⟩) (bs.drop s0)) => number_c (some ⟨b, o + s0, none⟩) (bs.drop s0) (c - s0) V (by rw [List.length_drop]; omega) hV (drop_bytes hb _)
    rw [List.length_drop] at k1
    have K1 := Lib.hid k1
    clear k1
    go_enter Try.func23, Try.ntmps23
    go_wp2
    refine wp_loop_rounds 4 ?_
    rw [rounds_succ]
    go_wp2_with fail
    refine (number_c _ bs c _ hn ((h.below (((Below.refl _ _).alloc (Nat.le_refl _) _).alloc (by simp) _)).more (by simp only [World.size_alloc]; omega)) hb).mono ?_
    rintro e' w1 ⟨rfl, rfl⟩
    rw [H0.out]
    simp only []
    go_wp2_with fail
    rw [rounds_succ]
    go_wp2_with fail
    refine (K1.out _ (((h.drop s0).below (((Below.refl _ _).alloc (Nat.le_refl _) _).alloc (by simp) _)).more (by simp only [World.size_alloc]; omega))).mono ?_
    rintro e' w1 ⟨rfl, rfl⟩
    rw [HE.out]
    go_wp2_with fail
    refine bodyPost_ret (v := .tuple #[.agg #[.int .i64 0, .int .i64 0, .int .i64 0], .slice none 0 0, .int .i64 e]) (by simp [results, Try.results23, go_sem]) rfl ⟨rfl, ?_⟩
    repeat (first | exact Below.refl _ _ | refine Below.setCell ?_ (by simp) _ | refine Below.alloc ?_ (by simp [World.setCell]; try omega) _)

end Go.Proofs.Ytgmcpmhpafcihaa
