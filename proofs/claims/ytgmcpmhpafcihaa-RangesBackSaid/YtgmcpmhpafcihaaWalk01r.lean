/- read, by its contract, where the third number is none. -/
import Derived.Test.YtgmcpmhpafcihaaWalk01q
namespace Go.Proofs.Ytgmcpmhpafcihaa
open Go Go.RowKit
set_option linter.unusedVariables false
set_option linter.unusedSimpArgs false

set_option maxRecDepth 100000 in
set_option maxHeartbeats 4000000 in
theorem read_bad2 (A : Option Addr) (bs : List Nat) (c : Nat) (last : Int) (w : World) (hn : bs.length ≤ 100000) (hc : bs.length ≤ c) (hcm : c ≤ maxLen) (h : Byt w w.heap.size A bs) (hb : ∀ c ∈ bs, c < 256)
    (n0 s0 n1 s1 : Nat) (h0 : numGo 0 0 bs = (n0, s0, 0)) (h1 : numGo 0 0 (bs.drop s0) = (n1, s1, 0)) (e : Nat) (he : (numGo 0 0 ((bs.drop s0).drop s1)).2.2 = e) (hne : e ≠ 0) :
    Calls Try.prog 23 #[.slice A bs.length c, .int .i64 last] w fun e' w' => e' = .returned (.tuple #[.agg #[.int .i64 0, .int .i64 0, .int .i64 0], .slice none 0 0, .int .i64 e]) ∧ Below w.heap.size w w' := by
  have z0 := numGo_size (bs := bs) (by rw [h0])
  have z1 := numGo_size (bs := bs.drop s0) (by rw [h1])
  have y0 := numGo_bd bs 0 0 (by omega) (by omega)
  have y1 := numGo_bd (bs.drop s0) 0 0 (by omega) (by omega)
  rw [h0] at z0 y0
  rw [h1] at z1 y1
  simp only [List.length_drop] at z0 z1
  have yy0 := y0.1
  have yy1 := y1.1
  clear y0 y1
  rw [show (128 : Nat) ^ 4 = 268435456 by decide] at yy0 yy1
  simp only [] at yy0 yy1
  obtain ⟨b, o, rfl, hbb, _⟩ := h (by rintro rfl; simp at z0; omega)
  have H0 := Lib.hid h0
  have H1 := Lib.hid h1
  have HE := Lib.hid he
  clear h0 h1 he
  unfold maxLen at hcm
  have hbad : ((e : Int) != 0) = true := by rw [bne_iff_ne]; omega
  have hcs0 : ¬ c = s0 := by omega
  have k1 := fun V (hV : Byt V V.heap.size (some ⟨b, o + s0, none⟩) (bs.drop s0)) => number_c (some ⟨b, o + s0, none⟩) (bs.drop s0) (c - s0) V (by rw [List.length_drop]; omega) hV (drop_bytes hb _)
  rw [List.length_drop] at k1
  have K1 := Lib.hid k1
  clear k1
  by_cases hcs1 : c - s0 = s1
  · have hdr : (bs.drop s0).drop s1 = [] := by rw [List.drop_drop]; exact List.drop_eq_nil_of_le (by omega)
    obtain rfl : 5 = e := by have := HE.out; rw [hdr] at this; exact this
    have k2 := fun V => number_c (some ⟨b, o + s0, none⟩) [] 0 V (by simp) Byt.nil (by simp)
    have K2 := Lib.hid k2
    clear hdr k2
    subst hcs1
    go_enter Try.func23, Try.ntmps23
    go_wp2
    refine wp_loop_rounds 4 ?_
    rw [rounds_succ]
    go_wp2_with fail
    refine (number_c _ bs c _ hn ((h.below (((Below.refl _ _).alloc (Nat.le_refl _) _).alloc (by simp) _)).more (by simp only [World.size_alloc]; omega)) hb).mono ?_
    rintro e' w1 ⟨rfl, rfl⟩
    rw [H0.out]
    simp only []
    go_wp2_with fail
    rw [rounds_succ]
    go_wp2_with fail
    refine (K1.out _ (((h.drop s0).below (((Below.refl _ _).alloc (Nat.le_refl _) _).alloc (by simp) _)).more (by simp only [World.size_alloc]; omega))).mono ?_
    rintro e' w1 ⟨rfl, rfl⟩
    rw [H1.out]
    simp only []
    go_wp2_with fail
    rw [rounds_succ]
    go_wp2_with fail
    rw [show bs.length - s0 - (c - s0) = 0 by omega]
    refine (K2.out _).mono ?_
    rintro e' w1 ⟨rfl, rfl⟩
    simp only [numGo]
    go_wp2_with fail
    refine bodyPost_ret (v := .tuple #[.agg #[.int .i64 0, .int .i64 0, .int .i64 0], .slice none 0 0, .int .i64 5]) (by simp [results, Try.results23, go_sem]) rfl ⟨rfl, ?_⟩
    repeat (first | exact Below.refl _ _ | refine Below.setCell ?_ (by simp) _ | refine Below.alloc ?_ (by simp [World.setCell]; try omega) _)
  · have k2 := fun V (hV : Byt V V.heap.size (some ⟨b, o + s0 + s1, none⟩) ((bs.drop s0).drop s1)) => number_c (some ⟨b, o + s0 + s1, none⟩) ((bs.drop s0).drop s1) (c - s0 - s1) V (by rw [List.length_drop, List.length_drop]; omega) hV (drop_bytes (drop_bytes hb _) _)
    rw [List.length_drop, List.length_drop] at k2
    have K2 := Lib.hid k2
    clear k2
    go_enter Try.func23, Try.ntmps23
    go_wp2
    refine wp_loop_rounds 4 ?_
    rw [rounds_succ]
    go_wp2_with fail
    refine (number_c _ bs c _ hn ((h.below (((Below.refl _ _).alloc (Nat.le_refl _) _).alloc (by simp) _)).more (by simp only [World.size_alloc]; omega)) hb).mono ?_
    rintro e' w1 ⟨rfl, rfl⟩
    rw [H0.out]
    simp only []
    go_wp2_with fail
    rw [rounds_succ]
    go_wp2_with fail
    refine (K1.out _ (((h.drop s0).below (((Below.refl _ _).alloc (Nat.le_refl _) _).alloc (by simp) _)).more (by simp only [World.size_alloc]; omega))).mono ?_
    rintro e' w1 ⟨rfl, rfl⟩
    rw [H1.out]
    simp only []
    go_wp2_with fail
    rw [rounds_succ]
    go_wp2_with fail
    refine (K2.out _ ((((h.drop s0).drop s1).below (((Below.refl _ _).alloc (Nat.le_refl _) _).alloc (by simp) _)).more (by simp only [World.size_alloc]; omega))).mono ?_
    rintro e' w1 ⟨rfl, rfl⟩
    rw [HE.out]
    go_wp2_with fail
    refine bodyPost_ret (v := .tuple #[.agg #[.int .i64 0, .int .i64 0, .int .i64 0], .slice none 0 0, .int .i64 e]) (by simp [results, Try.results23, go_sem]) rfl ⟨rfl, ?_⟩
    repeat (first | exact Below.refl _ _ | refine Below.setCell ?_ (by simp) _ | refine Below.alloc ?_ (by simp [World.setCell]; try omega) _)
end Go.Proofs.Ytgmcpmhpafcihaa
