/- FullRune and short, by their contracts: are bytes a beginning? -/
import Derived.Test.YthkahbgcemhebaaDoorMemR
import Derived.Test.YthkahbgcemhebaaDoorMath03c
import Derived.Test.YthkahbgcemhebaaDoorChecked
import Derived.Shelf.Unicode.DecodeSlow
import Derived.BigQuiet
import Derived.Deep.QuietTactic
namespace Go.Proofs.YthkahbgcemhebaaDoor
open Go Go.RowKit
set_option linter.unusedVariables false
set_option linter.unusedSimpArgs false

/-- The library's two tables of first and second bytes. -/
abbrev Tb (w : World) : Prop := Lib.Utf8Tabs 0 1 w
theorem Tb.below {w w' : World} {B : Nat} (h : Tb w) (hb : Below B w w') (h2 : 2 ≤ B) : Tb w' :=
  ⟨fun c hc => (hb.cell (by show 0 < B; omega)).trans (h.1 c hc), fun i hi => ⟨(hb.cell (by show 1 < B; omega)).trans (h.2 i hi).1, (hb.cell (by show 1 < B; omega)).trans (h.2 i hi).2⟩⟩
theorem Tb.size {w : World} (h : Tb w) : 2 ≤ w.heap.size := by
  have := World.block_lt_of_cell? w _ (h.2 0 (by omega)).1
  exact this

set_option maxRecDepth 1000000 in
set_option maxHeartbeats 4000000 in
theorem full_n (b o n cap a b1 b2 : Nat) (w : World) (hn : 1 ≤ n) (hc : n ≤ cap) (hcm : cap ≤ maxLen) (hT : Tb w) (ha : a < 256) (h1 : b1 < 256) (h2 : b2 < 256)
    (c0 : w.cell? ⟨b, o, none⟩ = some (.int .u8 (a : Int))) (c1 : 1 < n → w.cell? ⟨b, o + 1, none⟩ = some (.int .u8 (b1 : Int))) (c2 : 2 < n → w.cell? ⟨b, o + 2, none⟩ = some (.int .u8 (b2 : Int))) :
    Calls Tryd.prog 20 #[.slice (some ⟨b, o, none⟩) n cap] w fun e w' => e = .returned (.bool (fullN n a b1 b2)) ∧ Below w.heap.size w w' := by
  have hb : b < w.heap.size := by have := World.block_lt_of_cell? w _ c0; exact this
  have hc0 := hT.1 a ha
  have hn0 : ¬ ((n : Int) = 0) := by omega
  have hz0 : (0 : Int) < (n : Int) := by omega
  have e0 : ((n : Int) == 0) = false := beq_eq_false_iff_ne.2 (by omega)
  unfold maxLen at hcm
  rcases Lib.firstT_cases a with hX | hX | hX | hX | hX | hX | hX | hX | hX
  · have hr : fullN n a b1 b2 = true := by simp [fullN, hX]; omega
    rw [hr]; rw [hX] at hc0
    clear hT hX c1 c2 hr
    go_enter Tryd.func20, Tryd.ntmps20
    go_wp2
    go_ret
    exact ⟨rfl, Below.refl _ _⟩
  · have hr : fullN n a b1 b2 = true := by simp [fullN, hX]; omega
    rw [hr]; rw [hX] at hc0
    have hz1 : (1 : Int) ≤ (n : Int) := by omega
    clear hT hX c1 c2 hr
    go_enter Tryd.func20, Tryd.ntmps20
    go_wp2
    go_ret
    exact ⟨rfl, Below.refl _ _⟩
  · have ha0 := (hT.2 0 (by omega)).1
    have ha1 := (hT.2 0 (by omega)).2
    have hr : fullN n a b1 b2 = if 2 ≤ n then true else if 1 < n ∧ (b1 < Lib.accLo 0 ∨ Lib.accHi 0 < b1) then true else if 2 < n ∧ (b2 < 128 ∨ 191 < b2) then true else false := by
      have : ¬ n = 0 := by omega
      simp only [fullN, hX, this, if_false]
    rw [hr]; rw [hX] at hc0
    simp only [Lib.accLo, Lib.accHi, Nat.reduceMul, Nat.reduceAdd, Nat.reduceEqDiff, if_true, if_false, Nat.reduceMod, Nat.reduceDiv] at ha0 ha1 ⊢
    clear hr hT hX
    by_cases hk : 2 ≤ n
    · have hz1 : (2 : Int) ≤ (n : Int) := by omega
      rw [if_pos hk]
      clear c1 c2
      go_enter Tryd.func20, Tryd.ntmps20
      go_wp2
      go_ret
      exact ⟨rfl, Below.refl _ _⟩
    · have hz1 : ¬ (2 : Int) ≤ (n : Int) := by omega
      have hz1' : (n : Int) < 2 := by omega
      rw [if_neg hk]
      have hnk : n = 1 := by omega
      subst hnk
      clear c1 c2
      go_enter Tryd.func20, Tryd.ntmps20
      go_wp2
      go_quiet (fail)
      go_wp2
      all_goals (go_ret; exact ⟨by simp, below_drewN ((Below.refl _ _).alloc (Nat.le_refl _) _) _⟩)
  · have ha0 := (hT.2 1 (by omega)).1
    have ha1 := (hT.2 1 (by omega)).2
    have hr : fullN n a b1 b2 = if 3 ≤ n then true else if 1 < n ∧ (b1 < Lib.accLo 1 ∨ Lib.accHi 1 < b1) then true else if 2 < n ∧ (b2 < 128 ∨ 191 < b2) then true else false := by
      have : ¬ n = 0 := by omega
      simp only [fullN, hX, this, if_false]
    rw [hr]; rw [hX] at hc0
    simp only [Lib.accLo, Lib.accHi, Nat.reduceMul, Nat.reduceAdd, Nat.reduceEqDiff, if_true, if_false, Nat.reduceMod, Nat.reduceDiv] at ha0 ha1 ⊢
    clear hr hT hX
    by_cases hk : 3 ≤ n
    · have hz1 : (3 : Int) ≤ (n : Int) := by omega
      rw [if_pos hk]
      clear c1 c2
      go_enter Tryd.func20, Tryd.ntmps20
      go_wp2
      go_ret
      exact ⟨rfl, Below.refl _ _⟩
    · have hz1 : ¬ (3 : Int) ≤ (n : Int) := by omega
      have hz1' : (n : Int) < 3 := by omega
      rw [if_neg hk]
      have hnk : n = 1 ∨ n = 2 := by omega
      rcases hnk with rfl | rfl
      · clear c1 c2
        go_enter Tryd.func20, Tryd.ntmps20
        go_wp2
        go_quiet (fail)
        go_wp2
        all_goals (go_ret; exact ⟨by simp, below_drewN ((Below.refl _ _).alloc (Nat.le_refl _) _) _⟩)
      · have d1 := c1 (by omega)
        clear c1 c2
        by_cases x1 : b1 < 160
        · have y1 : (b1 : Int) < 160 := by omega
          go_enter Tryd.func20, Tryd.ntmps20
          go_wp2
          go_quiet (fail)
          go_wp2
          all_goals (go_ret; exact ⟨by simp [x1], below_drewN ((Below.refl _ _).alloc (Nat.le_refl _) _) _⟩)
        · have y1 : decide ((b1 : Int) < 160) = false := decide_eq_false (by omega)
          by_cases x2 : 191 < b1
          · have y2 : (191 : Int) < (b1 : Int) := by omega
            go_enter Tryd.func20, Tryd.ntmps20
            go_wp2
            go_quiet (fail)
            go_wp2
            all_goals (go_ret; exact ⟨by simp [x1, x2], below_drewN ((Below.refl _ _).alloc (Nat.le_refl _) _) _⟩)
          · have y2 : decide ((191 : Int) < (b1 : Int)) = false := decide_eq_false (by omega)
            go_enter Tryd.func20, Tryd.ntmps20
            go_wp2
            go_quiet (fail)
            go_wp2
            all_goals (go_ret; exact ⟨by simp [x1, x2], below_drewN ((Below.refl _ _).alloc (Nat.le_refl _) _) _⟩)
  · have ha0 := (hT.2 0 (by omega)).1
    have ha1 := (hT.2 0 (by omega)).2
    have hr : fullN n a b1 b2 = if 3 ≤ n then true else if 1 < n ∧ (b1 < Lib.accLo 0 ∨ Lib.accHi 0 < b1) then true else if 2 < n ∧ (b2 < 128 ∨ 191 < b2) then true else false := by
      have : ¬ n = 0 := by omega
      simp only [fullN, hX, this, if_false]
    rw [hr]; rw [hX] at hc0
    simp only [Lib.accLo, Lib.accHi, Nat.reduceMul, Nat.reduceAdd, Nat.reduceEqDiff, if_true, if_false, Nat.reduceMod, Nat.reduceDiv] at ha0 ha1 ⊢
    clear hr hT hX
    by_cases hk : 3 ≤ n
    · have hz1 : (3 : Int) ≤ (n : Int) := by omega
      rw [if_pos hk]
      clear c1 c2
      go_enter Tryd.func20, Tryd.ntmps20
      go_wp2
      go_ret
      exact ⟨rfl, Below.refl _ _⟩
    · have hz1 : ¬ (3 : Int) ≤ (n : Int) := by omega
      have hz1' : (n : Int) < 3 := by omega
      rw [if_neg hk]
      have hnk : n = 1 ∨ n = 2 := by omega
      rcases hnk with rfl | rfl
      · clear c1 c2
        go_enter Tryd.func20, Tryd.ntmps20
        go_wp2
        go_quiet (fail)
        go_wp2
        all_goals (go_ret; exact ⟨by simp, below_drewN ((Below.refl _ _).alloc (Nat.le_refl _) _) _⟩)
      · have d1 := c1 (by omega)
        clear c1 c2
        by_cases x1 : b1 < 128
        · have y1 : (b1 : Int) < 128 := by omega
          go_enter Tryd.func20, Tryd.ntmps20
          go_wp2
          go_quiet (fail)
          go_wp2
          all_goals (go_ret; exact ⟨by simp [x1], below_drewN ((Below.refl _ _).alloc (Nat.le_refl _) _) _⟩)
        · have y1 : decide ((b1 : Int) < 128) = false := decide_eq_false (by omega)
          by_cases x2 : 191 < b1
          · have y2 : (191 : Int) < (b1 : Int) := by omega
            go_enter Tryd.func20, Tryd.ntmps20
            go_wp2
            go_quiet (fail)
            go_wp2
            all_goals (go_ret; exact ⟨by simp [x1, x2], below_drewN ((Below.refl _ _).alloc (Nat.le_refl _) _) _⟩)
          · have y2 : decide ((191 : Int) < (b1 : Int)) = false := decide_eq_false (by omega)
            go_enter Tryd.func20, Tryd.ntmps20
            go_wp2
            go_quiet (fail)
            go_wp2
            all_goals (go_ret; exact ⟨by simp [x1, x2], below_drewN ((Below.refl _ _).alloc (Nat.le_refl _) _) _⟩)
  · have ha0 := (hT.2 2 (by omega)).1
    have ha1 := (hT.2 2 (by omega)).2
    have hr : fullN n a b1 b2 = if 3 ≤ n then true else if 1 < n ∧ (b1 < Lib.accLo 2 ∨ Lib.accHi 2 < b1) then true else if 2 < n ∧ (b2 < 128 ∨ 191 < b2) then true else false := by
      have : ¬ n = 0 := by omega
      simp only [fullN, hX, this, if_false]
    rw [hr]; rw [hX] at hc0
    simp only [Lib.accLo, Lib.accHi, Nat.reduceMul, Nat.reduceAdd, Nat.reduceEqDiff, if_true, if_false, Nat.reduceMod, Nat.reduceDiv] at ha0 ha1 ⊢
    clear hr hT hX
    by_cases hk : 3 ≤ n
    · have hz1 : (3 : Int) ≤ (n : Int) := by omega
      rw [if_pos hk]
      clear c1 c2
      go_enter Tryd.func20, Tryd.ntmps20
      go_wp2
      go_ret
      exact ⟨rfl, Below.refl _ _⟩
    · have hz1 : ¬ (3 : Int) ≤ (n : Int) := by omega
      have hz1' : (n : Int) < 3 := by omega
      rw [if_neg hk]
      have hnk : n = 1 ∨ n = 2 := by omega
      rcases hnk with rfl | rfl
      · clear c1 c2
        go_enter Tryd.func20, Tryd.ntmps20
        go_wp2
        go_quiet (fail)
        go_wp2
        all_goals (go_ret; exact ⟨by simp, below_drewN ((Below.refl _ _).alloc (Nat.le_refl _) _) _⟩)
      · have d1 := c1 (by omega)
        clear c1 c2
        by_cases x1 : b1 < 128
        · have y1 : (b1 : Int) < 128 := by omega
          go_enter Tryd.func20, Tryd.ntmps20
          go_wp2
          go_quiet (fail)
          go_wp2
          all_goals (go_ret; exact ⟨by simp [x1], below_drewN ((Below.refl _ _).alloc (Nat.le_refl _) _) _⟩)
        · have y1 : decide ((b1 : Int) < 128) = false := decide_eq_false (by omega)
          by_cases x2 : 159 < b1
          · have y2 : (159 : Int) < (b1 : Int) := by omega
            go_enter Tryd.func20, Tryd.ntmps20
            go_wp2
            go_quiet (fail)
            go_wp2
            all_goals (go_ret; exact ⟨by simp [x1, x2], below_drewN ((Below.refl _ _).alloc (Nat.le_refl _) _) _⟩)
          · have y2 : decide ((159 : Int) < (b1 : Int)) = false := decide_eq_false (by omega)
            go_enter Tryd.func20, Tryd.ntmps20
            go_wp2
            go_quiet (fail)
            go_wp2
            all_goals (go_ret; exact ⟨by simp [x1, x2], below_drewN ((Below.refl _ _).alloc (Nat.le_refl _) _) _⟩)
  · have ha0 := (hT.2 3 (by omega)).1
    have ha1 := (hT.2 3 (by omega)).2
    have hr : fullN n a b1 b2 = if 4 ≤ n then true else if 1 < n ∧ (b1 < Lib.accLo 3 ∨ Lib.accHi 3 < b1) then true else if 2 < n ∧ (b2 < 128 ∨ 191 < b2) then true else false := by
      have : ¬ n = 0 := by omega
      simp only [fullN, hX, this, if_false]
    rw [hr]; rw [hX] at hc0
    simp only [Lib.accLo, Lib.accHi, Nat.reduceMul, Nat.reduceAdd, Nat.reduceEqDiff, if_true, if_false, Nat.reduceMod, Nat.reduceDiv] at ha0 ha1 ⊢
    clear hr hT hX
    by_cases hk : 4 ≤ n
    · have hz1 : (4 : Int) ≤ (n : Int) := by omega
      rw [if_pos hk]
      clear c1 c2
      go_enter Tryd.func20, Tryd.ntmps20
      go_wp2
      go_ret
      exact ⟨rfl, Below.refl _ _⟩
    · have hz1 : ¬ (4 : Int) ≤ (n : Int) := by omega
      have hz1' : (n : Int) < 4 := by omega
      rw [if_neg hk]
      have hnk : n = 1 ∨ n = 2 ∨ n = 3 := by omega
      rcases hnk with rfl | rfl | rfl
      · clear c1 c2
        go_enter Tryd.func20, Tryd.ntmps20
        go_wp2
        go_quiet (fail)
        go_wp2
        all_goals (go_ret; exact ⟨by simp, below_drewN ((Below.refl _ _).alloc (Nat.le_refl _) _) _⟩)
      · have d1 := c1 (by omega)
        clear c1 c2
        by_cases x1 : b1 < 144
        · have y1 : (b1 : Int) < 144 := by omega
          go_enter Tryd.func20, Tryd.ntmps20
          go_wp2
          go_quiet (fail)
          go_wp2
          all_goals (go_ret; exact ⟨by simp [x1], below_drewN ((Below.refl _ _).alloc (Nat.le_refl _) _) _⟩)
        · have y1 : decide ((b1 : Int) < 144) = false := decide_eq_false (by omega)
          by_cases x2 : 191 < b1
          · have y2 : (191 : Int) < (b1 : Int) := by omega
            go_enter Tryd.func20, Tryd.ntmps20
            go_wp2
            go_quiet (fail)
            go_wp2
            all_goals (go_ret; exact ⟨by simp [x1, x2], below_drewN ((Below.refl _ _).alloc (Nat.le_refl _) _) _⟩)
          · have y2 : decide ((191 : Int) < (b1 : Int)) = false := decide_eq_false (by omega)
            go_enter Tryd.func20, Tryd.ntmps20
            go_wp2
            go_quiet (fail)
            go_wp2
            all_goals (go_ret; exact ⟨by simp [x1, x2], below_drewN ((Below.refl _ _).alloc (Nat.le_refl _) _) _⟩)
      · have d1 := c1 (by omega)
        have d2 := c2 (by omega)
        clear c1 c2
        by_cases x1 : b1 < 144
        · have y1 : (b1 : Int) < 144 := by omega
          go_enter Tryd.func20, Tryd.ntmps20
          go_wp2
          go_quiet (fail)
          go_wp2
          all_goals (go_ret; exact ⟨by simp [x1], below_drewN ((Below.refl _ _).alloc (Nat.le_refl _) _) _⟩)
        · have y1 : decide ((b1 : Int) < 144) = false := decide_eq_false (by omega)
          by_cases x2 : 191 < b1
          · have y2 : (191 : Int) < (b1 : Int) := by omega
            go_enter Tryd.func20, Tryd.ntmps20
            go_wp2
            go_quiet (fail)
            go_wp2
            all_goals (go_ret; exact ⟨by simp [x1, x2], below_drewN ((Below.refl _ _).alloc (Nat.le_refl _) _) _⟩)
          · have y2 : decide ((191 : Int) < (b1 : Int)) = false := decide_eq_false (by omega)
            by_cases x3 : b2 < 128
            · have y3 : (b2 : Int) < 128 := by omega
              go_enter Tryd.func20, Tryd.ntmps20
              go_wp2
              go_quiet (fail)
              go_wp2
              all_goals (go_ret; exact ⟨by simp [x1, x2, x3], below_drewN ((Below.refl _ _).alloc (Nat.le_refl _) _) _⟩)
            · have y3 : decide ((b2 : Int) < 128) = false := decide_eq_false (by omega)
              by_cases x4 : 191 < b2
              · have y4 : (191 : Int) < (b2 : Int) := by omega
                go_enter Tryd.func20, Tryd.ntmps20
                go_wp2
                go_quiet (fail)
                go_wp2
                all_goals (go_ret; exact ⟨by simp [x1, x2, x3, x4], below_drewN ((Below.refl _ _).alloc (Nat.le_refl _) _) _⟩)
              · have y4 : decide ((191 : Int) < (b2 : Int)) = false := decide_eq_false (by omega)
                go_enter Tryd.func20, Tryd.ntmps20
                go_wp2
                go_quiet (fail)
                go_wp2
                all_goals (go_ret; exact ⟨by simp [x1, x2, x3, x4], below_drewN ((Below.refl _ _).alloc (Nat.le_refl _) _) _⟩)
  · have ha0 := (hT.2 0 (by omega)).1
    have ha1 := (hT.2 0 (by omega)).2
    have hr : fullN n a b1 b2 = if 4 ≤ n then true else if 1 < n ∧ (b1 < Lib.accLo 0 ∨ Lib.accHi 0 < b1) then true else if 2 < n ∧ (b2 < 128 ∨ 191 < b2) then true else false := by
      have : ¬ n = 0 := by omega
      simp only [fullN, hX, this, if_false]
    rw [hr]; rw [hX] at hc0
    simp only [Lib.accLo, Lib.accHi, Nat.reduceMul, Nat.reduceAdd, Nat.reduceEqDiff, if_true, if_false, Nat.reduceMod, Nat.reduceDiv] at ha0 ha1 ⊢
    clear hr hT hX
    by_cases hk : 4 ≤ n
    · have hz1 : (4 : Int) ≤ (n : Int) := by omega
      rw [if_pos hk]
      clear c1 c2
      go_enter Tryd.func20, Tryd.ntmps20
      go_wp2
      go_ret
      exact ⟨rfl, Below.refl _ _⟩
    · have hz1 : ¬ (4 : Int) ≤ (n : Int) := by omega
      have hz1' : (n : Int) < 4 := by omega
      rw [if_neg hk]
      have hnk : n = 1 ∨ n = 2 ∨ n = 3 := by omega
      rcases hnk with rfl | rfl | rfl
      · clear c1 c2
        go_enter Tryd.func20, Tryd.ntmps20
        go_wp2
        go_quiet (fail)
        go_wp2
        all_goals (go_ret; exact ⟨by simp, below_drewN ((Below.refl _ _).alloc (Nat.le_refl _) _) _⟩)
      · have d1 := c1 (by omega)
        clear c1 c2
        by_cases x1 : b1 < 128
        · have y1 : (b1 : Int) < 128 := by omega
          go_enter Tryd.func20, Tryd.ntmps20
          go_wp2
          go_quiet (fail)
          go_wp2
          all_goals (go_ret; exact ⟨by simp [x1], below_drewN ((Below.refl _ _).alloc (Nat.le_refl _) _) _⟩)
        · have y1 : decide ((b1 : Int) < 128) = false := decide_eq_false (by omega)
          by_cases x2 : 191 < b1
          · have y2 : (191 : Int) < (b1 : Int) := by omega
            go_enter Tryd.func20, Tryd.ntmps20
            go_wp2
            go_quiet (fail)
            go_wp2
            all_goals (go_ret; exact ⟨by simp [x1, x2], below_drewN ((Below.refl _ _).alloc (Nat.le_refl _) _) _⟩)
          · have y2 : decide ((191 : Int) < (b1 : Int)) = false := decide_eq_false (by omega)
            go_enter Tryd.func20, Tryd.ntmps20
            go_wp2
            go_quiet (fail)
            go_wp2
            all_goals (go_ret; exact ⟨by simp [x1, x2], below_drewN ((Below.refl _ _).alloc (Nat.le_refl _) _) _⟩)
      · have d1 := c1 (by omega)
        have d2 := c2 (by omega)
        clear c1 c2
        by_cases x1 : b1 < 128
        · have y1 : (b1 : Int) < 128 := by omega
          go_enter Tryd.func20, Tryd.ntmps20
          go_wp2
          go_quiet (fail)
          go_wp2
          all_goals (go_ret; exact ⟨by simp [x1], below_drewN ((Below.refl _ _).alloc (Nat.le_refl _) _) _⟩)
        · have y1 : decide ((b1 : Int) < 128) = false := decide_eq_false (by omega)
          by_cases x2 : 191 < b1
          · have y2 : (191 : Int) < (b1 : Int) := by omega
            go_enter Tryd.func20, Tryd.ntmps20
            go_wp2
            go_quiet (fail)
            go_wp2
            all_goals (go_ret; exact ⟨by simp [x1, x2], below_drewN ((Below.refl _ _).alloc (Nat.le_refl _) _) _⟩)
          · have y2 : decide ((191 : Int) < (b1 : Int)) = false := decide_eq_false (by omega)
            by_cases x3 : b2 < 128
            · have y3 : (b2 : Int) < 128 := by omega
              go_enter Tryd.func20, Tryd.ntmps20
              go_wp2
              go_quiet (fail)
              go_wp2
              all_goals (go_ret; exact ⟨by simp [x1, x2, x3], below_drewN ((Below.refl _ _).alloc (Nat.le_refl _) _) _⟩)
            · have y3 : decide ((b2 : Int) < 128) = false := decide_eq_false (by omega)
              by_cases x4 : 191 < b2
              · have y4 : (191 : Int) < (b2 : Int) := by omega
                go_enter Tryd.func20, Tryd.ntmps20
                go_wp2
                go_quiet (fail)
                go_wp2
                all_goals (go_ret; exact ⟨by simp [x1, x2, x3, x4], below_drewN ((Below.refl _ _).alloc (Nat.le_refl _) _) _⟩)
              · have y4 : decide ((191 : Int) < (b2 : Int)) = false := decide_eq_false (by omega)
                go_enter Tryd.func20, Tryd.ntmps20
                go_wp2
                go_quiet (fail)
                go_wp2
                all_goals (go_ret; exact ⟨by simp [x1, x2, x3, x4], below_drewN ((Below.refl _ _).alloc (Nat.le_refl _) _) _⟩)
  · have ha0 := (hT.2 4 (by omega)).1
    have ha1 := (hT.2 4 (by omega)).2
    have hr : fullN n a b1 b2 = if 4 ≤ n then true else if 1 < n ∧ (b1 < Lib.accLo 4 ∨ Lib.accHi 4 < b1) then true else if 2 < n ∧ (b2 < 128 ∨ 191 < b2) then true else false := by
      have : ¬ n = 0 := by omega
      simp only [fullN, hX, this, if_false]
    rw [hr]; rw [hX] at hc0
    simp only [Lib.accLo, Lib.accHi, Nat.reduceMul, Nat.reduceAdd, Nat.reduceEqDiff, if_true, if_false, Nat.reduceMod, Nat.reduceDiv] at ha0 ha1 ⊢
    clear hr hT hX
    by_cases hk : 4 ≤ n
    · have hz1 : (4 : Int) ≤ (n : Int) := by omega
      rw [if_pos hk]
      clear c1 c2
      go_enter Tryd.func20, Tryd.ntmps20
      go_wp2
      go_ret
      exact ⟨rfl, Below.refl _ _⟩
    · have hz1 : ¬ (4 : Int) ≤ (n : Int) := by omega
      have hz1' : (n : Int) < 4 := by omega
      rw [if_neg hk]
      have hnk : n = 1 ∨ n = 2 ∨ n = 3 := by omega
      rcases hnk with rfl | rfl | rfl
      · clear c1 c2
        go_enter Tryd.func20, Tryd.ntmps20
        go_wp2
        go_quiet (fail)
        go_wp2
        all_goals (go_ret; exact ⟨by simp, below_drewN ((Below.refl _ _).alloc (Nat.le_refl _) _) _⟩)
      · have d1 := c1 (by omega)
        clear c1 c2
        by_cases x1 : b1 < 128
        · have y1 : (b1 : Int) < 128 := by omega
          go_enter Tryd.func20, Tryd.ntmps20
          go_wp2
          go_quiet (fail)
          go_wp2
          all_goals (go_ret; exact ⟨by simp [x1], below_drewN ((Below.refl _ _).alloc (Nat.le_refl _) _) _⟩)
        · have y1 : decide ((b1 : Int) < 128) = false := decide_eq_false (by omega)
          by_cases x2 : 143 < b1
          · have y2 : (143 : Int) < (b1 : Int) := by omega
            go_enter Tryd.func20, Tryd.ntmps20
            go_wp2
            go_quiet (fail)
            go_wp2
            all_goals (go_ret; exact ⟨by simp [x1, x2], below_drewN ((Below.refl _ _).alloc (Nat.le_refl _) _) _⟩)
          · have y2 : decide ((143 : Int) < (b1 : Int)) = false := decide_eq_false (by omega)
            go_enter Tryd.func20, Tryd.ntmps20
            go_wp2
            go_quiet (fail)
            go_wp2
            all_goals (go_ret; exact ⟨by simp [x1, x2], below_drewN ((Below.refl _ _).alloc (Nat.le_refl _) _) _⟩)
      · have d1 := c1 (by omega)
        have d2 := c2 (by omega)
        clear c1 c2
        by_cases x1 : b1 < 128
        · have y1 : (b1 : Int) < 128 := by omega
          go_enter Tryd.func20, Tryd.ntmps20
          go_wp2
          go_quiet (fail)
          go_wp2
          all_goals (go_ret; exact ⟨by simp [x1], below_drewN ((Below.refl _ _).alloc (Nat.le_refl _) _) _⟩)
        · have y1 : decide ((b1 : Int) < 128) = false := decide_eq_false (by omega)
          by_cases x2 : 143 < b1
          · have y2 : (143 : Int) < (b1 : Int) := by omega
            go_enter Tryd.func20, Tryd.ntmps20
            go_wp2
            go_quiet (fail)
            go_wp2
            all_goals (go_ret; exact ⟨by simp [x1, x2], below_drewN ((Below.refl _ _).alloc (Nat.le_refl _) _) _⟩)
          · have y2 : decide ((143 : Int) < (b1 : Int)) = false := decide_eq_false (by omega)
            by_cases x3 : b2 < 128
            · have y3 : (b2 : Int) < 128 := by omega
              go_enter Tryd.func20, Tryd.ntmps20
              go_wp2
              go_quiet (fail)
              go_wp2
              all_goals (go_ret; exact ⟨by simp [x1, x2, x3], below_drewN ((Below.refl _ _).alloc (Nat.le_refl _) _) _⟩)
            · have y3 : decide ((b2 : Int) < 128) = false := decide_eq_false (by omega)
              by_cases x4 : 191 < b2
              · have y4 : (191 : Int) < (b2 : Int) := by omega
                go_enter Tryd.func20, Tryd.ntmps20
                go_wp2
                go_quiet (fail)
                go_wp2
                all_goals (go_ret; exact ⟨by simp [x1, x2, x3, x4], below_drewN ((Below.refl _ _).alloc (Nat.le_refl _) _) _⟩)
              · have y4 : decide ((191 : Int) < (b2 : Int)) = false := decide_eq_false (by omega)
                go_enter Tryd.func20, Tryd.ntmps20
                go_wp2
                go_quiet (fail)
                go_wp2
                all_goals (go_ret; exact ⟨by simp [x1, x2, x3, x4], below_drewN ((Below.refl _ _).alloc (Nat.le_refl _) _) _⟩)

theorem getD_at {l : List Nat} {j : Nat} (h : j < l.length) : l[j]? = some (l.getD j 0) := by
  rw [List.getD_eq_getElem?_getD, List.getElem?_eq_getElem h]; rfl
theorem getD_lt {l : List Nat} (hb : ∀ c ∈ l, c < 256) (j : Nat) : l.getD j 0 < 256 := by
  rw [List.getD_eq_getElem?_getD]
  cases h : l[j]? with
  | none => decide
  | some x => exact hb x (List.mem_of_getElem? h)
set_option maxRecDepth 100000 in
/-- Do bytes begin with a whole letter's, or with what is none's? -/
theorem full_c (A : Option Addr) (bs : List Nat) (c : Nat) (w : World) (hT : Tb w) (h : Byt w w.heap.size A bs) (hb : ∀ c ∈ bs, c < 256) (hc : bs.length ≤ c) (hcm : c ≤ maxLen) :
    Calls Tryd.prog 20 #[.slice A bs.length c] w fun e w' => e = .returned (.bool (!shortB bs)) ∧ Below w.heap.size w w' := by
  rcases Nat.eq_zero_or_pos bs.length with h0 | h0
  · obtain rfl := List.eq_nil_of_length_eq_zero h0
    have : shortB [] = true := rfl
    rw [this]
    go_enter Tryd.func20, Tryd.ntmps20
    go_wp2
    go_ret
    exact ⟨rfl, Below.refl _ _⟩
  · have hg := getD_at h0
    obtain ⟨b, o, rfl, hbw, c0⟩ := h.at_ hg
    have hrest : ∀ j, j < bs.length → w.cell? ⟨b, o + j, none⟩ = some (.int .u8 ((bs.getD j 0 : Nat) : Int)) := fun j hj => by
      obtain ⟨b', o', e, _, hq⟩ := h.at_ (getD_at hj)
      injection e with e; injection e with e1 e2; subst e1; subst e2
      exact hq
    rw [← full_short]
    exact full_n b o bs.length c _ _ _ w (by omega) hc hcm hT (getD_lt hb 0) (getD_lt hb 1) (getD_lt hb 2) c0 (hrest 1) (hrest 2)
/-- Are bytes a beginning, or none? -/
theorem short_c (A : Option Addr) (bs : List Nat) (c : Nat) (w : World) (hT : Tb w) (h : Byt w w.heap.size A bs) (hb : ∀ c ∈ bs, c < 256) (hc : bs.length ≤ c) (hcm : c ≤ maxLen) :
    Calls Tryd.prog 16 #[.slice A bs.length c] w fun e w' => e = .returned (.bool (shortB bs)) ∧ Below w.heap.size w w' := by
  go_enter Tryd.func16, Tryd.ntmps16
  go_wp2_with fail
  refine (full_c A bs c w hT h hb hc hcm).mono ?_
  rintro e w1 ⟨rfl, hz⟩
  go_wp2_with fail
  go_ret
  exact ⟨by simp, hz⟩
end Go.Proofs.YthkahbgcemhebaaDoor
