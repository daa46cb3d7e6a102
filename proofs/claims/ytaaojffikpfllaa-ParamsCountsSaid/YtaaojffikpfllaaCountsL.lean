/- ParamsCounts, walked over the contracts. -/
import Derived.Test.YtaaojffikpfllaaContr05
import Derived.Test.YtaaojffikpfllaaBitsR
namespace Go.Proofs.Ytaaojffikpfllaa
open Go Go.RowKit
set_option linter.unusedVariables false
set_option linter.unusedSimpArgs false

def countP (l : List (List Int)) (k usual least most : Int) : Int := max least (min (if getP l k usual = 0 then usual else getP l k usual) most)
def CountC : Prop := ∀ (A : Option Addr) (c : Nat) (es : List El) (k usual least most : Int) (w : World), InP w A c es →
  Calls Try.prog 6 #[.slice A es.length c, .int .i64 k, .int .i64 usual, .int .i64 least, .int .i64 most] w fun e w' => e = .returned (.int .i64 (countP (qs es) k usual least most)) ∧ Below w.heap.size w w'
theorem count_one (v u lo hi : Int) (h : v ≠ -1) : countP [[v]] 0 u lo hi = max lo (min (if v = 0 then u else v) hi) := by
  unfold countP getP
  simp [h]
theorem count_none (u lo hi : Int) : countP [] 0 u lo hi = max lo (min u hi) := by
  unfold countP getP
  simp
theorem one_in (W : World) (v : Int) : InP ((W.alloc (.cells #[.int .i64 v] 3)).alloc (.cells #[.slice (some ⟨W.heap.size, 0, none⟩) 1 1] 24)) (some ⟨W.heap.size + 1, 0, none⟩) 1 [⟨some ⟨W.heap.size, 0, none⟩, 1, [v]⟩] := by
  have h0 : Box ((W.alloc (.cells #[.int .i64 v] 3)).alloc (.cells #[.slice (some ⟨W.heap.size, 0, none⟩) 1 1] 24)) W.heap.size 3 ([v].map intV).toArray := (Box.new W _ _).alloc _
  have h1 : Box ((W.alloc (.cells #[.int .i64 v] 3)).alloc (.cells #[.slice (some ⟨W.heap.size, 0, none⟩) 1 1] 24)) (W.heap.size + 1) 24 ([(⟨some ⟨W.heap.size, 0, none⟩, 1, [v]⟩ : El)].map elV).toArray := by
    have := Box.new (W.alloc (.cells #[.int .i64 v] 3)) 24 #[.slice (some ⟨W.heap.size, 0, none⟩) 1 1]
    have e : (W.alloc (.cells #[.int .i64 v] 3)).heap.size = W.heap.size + 1 := by simp
    rw [e] at this
    exact this
  refine ⟨⟨Rd.of_box h1, ?_⟩, Nat.le_refl _, by decide⟩
  intro e he
  simp only [List.mem_singleton] at he
  subst he
  exact ⟨Rd.of_box h0, Nat.le_refl _, show 1 ≤ maxLen by decide⟩
set_option maxRecDepth 100000 in
set_option maxHeartbeats 4000000 in
theorem counts_law (hp : ParseC) (hget : GetC) (hcount : CountC) (n usual least most : Int) (w : World) :
    Calls Try.prog 3 #[.int .i64 n, .int .i64 usual, .int .i64 least, .int .i64 most] w fun e w' => e = .returned (.bool true) ∧ Below w.heap.size w w' := by
  have a1 : bits .and .i64 n 65535 = n % 65536 := and_low n 16 (by decide)
  have a2 : bits .and .i64 least 255 = least % 256 := and_low least 8 (by decide)
  have a3 : bits .and .i64 most 65535 = most % 65536 := and_low most 16 (by decide)
  have a4 : bits .and .i64 usual 255 = usual % 256 := and_low usual 8 (by decide)
  have b1 : 0 ≤ n % 65536 ∧ n % 65536 < 65536 := by omega
  have b2 : 0 ≤ least % 256 ∧ least % 256 < 256 := by omega
  have b3 : 0 ≤ most % 65536 ∧ most % 65536 < 65536 := by omega
  have b4 : 0 ≤ usual % 256 ∧ usual % 256 < 256 := by omega
  generalize n % 65536 = v at a1 b1
  generalize least % 256 = lo at a2 b2
  generalize most % 65536 = m at a3 b3
  generalize usual % 256 = u at a4 b4
  go_enter Try.func3, Try.ntmps3
  go_wp2_with fail
  refine (awake_c hp hget w).mono ?_
  rintro e w1 ⟨rfl, hb1⟩
  go_wp2_with fail
  have hc1 := hcount _ _ _ 0 u lo (lo + m) _ (one_in w1 v)
  have e1 : countP (qs [(⟨some ⟨w1.heap.size, 0, none⟩, 1, [v]⟩ : El)]) 0 u lo (lo + m) = max lo (min (if v = 0 then u else v) (lo + m)) := count_one v u lo (lo + m) (by omega)
  rw [e1] at hc1
  have x1 : max lo (min (if v = 0 then u else v) (lo + m)) ≥ lo ∧ max lo (min (if v = 0 then u else v) (lo + m)) ≤ lo + m := by omega
  have hv : (v == 0) = true ∨ ((v == 0) = false ∧ v < lo) ∨ ((v == 0) = false ∧ ¬ v < lo ∧ v > lo + m) ∨ ((v == 0) = false ∧ ¬ v < lo ∧ ¬ v > lo + m ∧ (max lo (min (if v = 0 then u else v) (lo + m)) == v) = true) := by
    simp only [beq_iff_eq, beq_eq_false_iff_ne]
    omega
  have y1 : max lo (min u (lo + m)) ≥ lo ∧ max lo (min u (lo + m)) ≤ lo + m := by omega
  have hu : u < lo ∨ (¬ u < lo ∧ u > lo + m) ∨ (¬ u < lo ∧ ¬ u > lo + m ∧ (max lo (min u (lo + m)) == u) = true) := by
    simp only [beq_iff_eq]
    omega
  have e2 := count_none u lo (lo + m)
  have e3 : ∀ g, countP (qs [(⟨some ⟨g, 0, none⟩, 1, [0]⟩ : El)]) 0 u lo (lo + m) = max lo (min u (lo + m)) := fun g => by
    have := count_one 0 u lo (lo + m) (by omega)
    rw [if_pos rfl] at this
    exact this
  generalize max lo (min (if v = 0 then u else v) (lo + m)) = c at *
  generalize max lo (min u (lo + m)) = d at *
  have hal : Below w1.heap.size w1 ((w1.alloc (.cells #[.int .i64 v] 3)).alloc (.cells #[.slice (some ⟨w1.heap.size, 0, none⟩) 1 1] 24)) := ((Below.refl _ _).alloc (Nat.le_refl _) _).alloc (by simp) _
  have hbel2 := hb1.trans (hal.mono hb1.size)
  clear hal e1
  refine hc1.mono ?_
  rintro e w2 ⟨rfl, hb2⟩
  have hbel3 := hbel2.trans (hb2.mono hbel2.size)
  have hc2 := hcount none 0 [] 0 u lo (lo + m) w2 ⟨Nest.nil, Nat.le_refl _, by decide⟩
  have e2' : countP (qs []) 0 u lo (lo + m) = d := e2
  rw [e2'] at hc2
  clear hc1 hb2 hbel2 e2 e2'
  go_wp2_with fail
  refine hc2.mono ?_
  rintro e w3 ⟨rfl, hb3⟩
  have hbel4 := hbel3.trans (hb3.mono hbel3.size)
  have hc3 := hcount _ _ _ 0 u lo (lo + m) _ (one_in w3 0)
  rw [e3] at hc3
  have hal : Below w3.heap.size w3 ((w3.alloc (.cells #[.int .i64 0] 3)).alloc (.cells #[.slice (some ⟨w3.heap.size, 0, none⟩) 1 1] 24)) := ((Below.refl _ _).alloc (Nat.le_refl _) _).alloc (by simp) _
  have hbel5 := hbel4.trans (hal.mono hbel4.size)
  clear hc2 hb3 hbel3 e3 hal hbel4
  go_wp2_with fail
  refine hc3.mono ?_
  rintro e w4 ⟨rfl, hb4⟩
  have hbel6 := hbel5.trans (hb4.mono hbel5.size)
  clear hc3 hb4 hbel5
  obtain ⟨x1, x2⟩ := x1
  obtain ⟨y1, y2⟩ := y1
  rcases hv with hv | ⟨hv, hv2⟩ | ⟨hv, hv2, hv3⟩ | ⟨hv, hv2, hv3, hv4⟩ <;> rcases hu with hu | ⟨hu, hu2⟩ | ⟨hu, hu2, hu3⟩ <;>
  · go_wp2_with fail
    go_ret
    exact ⟨by simp, hbel6⟩
end Go.Proofs.Ytaaojffikpfllaa
