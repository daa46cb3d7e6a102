/- awake and Same, by their contracts. -/
import Derived.Test.YtgmcpmhpafcihaaWalk01c
namespace Go.Proofs.Ytgmcpmhpafcihaa
open Go Go.RowKit
set_option linter.unusedVariables false
set_option linter.unusedSimpArgs false

def exRows : List R3 := [⟨5, 7, 2⟩, ⟨8, 9, 2⟩]
def exRow : List R3 := [⟨5, 9, 2⟩]
theorem exJoin : joinF exRows = exRow := rfl
theorem exLen : exRow.length = 1 := rfl
theorem exLen2 : exRows.length = 2 := rfl
theorem ex_tab (w : World) (t : TypeId) : Tab (w.alloc (.cells #[.int .i64 5, .int .i64 7, .int .i64 2, .int .i64 8, .int .i64 9, .int .i64 2] t)) (w.alloc (.cells #[.int .i64 5, .int .i64 7, .int .i64 2, .int .i64 8, .int .i64 9, .int .i64 2] t)).heap.size (some ⟨w.heap.size, 0, none⟩) exRows := by
  intro _
  have hB := Box.new w t #[.int .i64 5, .int .i64 7, .int .i64 2, .int .i64 8, .int .i64 9, .int .i64 2]
  refine ⟨_, _, rfl, by simp, fun k x hx => ?_⟩
  match k, hx with
  | 0, hx => simp [exRows] at hx; subst hx; exact ⟨hB.cell 0, hB.cell 1, hB.cell 2⟩
  | 1, hx => simp [exRows] at hx; subst hx; exact ⟨hB.cell 3, hB.cell 4, hB.cell 5⟩
  | k + 2, hx => simp [exRows] at hx

set_option maxHeartbeats 1000000 in
theorem awake_c (w : World) : Calls Try.prog 8 #[] w fun e w' => e = .returned (.bool true) ∧ Below w.heap.size w w' := by
  go_enter Try.func8, Try.ntmps8
  go_wp2_with fail
  have hm := make_ok (some ⟨w.heap.size, 0, none⟩) exRows 2 _ (by decide) (ex_tab w 47) (by decide +kernel) (by rw [exJoin]; decide)
  rw [exJoin, exLen, exLen2] at hm
  refine hm.mono ?_
  rintro e w1 ⟨A1, c1, rfl, hT, hb1⟩
  have hbel : Below w.heap.size w w1 := ((Below.refl _ _).alloc (Nat.le_refl _) _).trans (hb1.mono (by simp))
  obtain ⟨b, o, rfl, hb, hx⟩ := hT.at_ (k := 0) (x := ⟨5, 9, 2⟩) rfl
  obtain ⟨_, h2, _⟩ := hx
  simp only [Nat.zero_mul, Nat.add_zero] at h2
  clear hm hb1
  go_wp2_with fail
  have hB1 := Box.new w1 27 #[.slice (some ⟨b, o, none⟩) 1 c1]
  have hT1 : Tab (w1.alloc (.cells #[.slice (some ⟨b, o, none⟩) 1 c1] 27)) (w1.alloc (.cells #[.slice (some ⟨b, o, none⟩) 1 c1] 27)).heap.size (some ⟨b, o, none⟩) exRow := (hT.below ((Below.refl _ _).alloc (Nat.le_refl _) _)).more (by simp)
  have hbel1 := hbel.alloc hbel.size (.cells #[.slice (some ⟨b, o, none⟩) 1 c1] 27)
  have hg := get_c (some ⟨b, o, none⟩) exRow c1 8 _ (by unfold maxLen; decide) hT1
  rw [show getF exRow 8 = 2 from rfl, exLen] at hg
  refine hg.mono ?_
  rintro e w2 ⟨rfl, hb2⟩
  have hB2 := hB1.below hb2 hB1.lt
  have hT2 := (hT1.below hb2).more hb2.size
  have hbel2 := hbel1.trans (hb2.mono hbel1.size)
  have hc2 := hB2.cell 0
  clear hg hB1 hT1 hb2 hT h2 hbel hbel1
  go_wp2_with fail
  have hg := get_c (some ⟨b, o, none⟩) exRow c1 4 _ (by unfold maxLen; decide) hT2
  rw [show getF exRow 4 = 0 from rfl, exLen] at hg
  refine hg.mono ?_
  rintro e w3 ⟨rfl, hb3⟩
  have hB3 := hB2.below hb3 hB2.lt
  have hT3 := (hT2.below hb3).more hb3.size
  have hbel3 := hbel2.trans (hb3.mono hbel2.size)
  have hc3 := hB3.cell 0
  clear hg hB2 hT2 hb3 hc2 hbel2
  go_wp2_with fail
  have hg := sane_c (some ⟨b, o, none⟩) exRow c1 w3 (by unfold maxLen; decide) hT3 true rfl
  rw [exLen] at hg
  refine hg.mono ?_
  rintro e w4 ⟨rfl, hb4⟩
  have hbel4 := hbel3.trans (hb4.mono hbel3.size)
  clear hg hB3 hT3 hb4 hc3 hbel3
  go_wp2
  go_ret
  exact ⟨rfl, hbel4⟩

set_option maxHeartbeats 400000 in
theorem same_c (A A' : Option Addr) (l : List R3) (c c' : Nat) (w : World) (hn : l.length ≤ 100000) (h : Tab w w.heap.size A l) (h' : Tab w w.heap.size A' l) :
    Calls Try.prog 13 #[.slice A l.length c, .slice A' l.length c'] w fun e w' => e = .returned (.bool true) ∧ Below w.heap.size w w' := by
  go_enter Try.func13, Try.ntmps13
  go_wp2
  go_loopw [5] (fun i wr => ∃ k : Nat, k ≤ l.length ∧ i = .int .i64 k ∧ Below w.heap.size w wr) (fun i _ => l.length - (intOf i).toNat)
  case atStart => exact ⟨0, Nat.zero_le _, rfl, Below.refl _ _⟩
  case round =>
    obtain ⟨k, hk, rfl, hbel⟩ := hrel
    by_cases hlt : k < l.length
    · have hg : l[k]? = some l[k] := List.getElem?_eq_getElem hlt
      generalize l[k] = x at *
      obtain ⟨b, o, rfl, hb, h0⟩ := h.at_ hg
      obtain ⟨b', o', rfl, hb', h0'⟩ := h'.at_ hg
      obtain ⟨h1, h2, h3⟩ := h0.below hbel hb
      obtain ⟨k1, k2, k3⟩ := h0'.below hbel hb'
      clear hg h0 h h0' h'
      go_wp2_with fail
      go_quiet (fail)
      go_wp2
      exact ⟨⟨k + 1, by omega, by go_num, below_drewN hbel nq⟩, by simp [intOf]; omega⟩
    · go_wp2
      go_ret
      exact ⟨rfl, hbel⟩
end Go.Proofs.Ytgmcpmhpafcihaa
