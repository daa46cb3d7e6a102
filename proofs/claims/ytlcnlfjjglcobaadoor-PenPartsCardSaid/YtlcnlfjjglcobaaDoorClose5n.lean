/- An argument that is a list of lists of ints. -/
import Derived.Test.YtlcnlfjjglcobaaDoorClose5
namespace Go.Proofs.YtlcnlfjjglcobaaDoor
open Go Go.RowKit Go.ChangeShapes Go.WideShapes Go.ChangeAt Go.Deep
set_option linter.unusedVariables false
set_option linter.unusedSimpArgs false

theorem elOpen {H : Type} {enc : TypeId × Value → H} {W : World} {fuel : Nat} {v : Value} {x : DataW H × List MemPlace} (h : DataW.trod enc Tryd.prog W 0 (fun _ => true) true fuel 34 [v] = some x) :
    ∃ e : El, v = elV e ∧ ElOk W W.heap.size e ∧ ∀ n ∈ e.q, I64 n := by
  rcases open_ints Tryd.underlying34 Tryd.underlying3 (by kernel_rfl) h with ⟨hcs, hx⟩ | ⟨a, len, cap, zs, hcs, _, hl, hm, hz, hx, hcell, hwz⟩
  · simp only [List.cons.injEq, and_true] at hcs
    exact ⟨⟨none, 0, []⟩, hcs, ⟨Rd.nil, Nat.le_refl _, Nat.zero_le _⟩, by simp⟩
  · simp only [List.cons.injEq, and_true] at hcs
    simp only [if_true] at hz
    have hlt : (zs.take len).length = len := by simp; omega
    refine ⟨⟨some a, cap, zs.take len⟩, by rw [hcs]; unfold elV; rw [hlt], ⟨?_, by simp only [hlt]; omega, hm⟩, ?_⟩
    · intro hne
      simp only at hne
      have hlen : 0 < len := by
        rcases Nat.eq_zero_or_pos len with h0 | h0
        · subst h0; simp at hne
        · exact h0
      obtain ⟨b, o, spot⟩ := a
      have hspot : spot = none := by simpa [Addr.add] using World.cell?_spot (hcell 0 (by omega))
      subst hspot
      have hbW : b < W.heap.size := by
        have := World.block_lt_of_cell? W _ (hcell 0 (by omega))
        simpa [Addr.add] using this
      refine ⟨b, o, rfl, hbW, fun k c hx => ?_⟩
      obtain ⟨hk, hz2⟩ := List.getElem?_eq_some_iff.1 hx
      simp at hk hz2
      have hcj := hcell k (by omega)
      have e : zs.getD k 0 = zs[k]'(by omega) := by simp [List.getD, List.getElem?_eq_getElem (show k < zs.length by omega)]
      rw [e, hz2] at hcj
      rw [Addr.add_lit] at hcj
      rw [hcj]
      rfl
    · intro z hz1
      obtain ⟨j, hj, rfl⟩ := List.mem_iff_getElem.1 (List.mem_of_mem_take hz1)
      have hb := range_i64 hwz j
      rw [List.getElem?_eq_getElem hj, Option.getD_some] at hb
      exact hb
theorem nestTab {H : Type} {enc : TypeId × Value → H} {W : World} {fuel : Nat} {v : Value} {x : DataW H × List MemPlace} (h : DataW.trod enc Tryd.prog W 0 (fun _ => true) true fuel 26 [v] = some x) :
    ∃ A c es, v = .slice A es.length c ∧ InP W A c es ∧ ∀ q ∈ qs es, ∀ n ∈ q, I64 n := by
  rcases open_slice1 Tryd.underlying26 (by kernel_rfl) h with ⟨hcs, hx⟩ | ⟨a, len, cap, m, n, V, D, Pl, hcs, _, hl, hm, hmm, hx, hel⟩
  · simp only [List.cons.injEq, and_true] at hcs
    exact ⟨none, 0, [], hcs, ⟨Nest.nil, Nat.le_refl _, Nat.zero_le _⟩, by simp [qs]⟩
  · simp only [List.cons.injEq, and_true] at hcs
    simp only [if_true] at hmm
    subst hmm
    have one : ∀ k, k < m → ∃ e : El, W.cell? (a.add k) = some (elV e) ∧ ElOk W W.heap.size e ∧ ∀ n ∈ e.q, I64 n := by
      intro k hk
      obtain ⟨h1, h2⟩ := hel k hk
      obtain ⟨e, h3, h4, h5⟩ := elOpen h2
      exact ⟨e, by rw [h1, h3], h4, h5⟩
    let g : Nat → El := fun k => if hk : k < m then Classical.choose (one k hk) else ⟨none, 0, []⟩
    have hg : ∀ k (hk : k < m), W.cell? (a.add k) = some (elV (g k)) ∧ ElOk W W.heap.size (g k) ∧ ∀ n ∈ (g k).q, I64 n := by
      intro k hk
      have := Classical.choose_spec (one k hk)
      simpa only [g, dif_pos hk] using this
    refine ⟨some a, m, (List.range len).map g, by rw [hcs]; simp, ⟨⟨?_, ?_⟩, by simp; omega, hm⟩, ?_⟩
    · intro hne
      have hlen : 0 < len := by
        rcases Nat.eq_zero_or_pos len with h0 | h0
        · subst h0; simp at hne
        · exact h0
      obtain ⟨b, o, spot⟩ := a
      have hspot : spot = none := by simpa [Addr.add] using World.cell?_spot (hg 0 (by omega)).1
      subst hspot
      have hbW : b < W.heap.size := by
        have := World.block_lt_of_cell? W _ (hg 0 (by omega)).1
        simpa [Addr.add] using this
      refine ⟨b, o, rfl, hbW, fun k e hx => ?_⟩
      rw [List.getElem?_map] at hx
      obtain ⟨k', hk', rfl⟩ := Option.map_eq_some_iff.1 hx
      obtain ⟨h1, h2⟩ := List.getElem?_eq_some_iff.1 hk'
      simp at h1 h2
      subst h2
      have h3 := (hg k (by omega)).1
      rw [Addr.add_lit] at h3
      exact h3
    · intro e he
      obtain ⟨k, hk, rfl⟩ := List.mem_map.1 he
      exact (hg k (by have := List.mem_range.1 hk; omega)).2.1
    · intro q hq
      obtain ⟨e, he, rfl⟩ := List.mem_map.1 hq
      obtain ⟨k, hk, rfl⟩ := List.mem_map.1 he
      exact (hg k (by have := List.mem_range.1 hk; omega)).2.2
end Go.Proofs.YtlcnlfjjglcobaaDoor
