/- An argument: a slice of rows. -/
import Derived.Test.YtcadbapccdclaaaClose8
import Derived.Test.YtcadbapccdclaaaMem09
namespace Go.Proofs.Ytcadbapccdclaaa
open Go Go.RowKit Go.ChangeShapes Go.WideShapes Go.ChangeAt Go.Deep
set_option linter.unusedVariables false
set_option linter.unusedSimpArgs false

theorem rowsTab {H : Type} {enc : TypeId × Value → H} {W : World} {fuel : Nat} {v : Value} {x : DataW H × List MemPlace} (h : DataW.trod enc Try.prog W 0 (fun _ => true) true fuel 22 [v] = some x) :
    ∃ A c l, v = .slice A (List.length l) c ∧ InG W A c l ∧ RsOk (rws l) := by
  have hC : Try.prog.cellsOf 35 = 4 := by kernel_rfl
  rcases open_slice Try.underlying22 h with ⟨hcs, hx⟩ | ⟨a, len, cap, m, n, D, Pl, hcs, hb, hl, hm, hmm, hx, hel⟩
  · simp only [List.cons.injEq, and_true] at hcs
    exact ⟨none, 0, [], hcs, InG.nil (Nat.zero_le _), by simp [RsOk, rws]⟩
  · simp only [List.cons.injEq, and_true] at hcs
    simp only [if_true] at hmm
    subst hmm
    have one : ∀ k, k < m → ∃ e : Rl, (∀ j u, (rlCells e)[j]? = some u → W.cell? ((a.add (k * 4)).add j) = some u) ∧ InC W e.A e.c e.r.cs ∧ RwOk e.r := by
      intro k hk
      obtain ⟨cs', hc, hd⟩ := hel k hk
      rw [hC] at hc
      obtain ⟨_, hcl, hat⟩ := World.cells?_some hc
      obtain ⟨r, A, c, he, hin, hok⟩ := row_cells (W := W) hd
      refine ⟨⟨A, c, r⟩, fun j u hu => ?_, hin, hok⟩
      have hj : j < 4 := (List.getElem?_eq_some_iff.1 hu).1
      have he' : cs' = rlCells ⟨A, c, r⟩ := he
      rw [hat j hj, he', hu]
    let g : Nat → Rl := fun k => if hk : k < m then Classical.choose (one k hk) else ⟨none, 0, ⟨[], false, 0, false⟩⟩
    have hg : ∀ k (hk : k < m), (∀ j u, (rlCells (g k))[j]? = some u → W.cell? ((a.add (k * 4)).add j) = some u) ∧ InC W (g k).A (g k).c (g k).r.cs ∧ RwOk (g k).r := by
      intro k hk
      have := Classical.choose_spec (one k hk)
      simpa only [g, dif_pos hk] using this
    refine ⟨some a, m, (List.range len).map g, by rw [hcs]; simp, ⟨⟨fun hne => ?_, by simp; omega, hm⟩, ?_⟩, ?_⟩
    · have hlen : 0 < len := by
        rcases Nat.eq_zero_or_pos len with h0 | h0
        · subst h0; simp at hne
        · exact h0
      obtain ⟨b, o, spot⟩ := a
      have h0 := (hg 0 (by omega)).1 0 _ rfl
      have hspot : spot = none := by simpa [Addr.add] using World.cell?_spot h0
      subst hspot
      have add_mid : ∀ x j, (⟨b, x, none⟩ : Addr).add j = ⟨b, x + j, none⟩ := fun x j => by unfold Addr.add; split <;> simp_all
      have hbW : b < W.heap.size := by
        have := World.block_lt_of_cell? W _ h0
        simpa [add_mid] using this
      refine ⟨b, o, rfl, hbW, fun k x hx j u hu => ?_⟩
      rw [List.getElem?_map] at hx
      obtain ⟨k', hk', rfl⟩ := Option.map_eq_some_iff.1 hx
      obtain ⟨h1, h2⟩ := List.getElem?_eq_some_iff.1 hk'
      simp at h1 h2
      subst h2
      have h3 := (hg k (by omega)).1 j u hu
      simpa only [add_mid] using h3
    · intro e he
      obtain ⟨k, hk, rfl⟩ := List.mem_map.1 he
      exact (hg k (by have := List.mem_range.1 hk; omega)).2.1
    · intro r hr
      obtain ⟨e, he, rfl⟩ := List.mem_map.1 hr
      obtain ⟨k, hk, rfl⟩ := List.mem_map.1 he
      exact (hg k (by have := List.mem_range.1 hk; omega)).2.2
theorem rowsArg {H : Type} {enc : TypeId × Value → H} {W : World} {base : Nat} {v : Value} {d : DataW H} {ps : List MemPlace} (hok : Value.okWide Try.prog W .any base 22 v) (h : DataW.Trod enc Try.prog W 0 (fun _ => true) true 22 v d ps) :
    ∃ A c es, v = .slice A (List.length es) c ∧ InG W A c es ∧ RsOk (rws es) := by
  obtain ⟨A, len, cap, rfl⟩ := okWide_slice Try.underlying22 hok
  obtain ⟨fuel, hf⟩ := h
  have hf' : DataW.trod enc Try.prog W 0 (fun _ => true) true fuel 22 [.slice A len cap] = some (d, ps) := hf
  exact rowsTab hf'
end Go.Proofs.Ytcadbapccdclaaa
