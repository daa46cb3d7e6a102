/- An argument that is a slice of rows of three numbers: it reads as a list. -/
import Derived.Test.YtgmcpmhpafcihaaLaw
import Derived.Test.YtgmcpmhpafcihaaMem01
namespace Go.Proofs.Ytgmcpmhpafcihaa
open Go Go.RowKit Go.ChangeShapes Go.WideShapes Go.Deep
set_option linter.unusedVariables false
set_option linter.unusedSimpArgs false

section
variable {H : Type} {enc : TypeId × Value → H} {P : Program}
theorem tab_open {t e i : TypeId} {fs : Array Field} {W : World} {base : Nat} {v : Value} {d : DataW H} {ps : List MemPlace} (ht : P.underlying t = some (.slice e)) (he : P.underlying e = some (.struct fs)) (hi : P.underlying i = some (.int .i64))
    (hone : oneCellFields P fs = true) (hC : P.cellsOf e = 3) (hsz : fs.size = 3) (hty : ∀ (j : Nat) f, fs[j]? = some f → f.type = i)
    (hok : Value.okWide P W .any base t v) (h : DataW.Trod enc P W 0 (fun _ => true) true t v d ps) (hlt : ∀ x ∈ ps, x.block < W.heap.size) :
    ∃ A c l, v = .slice A l.length c ∧ l.length ≤ maxLen ∧ Tab W W.heap.size A l := by
  obtain ⟨A, len, cap, rfl⟩ := okWide_slice ht hok
  obtain ⟨fuel, hf⟩ := h
  rcases open_slice ht hf with ⟨hcs, hx⟩ | ⟨a, len', cap', m, n, D, Pl, hcs, hb, hl, hm, hmm, hx, hel⟩
  · simp [Value.cells] at hcs
    obtain ⟨rfl, rfl, rfl⟩ := hcs
    exact ⟨none, 0, [], rfl, Nat.zero_le _, Tab.nil⟩
  · simp [Value.cells] at hcs
    obtain ⟨rfl, rfl, rfl⟩ := hcs
    simp only [if_true] at hmm
    subst hmm
    simp only [Prod.mk.injEq] at hx
    have row : ∀ k, k < len → ∃ r : R3, W.cell? (a.add (k * 3)) = some (.int .i64 r.lo) ∧ W.cell? ((a.add (k * 3)).add 1) = some (.int .i64 r.hi) ∧ W.cell? ((a.add (k * 3)).add 2) = some (.int .i64 r.v) := by
      intro k hk
      obtain ⟨cs', hc, hd⟩ := hel k (by omega)
      rw [hC] at hc
      obtain ⟨_, hcl, hat⟩ := World.cells?_some hc
      obtain ⟨xs, n', _, _, _, hxl, hfd⟩ := DataW.trod_struct he hd
      have one : ∀ j, j < 3 → ∃ z : Int, W.cell? ((a.add (k * 3)).add j) = some (.int .i64 z) := by
        intro j hj
        have hfj : fs[j]? = some fs[j] := Array.getElem?_eq_getElem (by omega)
        obtain ⟨ho, hk1⟩ := hone_of hone j _ hfj
        have h1 := hfd j _ hfj
        rw [ho, hk1, hty j _ hfj] at h1
        have hd1 : (cs'.drop j).take 1 = [cs'[j]'(by omega)] := by
          rw [List.drop_eq_getElem_cons (by omega)]
          rfl
        rw [hd1] at h1
        have hxs : xs[j]? = some (xs[j]'(by omega)) := List.getElem?_eq_getElem (by omega)
        rw [hxs] at h1
        obtain ⟨z, hz, _, _⟩ := DataW.trod_int hi h1
        refine ⟨z, ?_⟩
        rw [hat j hj, List.getElem?_eq_getElem (by omega)]
        simp only [List.cons.injEq, and_true] at hz
        rw [hz]
      obtain ⟨z0, e0⟩ := one 0 (by omega)
      obtain ⟨z1, e1⟩ := one 1 (by omega)
      obtain ⟨z2, e2⟩ := one 2 (by omega)
      exact ⟨⟨z0, z1, z2⟩, e0, e1, e2⟩
    obtain ⟨b, o, spot⟩ := a
    have hspot : 0 < len → spot = none := fun h0 => by
      obtain ⟨r, h1, _, _⟩ := row 0 h0
      simpa [Addr.add] using World.cell?_spot h1
    let g : Nat → R3 := fun k => if hk : k < len then Classical.choose (row k hk) else ⟨0, 0, 0⟩
    have hg : ∀ k (hk : k < len), W.cell? ((⟨b, o, spot⟩ : Addr).add (k * 3)) = some (.int .i64 (g k).lo) ∧ W.cell? (((⟨b, o, spot⟩ : Addr).add (k * 3)).add 1) = some (.int .i64 (g k).hi) ∧ W.cell? (((⟨b, o, spot⟩ : Addr).add (k * 3)).add 2) = some (.int .i64 (g k).v) := by
      intro k hk
      have := Classical.choose_spec (row k hk)
      simpa only [g, dif_pos hk] using this
    refine ⟨some ⟨b, o, spot⟩, m, (List.range len).map g, by simp, by simp; omega, fun hne => ?_⟩
    have hlen : 0 < len := by
      rcases Nat.eq_zero_or_pos len with h0 | h0
      · subst h0; simp at hne
      · exact h0
    have hs := hspot hlen
    subst hs
    have hbW : b < W.heap.size := by
      obtain ⟨h1, _⟩ := hg 0 hlen
      have := World.block_lt_of_cell? W _ h1
      simpa [Addr.add] using this
    have add_mid : ∀ x j, (⟨b, x, none⟩ : Addr).add j = ⟨b, x + j, none⟩ := fun x j => by unfold Addr.add; split <;> simp_all
    refine ⟨b, o, rfl, hbW, fun k x hx => ?_⟩
    rw [List.getElem?_map] at hx
    obtain ⟨k', hk', rfl⟩ := Option.map_eq_some_iff.1 hx
    obtain ⟨hk, rfl⟩ : k < len ∧ k = k' := by
      obtain ⟨h1, h2⟩ := List.getElem?_eq_some_iff.1 hk'
      simp at h1 h2
      exact ⟨h1, h2⟩
    obtain ⟨h1, h2, h3⟩ := hg k hk
    simp only [add_mid] at h1 h2 h3
    exact ⟨h1, h2, h3⟩
end
theorem own : ownKnob Try.prog.godebug = none := by kernel_rfl
theorem laid : laidOutB Try.prog = true := by kernel_rfl
theorem rowsTab {H : Type} {enc : TypeId × Value → H} {W : World} {base : Nat} {v : Value} {d : DataW H} {ps : List MemPlace} (hok : Value.okWide Try.prog W .any base 22 v) (h : DataW.Trod enc Try.prog W 0 (fun _ => true) true 22 v d ps) (hlt : ∀ x ∈ ps, x.block < W.heap.size) :
    ∃ A c l, v = .slice A l.length c ∧ l.length ≤ maxLen ∧ Tab W W.heap.size A l :=
  tab_open Try.underlying22 Try.underlying40 Try.underlying3 (by kernel_rfl) (by kernel_rfl) rfl (fun j f hf => by
    match j, hf with
    | 0, hf => simp at hf; subst hf; rfl
    | 1, hf => simp at hf; subst hf; rfl
    | 2, hf => simp at hf; subst hf; rfl
    | j + 3, hf => simp at hf) hok h hlt

end Go.Proofs.Ytgmcpmhpafcihaa
