/- An argument that is a slice of bytes: it reads as a list. -/
import Derived.Test.YtgmcpmhpafcihaaOpen01
import Derived.Test.YtgmcpmhpafcihaaMem01p
namespace Go.Proofs.Ytgmcpmhpafcihaa
open Go Go.RowKit Go.ChangeShapes Go.WideShapes Go.Deep
set_option linter.unusedVariables false
set_option linter.unusedSimpArgs false

theorem bytesTab {H : Type} {enc : TypeId × Value → H} {W : World} {base : Nat} {v : Value} {d : DataW H} {ps : List MemPlace} (hok : Value.okWide Try.prog W .any base 23 v) (h : DataW.Trod enc Try.prog W 0 (fun _ => true) true 23 v d ps) :
    ∃ A c bs, v = .slice A bs.length c ∧ bs.length ≤ c ∧ c ≤ maxLen ∧ (∀ c ∈ bs, c < 256) ∧ Byt W W.heap.size A bs := by
  obtain ⟨A, len, cap, rfl⟩ := okWide_slice Try.underlying23 hok
  obtain ⟨fuel, hf⟩ := h
  rcases open_ints Try.underlying23 Try.underlying5 (by kernel_rfl) hf with ⟨hcs, hx⟩ | ⟨a, len', cap', zs, hcs, _, hl, hm, hz, hx, hcell, hwz⟩
  · simp [Value.cells] at hcs
    obtain ⟨rfl, rfl, rfl⟩ := hcs
    exact ⟨none, 0, [], rfl, Nat.le_refl _, Nat.zero_le _, by simp, Byt.nil⟩
  · simp [Value.cells] at hcs
    obtain ⟨rfl, rfl, rfl⟩ := hcs
    simp only [if_true] at hz
    have hr : ∀ j (hj : j < zs.length), 0 ≤ zs[j] ∧ zs[j] < 256 := by
      intro j hj
      have hb := range_u8 hwz j
      rw [List.getElem?_eq_getElem hj, Option.getD_some] at hb
      omega
    refine ⟨some a, cap, (zs.take len).map Int.toNat, by simp; omega, by simp; omega, hm, ?_, ?_⟩
    · intro c hc
      obtain ⟨z, hz1, rfl⟩ := List.mem_map.1 hc
      obtain ⟨j, hj, rfl⟩ := List.mem_iff_getElem.1 (List.mem_of_mem_take hz1)
      have := hr j hj
      omega
    · intro hne
      have hlen : 0 < len := by
        rcases Nat.eq_zero_or_pos len with h0 | h0
        · subst h0; simp at hne
        · exact h0
      obtain ⟨b, o, spot⟩ := a
      have hspot : spot = none := by simpa [Addr.add] using World.cell?_spot (hcell 0 (by omega))
      subst hspot
      have hbW : b < W.heap.size := by
        have := World.block_lt_of_cell? W _ (hcell 0 (by omega))
        simpa [Addr.add] using this
      refine ⟨b, o, rfl, hbW, fun k c hx => ?_⟩
      rw [List.getElem?_map] at hx
      obtain ⟨z, hz1, rfl⟩ := Option.map_eq_some_iff.1 hx
      obtain ⟨hk, hz2⟩ := List.getElem?_eq_some_iff.1 hz1
      simp at hk hz2
      have hcj := hcell k (by omega)
      have e : zs.getD k 0 = zs[k]'(by omega) := by simp [List.getD, List.getElem?_eq_getElem (show k < zs.length by omega)]
      rw [e, hz2] at hcj
      rw [Addr.add_lit] at hcj
      rw [hcj]
      have := hr k (by omega)
      rw [hz2] at this
      congr 2
      omega
end Go.Proofs.Ytgmcpmhpafcihaa
