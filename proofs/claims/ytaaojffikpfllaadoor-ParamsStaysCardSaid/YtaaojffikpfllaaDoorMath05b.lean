/- Parameters, plainly: how many a step leaves, and which it leaves as they were. No program here. -/
import Derived.Test.YtaaojffikpfllaaDoorMath05
namespace Go.Proofs.YtaaojffikpfllaaDoor
set_option linter.unusedVariables false
set_option linter.unusedSimpArgs false
open Go

theorem lastMod_at {α : Type} (f : α → α) {l : List α} {i : Nat} (h : i + 1 < l.length) : (lastMod f l)[i]? = l[i]? := by
  have hne : l ≠ [] := by rintro rfl; simp at h
  obtain ⟨a, x, rfl⟩ := snoc_of hne
  rw [lastMod_snoc]
  simp at h
  rw [List.getElem?_append_left h, List.getElem?_append_left h]
theorem begin_len (p : Par) : (beginP p).l.length = max p.l.length 1 := by
  unfold beginP
  split
  · rename_i h; rw [h]; rfl
  · rename_i h
    have := List.length_pos_iff.2 h
    omega
theorem begin_at (p : Par) {i : Nat} (h : i < p.l.length) : (beginP p).l[i]? = p.l[i]? := by
  unfold beginP
  rw [if_neg (by intro h0; rw [h0] at h; simp at h)]
theorem rDigit_len (c : Nat) (p : Par) : (rDigit c p).l.length = max p.l.length 1 := by
  unfold rDigit
  split
  · rw [lastMod_length, begin_len]
  · rw [begin_len]
theorem digit_len {p : Par} (h : SaneP p) (c : Nat) : (digitP c p).l.length = max p.l.length (min (digitP c p).l.length 1) := by
  unfold digitP
  rw [if_pos h]
  split
  · rw [rDigit_len]; omega
  · omega
theorem next_len {p : Par} (h : SaneP p) : p.l.length ≤ (nextP p).l.length ∧ (nextP p).l.length ≤ 16 := by
  unfold nextP rNext
  rw [if_pos h]
  have h1 := begin_len p
  have h2 := h.few
  split
  · simp only; omega
  · rename_i h3
    simp at h3 ⊢
    omega
theorem sub_len {p : Par} (h : SaneP p) : (subP p).l.length = max p.l.length 1 := by
  unfold subP rSub
  rw [if_pos h]
  have h1 := begin_len p
  split
  · simp only [lastMod_length]; exact h1
  · exact h1
theorem digit_at {p : Par} (h : SaneP p) (c : Nat) {i : Nat} (hi : i + 1 < p.l.length) : (digitP c p).l[i]? = p.l[i]? := by
  unfold digitP rDigit
  rw [if_pos h]
  split
  · split
    · rw [lastMod_at _ (by rw [begin_len]; omega), begin_at p (by omega)]
    · rw [begin_at p (by omega)]
  · rfl
theorem next_at {p : Par} (h : SaneP p) {i : Nat} (hi : i + 1 < p.l.length) : (nextP p).l[i]? = p.l[i]? := by
  unfold nextP rNext
  rw [if_pos h]
  split
  · exact begin_at p (by omega)
  · simp only
    rw [List.getElem?_append_left (by rw [begin_len]; omega), begin_at p (by omega)]
theorem sub_at {p : Par} (h : SaneP p) {i : Nat} (hi : i + 1 < p.l.length) : (subP p).l[i]? = p.l[i]? := by
  unfold subP rSub
  rw [if_pos h]
  split
  · simp only
    rw [lastMod_at _ (by rw [begin_len]; omega), begin_at p (by omega)]
  · exact begin_at p (by omega)
end Go.Proofs.YtaaojffikpfllaaDoor
