/- Words of the tables' texts, plainly: numbers of sixteen digits. No program here. -/
import Derived.WalkKit
namespace Go.Proofs.YthlkpcfpapiigaaDoor
set_option linter.unusedVariables false
set_option linter.unusedSimpArgs false

/-- What a digit is worth. -/
def hv (c : UInt8) : Nat := if c.toNat ≤ 57 then c.toNat - 48 else c.toNat - 55
def hexB (c : UInt8) : Bool := decide (48 ≤ c.toNat ∧ c.toNat ≤ 57 ∨ 65 ≤ c.toNat ∧ c.toNat ≤ 70)
def hexF : Nat → List UInt8 → Nat
  | acc, [] => acc
  | acc, c :: l => hexF (acc * 16 + hv c) l
/-- A word that hex reads as it stands: one to seven digits. -/
def wordB (l : List UInt8) : Bool := decide (1 ≤ l.length ∧ l.length ≤ 7) && l.all hexB

theorem hexB_iff {c : UInt8} : hexB c = true ↔ (48 ≤ c.toNat ∧ c.toNat ≤ 57 ∨ 65 ≤ c.toNat ∧ c.toNat ≤ 70) := by simp [hexB]
theorem wordB_parts {l : List UInt8} (h : wordB l = true) : (1 ≤ l.length ∧ l.length ≤ 7) ∧ ∀ c ∈ l, hexB c = true := by
  simpa [wordB] using h
theorem hv_le {c : UInt8} (h : hexB c = true) : hv c ≤ 15 := by
  rw [hexB_iff] at h
  unfold hv
  split <;> omega
theorem hexF_lt (l : List UInt8) : ∀ acc : Nat, (∀ c ∈ l, hexB c = true) → hexF acc l < (acc + 1) * 16 ^ l.length := by
  induction l with
  | nil => intro acc _; simp [hexF]
  | cons c l ih =>
    intro acc h
    have h1 := ih (acc * 16 + hv c) (fun x hx => h x (by simp [hx]))
    have h2 := hv_le (h c (by simp))
    simp only [hexF, List.length_cons]
    refine Nat.lt_of_lt_of_le h1 ?_
    rw [Nat.pow_succ, Nat.mul_comm (16 ^ l.length) 16, ← Nat.mul_assoc]
    exact Nat.mul_le_mul_right _ (by omega)
theorem hexF_word {l : List UInt8} (h : wordB l = true) : hexF 0 l < 268435456 := by
  obtain ⟨⟨h1, h2⟩, h3⟩ := wordB_parts h
  refine Nat.lt_of_lt_of_le (hexF_lt l 0 h3) ?_
  rw [Nat.zero_add, Nat.one_mul]
  exact Nat.pow_le_pow_right (by omega) h2
end Go.Proofs.YthlkpcfpapiigaaDoor
