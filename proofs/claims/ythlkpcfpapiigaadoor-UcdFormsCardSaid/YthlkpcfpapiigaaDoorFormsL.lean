/- Forms are told once. -/
import Derived.Test.YthlkpcfpapiigaaDoorMathU
import Derived.Test.YthlkpcfpapiigaaDoorAwake2
namespace Go.Proofs.YthlkpcfpapiigaaDoor
open Go Go.RowKit
set_option linter.unusedVariables false
set_option linter.unusedSimpArgs false

theorem and_3 (k : Int) : ∃ j : Nat, j ≤ 3 ∧ bits .and .i64 k 3 = (j : Int) := by
  refine ⟨(BitVec.ofInt 64 k &&& BitVec.ofInt 64 3).toNat, ?_, ?_⟩
  · rw [BitVec.toNat_and]
    exact Nat.and_le_right
  · have hle : (BitVec.ofInt 64 k &&& BitVec.ofInt 64 3).toNat ≤ 3 := by
      rw [BitVec.toNat_and]; exact Nat.and_le_right
    show IntKind.i64.wrap ((BitVec.ofInt 64 k &&& BitVec.ofInt 64 3).toNat : Int) = _
    rw [IntKind.wrap_i64]
    omega

/-- The facts of two letters in two forms. -/
def FormFacts (a b ki kj x y s0 s1 s2 s3 : Int) : Prop :=
  ToldAs a ki x ∧ ToldAs b kj y ∧ ToldAs a 0 s0 ∧ ToldAs a 1 s1 ∧ ToldAs a 2 s2 ∧ ToldAs a 3 s3 ∧ ToldAs a (-1 - ki) a
theorem forms_facts (a b : Int) (ki kj : Nat) (hi : ki ≤ 3) (hj : kj ≤ 3) : ∃ x y s0 s1 s2 s3 jn : Int, FormFacts a b ki kj x y s0 s1 s2 s3 ∧ Told 13 a jn ∧
    (a = b ∨ a ≠ b ∧ x ≠ y ∨ a ≠ b ∧ x = y ∧ x = a ∨ a ≠ b ∧ x = y ∧ x ≠ a ∧ y = b) ∧ (jn = 0 ∧ s0 = x ∨ jn = 1 ∧ s0 = s2 ∧ s1 = s3 ∨ jn ≠ 0 ∧ jn ≠ 1) := by
  refine ⟨_, _, _, _, _, _, _, ⟨shape_told a ki, shape_told b kj, shape_told a 0, shape_told a 1, shape_told a 2, shape_told a 3, ?_⟩, join_told a, ?_, ?_⟩
  · have := shape_told a (-1 - (ki : Int))
    rw [shape_neg a (by omega)] at this
    exact this
  · have h := fun h1 h2 => forms_once (a := a) (b := b) (i := ki) (j := kj) (by omega) (by omega) (by omega) (by omega) h1 h2
    by_cases hab : a = b
    · exact .inl hab
    · right
      by_cases hxy : shapeF a ki = shapeF b kj
      · right
        by_cases hxa : shapeF a ki = a
        · exact .inl ⟨hab, hxy, hxa⟩
        · exact .inr ⟨hab, hxy, hxa, (h hab hxy).resolve_left hxa⟩
      · exact .inl ⟨hab, hxy⟩
  · by_cases h0 : joinV a = 0
    · exact .inl ⟨h0, shape_alone (by omega) (by omega) h0⟩
    · by_cases h1 : joinV a = 1
      · exact .inr (.inl ⟨h1, shape_right h1⟩)
      · exact .inr (.inr ⟨h0, h1⟩)
end Go.Proofs.YthlkpcfpapiigaaDoor
