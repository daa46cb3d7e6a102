/- The low bits of an int. -/
import Derived.WalkKit
import Derived.Laws.BitsAll
namespace Go.Proofs.Ytcadbapccdclaaa
open Go Go.RowKit
theorem and_low (r : Int) (k : Nat) (hk : k < 63) : bits .and .i64 r ((2 ^ k - 1 : Nat) : Int) = r % ((2 ^ k : Nat) : Int) := by
  have hp : 0 < 2 ^ k := Nat.two_pow_pos k
  have hp2 : 2 ^ k ≤ 2 ^ 62 := Nat.pow_le_pow_right (by decide) (by omega)
  show IntKind.i64.wrap ((BitVec.ofInt 64 r &&& BitVec.ofInt 64 ((2 ^ k - 1 : Nat) : Int)).toNat : Int) = _
  rw [BitVec.toNat_and, BitVec.toNat_ofInt, BitVec.toNat_ofInt]
  have e1 : (((2 ^ k - 1 : Nat) : Int) % ((2 ^ 64 : Nat) : Int)).toNat = 2 ^ k - 1 := by
    rw [Int.emod_eq_of_lt (by omega) (by omega)]; simp
  rw [e1, Nat.and_two_pow_sub_one_eq_mod]
  have e2 : (((r % ((2 ^ 64 : Nat) : Int)).toNat % 2 ^ k : Nat) : Int) = r % ((2 ^ k : Nat) : Int) := by
    rw [Int.natCast_emod, Int.toNat_of_nonneg (Int.emod_nonneg _ (by decide))]
    exact Int.emod_emod_of_dvd r (Int.natCast_dvd_natCast.2 (Nat.pow_dvd_pow 2 (by omega)))
  rw [e2]
  have h1 : 0 ≤ r % ((2 ^ k : Nat) : Int) := Int.emod_nonneg _ (by omega)
  have h2 : r % ((2 ^ k : Nat) : Int) < ((2 ^ k : Nat) : Int) := Int.emod_lt_of_pos _ (by omega)
  generalize r % ((2 ^ k : Nat) : Int) = z at *
  have h3 : z < 4611686018427387904 := by omega
  rw [IntKind.wrap_i64]; omega
theorem and_127 (r : Int) : bits .and .i64 r 127 = r % 128 := and_low r 7 (by decide)
theorem and_7 (r : Int) : bits .and .i64 r 7 = r % 8 := and_low r 3 (by decide)
theorem and_65535 (r : Int) : bits .and .i64 r 65535 = r % 65536 := and_low r 16 (by decide)
end Go.Proofs.Ytcadbapccdclaaa
