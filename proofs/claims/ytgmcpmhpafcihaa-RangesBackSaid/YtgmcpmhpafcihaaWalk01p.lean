/- number and read, by their contracts. -/
import Derived.Test.YtgmcpmhpafcihaaWalk01c
import Derived.Test.YtgmcpmhpafcihaaMem01p
namespace Go.Proofs.Ytgmcpmhpafcihaa
open Go Go.RowKit
set_option linter.unusedVariables false
set_option linter.unusedSimpArgs false

theorem numRet {r : Nat × Nat × Nat} {a b c : Int} (h1 : a = r.1) (h2 : b = r.2.1) (h3 : c = r.2.2) : Ending.returned (.tuple #[.int .i64 a, .int .i64 b, .int .i64 c]) = Ending.returned (.tuple #[.int .i64 r.1, .int .i64 r.2.1, .int .i64 r.2.2]) := by rw [h1, h2, h3]

set_option maxHeartbeats 2000000 in
theorem number_c (A : Option Addr) (bs : List Nat) (c : Nat) (w : World) (hn : bs.length ≤ 100000) (h : Byt w w.heap.size A bs) (hb : ∀ c ∈ bs, c < 256) :
    Calls Try.prog 26 #[.slice A bs.length c] w fun e w' => e = .returned (.tuple #[.int .i64 (numGo 0 0 bs).1, .int .i64 (numGo 0 0 bs).2.1, .int .i64 (numGo 0 0 bs).2.2]) ∧ w' = w := by
  go_enter Try.func26, Try.ntmps26
  go_wp2
  go_loop [5, 10] (fun nv i => ∃ (k n : Nat), k ≤ bs.length ∧ k < 4 ∧ n < 128 ^ k ∧ i = .int .i64 k ∧ nv = .int .i64 n ∧ numGo 0 0 bs = numGo k n (bs.drop k)) (fun _ i => bs.length - (intOf i).toNat)
  case atStart => exact ⟨0, 0, Nat.zero_le _, by omega, by simp, rfl, rfl, rfl⟩
  case round =>
    obtain ⟨k, n, hk, hk4, hn4, rfl, rfl, hg⟩ := hrel
    have HG := Lib.hid hg
    clear hg
    by_cases hlt : k < bs.length
    · have hx : bs[k]? = some bs[k] := List.getElem?_eq_getElem hlt
      have hcb := hb bs[k] (List.getElem_mem hlt)
      generalize bs[k] = x at *
      obtain ⟨b, o, rfl, hbb, h1⟩ := h.at_ hx
      have hs : numGo k n (bs.drop k) = if 128 ≤ x ∧ k + 1 < 4 then numGo (k + 1) (n + x % 128 * 128 ^ k) (bs.drop (k + 1)) else if 128 ≤ x ∨ (x = 0 ∧ 0 < k) then (0, 0, 2) else (n + x % 128 * 128 ^ k, k + 1, 0) := by rw [drop_cons hx]; rfl
      clear hx h hb
      obtain rfl | rfl | rfl | rfl : k = 0 ∨ k = 1 ∨ k = 2 ∨ k = 3 := by omega
      · rw [show (128 : Nat) ^ 0 = 1 by decide] at hs hn4
        have HS := Lib.hid hs
        clear hs
        simp only [Nat.add_zero] at h1
        go_wp2
        all_goals first
          | (have hc1 : 128 ≤ x := by omega
             refine ⟨⟨0 + 1, n + x % 128 * 1, by omega, by omega, by rw [show (128 : Nat) ^ (0 + 1) = 1 * 128 by decide]; omega, rfl, ?_, by rw [HG.out, HS.out, if_pos (by omega)]⟩, by simp [intOf]; omega⟩
             exact congrArg (Value.int IntKind.i64) (by omega))
          | (go_ret3
             have hr : numGo 0 0 bs = (0, 0, 2) := by rw [HG.out, HS.out, if_neg (by omega), if_pos (by omega)]
             exact ⟨numRet (by rw [hr]; rfl) (by rw [hr]; rfl) (by rw [hr]; rfl), rfl⟩)
          | (go_ret3
             have hr : numGo 0 0 bs = (n + x % 128 * 1, 0 + 1, 0) := by rw [HG.out, HS.out, if_neg (by omega), if_neg (by omega)]
             exact ⟨numRet (by rw [hr]; simp only []; omega) (by rw [hr]; rfl) (by rw [hr]; rfl), rfl⟩)
      · rw [show (128 : Nat) ^ 1 = 128 by decide] at hs hn4
        have HS := Lib.hid hs
        clear hs
        go_wp2
        all_goals first
          | (have hc1 : 128 ≤ x := by omega
             refine ⟨⟨1 + 1, n + x % 128 * 128, by omega, by omega, by rw [show (128 : Nat) ^ (1 + 1) = 128 * 128 by decide]; omega, rfl, ?_, by rw [HG.out, HS.out, if_pos (by omega)]⟩, by simp [intOf]; omega⟩
             exact congrArg (Value.int IntKind.i64) (by omega))
          | (go_ret3
             have hr : numGo 0 0 bs = (0, 0, 2) := by rw [HG.out, HS.out, if_neg (by omega), if_pos (by omega)]
             exact ⟨numRet (by rw [hr]; rfl) (by rw [hr]; rfl) (by rw [hr]; rfl), rfl⟩)
          | (go_ret3
             have hr : numGo 0 0 bs = (n + x % 128 * 128, 1 + 1, 0) := by rw [HG.out, HS.out, if_neg (by omega), if_neg (by omega)]
             exact ⟨numRet (by rw [hr]; simp only []; omega) (by rw [hr]; rfl) (by rw [hr]; rfl), rfl⟩)
      · rw [show (128 : Nat) ^ 2 = 16384 by decide] at hs hn4
        have HS := Lib.hid hs
        clear hs
        go_wp2
        all_goals first
          | (have hc1 : 128 ≤ x := by omega
             refine ⟨⟨2 + 1, n + x % 128 * 16384, by omega, by omega, by rw [show (128 : Nat) ^ (2 + 1) = 16384 * 128 by decide]; omega, rfl, ?_, by rw [HG.out, HS.out, if_pos (by omega)]⟩, by simp [intOf]; omega⟩
             exact congrArg (Value.int IntKind.i64) (by omega))
          | (go_ret3
             have hr : numGo 0 0 bs = (0, 0, 2) := by rw [HG.out, HS.out, if_neg (by omega), if_pos (by omega)]
             exact ⟨numRet (by rw [hr]; rfl) (by rw [hr]; rfl) (by rw [hr]; rfl), rfl⟩)
          | (go_ret3
             have hr : numGo 0 0 bs = (n + x % 128 * 16384, 2 + 1, 0) := by rw [HG.out, HS.out, if_neg (by omega), if_neg (by omega)]
             exact ⟨numRet (by rw [hr]; simp only []; omega) (by rw [hr]; rfl) (by rw [hr]; rfl), rfl⟩)
      · rw [show (128 : Nat) ^ 3 = 2097152 by decide] at hs hn4
        have HS := Lib.hid hs
        clear hs
        go_wp2
        all_goals first
          | (have hc1 : 128 ≤ x := by omega
             refine ⟨⟨3 + 1, n + x % 128 * 2097152, by omega, by omega, by rw [show (128 : Nat) ^ (3 + 1) = 2097152 * 128 by decide]; omega, rfl, ?_, by rw [HG.out, HS.out, if_pos (by omega)]⟩, by simp [intOf]; omega⟩
             exact congrArg (Value.int IntKind.i64) (by omega))
          | (go_ret3
             have hr : numGo 0 0 bs = (0, 0, 2) := by rw [HG.out, HS.out, if_neg (by omega), if_pos (by omega)]
             exact ⟨numRet (by rw [hr]; rfl) (by rw [hr]; rfl) (by rw [hr]; rfl), rfl⟩)
          | (go_ret3
             have hr : numGo 0 0 bs = (n + x % 128 * 2097152, 3 + 1, 0) := by rw [HG.out, HS.out, if_neg (by omega), if_neg (by omega)]
             exact ⟨numRet (by rw [hr]; simp only []; omega) (by rw [hr]; rfl) (by rw [hr]; rfl), rfl⟩)
    · have hr : numGo 0 0 bs = (0, 0, 5) := by rw [HG.out, List.drop_eq_nil_of_le (by omega)]; rfl
      have HR := Lib.hid hr
      clear hr
      go_wp2
      go_ret3
      exact ⟨numRet (by rw [HR.out]; rfl) (by rw [HR.out]; rfl) (by rw [HR.out]; rfl), rfl⟩
end Go.Proofs.Ytgmcpmhpafcihaa
