/- Two lists of ints that are the same are the same. -/
import Derived.Test.YtflpelpgnjdnkaaMemR
import Derived.Test.YtflpelpgnjdnkaaReg
import Derived.Test.YtflpelpgnjdnkaaChecked
import Derived.Deep.DeepCutAuto
namespace Go.Proofs.Ytflpelpgnjdnkaa
open Go Go.RowKit
set_option linter.unusedVariables false
set_option linter.unusedSimpArgs false

theorem ints3_c (A1 A2 : Option Addr) (l : List Int) (k1 k2 : Nat) (w : World) (h1 : Its w w.heap.size A1 l) (h2 : Its w w.heap.size A2 l) (hn : l.length ≤ 1000000) :
    Calls Try.prog 16 #[.slice A1 l.length k1, .slice A2 l.length k2] w fun e w' => e = .returned (.bool true) ∧ Below w.heap.size w w' := by
  go_enter Try.func16, Try.ntmps16
  go_wp2_with fail
  go_loopw [5] (fun iv wr => ∃ k : Nat, k ≤ l.length ∧ iv = .int .i64 k ∧ Below w.heap.size w wr) (fun iv _ => l.length - (intOf iv).toNat)
  case atStart => exact ⟨0, Nat.zero_le _, rfl, Below.refl _ _⟩
  case round =>
    obtain ⟨k, hk, rfl, hbel⟩ := hrel
    by_cases hlt : k < l.length
    · have hz1 : (k : Int) < (l.length : Int) := by omega
      have hg : l[k]? = some l[k] := List.getElem?_eq_getElem hlt
      generalize l[k] = x at *
      obtain ⟨b1, o1, rfl, _, c1⟩ := (h1.on hbel).at_ hg
      obtain ⟨b2, o2, rfl, _, c2⟩ := (h2.on hbel).at_ hg
      have d1 : wr.cell? ⟨b1, o1 + k, none⟩ = some (.int .i64 x) := c1
      have d2 : wr.cell? ⟨b2, o2 + k, none⟩ = some (.int .i64 x) := c2
      clear c1 c2 hg
      go_wp2_with fail
      go_quiet (fail)
      go_wp2_with fail
      exact ⟨⟨k + 1, by omega, by go_num, below_drewN hbel _⟩, by simp [intOf]; omega⟩
    · have hz1 : ¬ (k : Int) < (l.length : Int) := by omega
      go_wp2_with fail
      go_ret
      exact ⟨rfl, hbel⟩
end Go.Proofs.Ytflpelpgnjdnkaa
