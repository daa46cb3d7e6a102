/- The document's Few, walked. -/
import Derived.Test.YtlcnlfjjglcobaaDoorStr5
import Derived.Test.YtlcnlfjjglcobaaDoorChecked
import Derived.Test.YtlcnlfjjglcobaaDoorReg
import Derived.BigQuiet
import Derived.Deep.QuietTactic
import Derived.Deep.DeepCutAuto
namespace Go.Proofs.YtlcnlfjjglcobaaDoor
open Go Go.RowKit
set_option linter.unusedVariables false
set_option linter.unusedSimpArgs false

set_option maxRecDepth 100000 in
set_option maxHeartbeats 4000000 in
theorem few_c (A : Option Addr) (es : List El) (c : Nat) (w : World) (h : Nest w w.heap.size A es) :
    Calls Tryd.prog 12 #[.slice A es.length c] w fun e w' => e = .returned (.bool (fewB (qs es))) ∧ Below w.heap.size w w' := by
  by_cases hl : es.length > 30
  · have hz : (es.length : Int) > 30 := by omega
    have HR : Hid (fewB (qs es) = false) := Lib.hid (decide_eq_false (fun k => by have := k.1; rw [qs_length] at this; omega))
    go_enter Tryd.func12, Tryd.ntmps12
    go_wp2_with fail
    go_ret
    exact ⟨by rw [HR.out]; rfl, Below.refl _ _⟩
  · have hz : ¬ (es.length : Int) > 30 := by omega
    go_enter Tryd.func12, Tryd.ntmps12
    go_wp2_with fail
    go_loopw [3] (fun iv wr => ∃ k : Nat, k ≤ es.length ∧ iv = .int .i64 (k : Int) ∧ Hid (∀ q ∈ (qs es).take k, q.length ≤ 20) ∧ wr = w) (fun iv _ => es.length - (intOf iv).toNat)
    case atStart => exact ⟨0, by omega, rfl, Lib.hid (by simp), rfl⟩
    case round =>
      obtain ⟨k, hk, rfl, HT, rfl⟩ := hrel
      by_cases hlt : k < es.length
      · have g1 : es[k]? = some es[k] := List.getElem?_eq_getElem hlt
        generalize es[k] = e1 at g1
        obtain ⟨b1, o1, rfl, hb1, d1, ok1⟩ := h.at_ g1
        have q1 := qs_at g1
        have z1 : (k : Int) < (es.length : Int) := by omega
        clear g1
        by_cases hq : e1.q.length > 20
        · have hqz : (e1.q.length : Int) > 20 := by omega
          have HR : Hid (fewB (qs es) = false) := Lib.hid (decide_eq_false (fun k => by have := k.2 _ (List.mem_of_getElem? q1); omega))
          clear q1
          go_wp2_with fail
          go_ret
          exact ⟨by rw [HR.out]; rfl, Below.refl _ _⟩
        · have hqz : ¬ (e1.q.length : Int) > 20 := by omega
          have HN : Hid (∀ q ∈ (qs es).take (k + 1), q.length ≤ 20) := Lib.hid (by
            rw [take_snoc q1]
            intro x hx
            rcases List.mem_append.1 hx with hx | hx
            · exact HT.out x hx
            · simp at hx; subst hx; omega)
          clear q1
          go_wp2_with fail
          exact ⟨⟨k + 1, by omega, by go_num, HN, by first | trivial | rfl⟩, by simp [intOf]; omega⟩
      · obtain rfl : k = es.length := by omega
        have z1 : ¬ (es.length : Int) < (es.length : Int) := by omega
        have HR : Hid (fewB (qs es) = true) := Lib.hid (decide_eq_true ⟨by rw [qs_length]; omega, by
          have h := HT.out
          rwa [← qs_take, List.take_of_length_le (Nat.le_refl _)] at h⟩)
        clear HT
        go_wp2_with fail
        go_ret
        exact ⟨by rw [HR.out]; rfl, Below.refl _ _⟩
end Go.Proofs.YtlcnlfjjglcobaaDoor
