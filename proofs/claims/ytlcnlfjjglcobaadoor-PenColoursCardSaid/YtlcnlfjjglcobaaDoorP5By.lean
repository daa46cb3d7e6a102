/- What a byte does (a method value). -/
import Derived.Test.YtlcnlfjjglcobaaDoorP5Sub
namespace Go.Proofs.YtlcnlfjjglcobaaDoor
open Go Go.RowKit
set_option linter.unusedVariables false
set_option linter.unusedSimpArgs false

set_option maxRecDepth 100000 in
theorem isDigit_c (k : Nat) (hk : k < 256) (w : World) : Calls Tryd.prog 27 #[.int .u8 (k : Int)] w fun e w' => e = .returned (.bool (decide (isDig k))) ∧ w' = w := by
  have h : k < 48 ∨ (48 ≤ k ∧ k ≤ 57) ∨ 57 < k := by omega
  rcases h with h | ⟨h1, h2⟩ | h
  · have e : decide (isDig k) = false := decide_eq_false (by unfold isDig; omega)
    rw [e]
    clear e
    go_enter Tryd.func27, Tryd.ntmps27
    go_wp2_with fail
    go_ret
    exact ⟨rfl, rfl⟩
  · have e : decide (isDig k) = true := decide_eq_true ⟨h1, h2⟩
    rw [e]
    clear e
    go_enter Tryd.func27, Tryd.ntmps27
    go_wp2_with fail
    go_ret
    exact ⟨ret_bool (decide_eq_true (by omega)), rfl⟩
  · have e : decide (isDig k) = false := decide_eq_false (by unfold isDig; omega)
    rw [e]
    clear e
    go_enter Tryd.func27, Tryd.ntmps27
    go_wp2_with fail
    go_ret
    exact ⟨ret_bool (decide_eq_false (by omega)), rfl⟩
/-- What a byte does. -/
def byV (G k : Nat) : Value := if isDig k then .func (.func 28) #[.pointer (some ⟨G, 0, none⟩)] #[] else if k = 59 then .func (.func 29) #[.pointer (some ⟨G, 0, none⟩)] #[] else if k = 58 then .func (.func 30) #[.pointer (some ⟨G, 0, none⟩)] #[] else .nilFunc
set_option maxRecDepth 100000 in
theorem by_c (G k : Nat) (hk : k < 256) (w : World) : Calls Tryd.prog 21 #[.pointer (some ⟨G, 0, none⟩), .int .u8 (k : Int)] w fun e w' => e = .returned (byV G k) ∧ w' = w := by
  have hd := isDigit_c k hk w
  have hmf : ∀ (fn : Fn) (first cap : Array Value) (w : World), (Instr.makeFunc fn first cap).run Tryd.prog w = .ok (.func fn first cap) w := fun _ _ _ _ => rfl
  unfold byV
  by_cases h1 : isDig k
  · rw [if_pos h1]
    rw [decide_eq_true h1] at hd
    clear h1
    go_enter Tryd.func21, Tryd.ntmps21
    go_wp2_with fail
    refine hd.mono ?_
    rintro e w1 ⟨rfl, rfl⟩
    clear hd
    go_wp2_with fail
    go_ret
    exact ⟨rfl, rfl⟩
  · rw [if_neg h1]
    rw [decide_eq_false h1] at hd
    clear h1
    by_cases h2 : k = 59
    · rw [if_pos h2]
      have e2 : ((k : Int) == 59) = true := beq_iff_eq.2 (by omega)
      clear h2
      go_enter Tryd.func21, Tryd.ntmps21
      go_wp2_with fail
      refine hd.mono ?_
      rintro e w1 ⟨rfl, rfl⟩
      clear hd
      go_wp2_with fail
      go_ret
      exact ⟨rfl, rfl⟩
    · rw [if_neg h2]
      have e2 : ((k : Int) == 59) = false := beq_eq_false_iff_ne.2 (by omega)
      by_cases h3 : k = 58
      · rw [if_pos h3]
        have e3 : ((k : Int) == 58) = true := beq_iff_eq.2 (by omega)
        clear h2 h3
        go_enter Tryd.func21, Tryd.ntmps21
        go_wp2_with fail
        refine hd.mono ?_
        rintro e w1 ⟨rfl, rfl⟩
        clear hd
        go_wp2_with fail
        go_ret
        exact ⟨rfl, rfl⟩
      · rw [if_neg h3]
        have e3 : ((k : Int) == 58) = false := beq_eq_false_iff_ne.2 (by omega)
        clear h2 h3
        go_enter Tryd.func21, Tryd.ntmps21
        go_wp2_with fail
        refine hd.mono ?_
        rintro e w1 ⟨rfl, rfl⟩
        clear hd
        go_wp2_with fail
        go_ret
        exact ⟨rfl, rfl⟩
end Go.Proofs.YtlcnlfjjglcobaaDoor
