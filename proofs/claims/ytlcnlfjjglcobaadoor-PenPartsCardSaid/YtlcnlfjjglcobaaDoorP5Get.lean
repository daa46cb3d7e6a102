/- Get: the first number of the k-th, or the usual one. -/
import Derived.Test.YtlcnlfjjglcobaaDoorPar05g
namespace Go.Proofs.YtlcnlfjjglcobaaDoor
open Go Go.RowKit
set_option linter.unusedVariables false
set_option linter.unusedSimpArgs false

set_option maxRecDepth 100000 in
set_option maxHeartbeats 2000000 in
theorem get_c : GetC := by
  intro A c es k usual w hin
  have hl := hin.len
  unfold maxLen at hl
  by_cases h0 : k < 0
  · have e : getP (qs es) k usual = usual := by unfold getP; rw [if_neg (by omega)]
    rw [e]
    go_enter Tryd.func13, Tryd.ntmps13
    go_wp2_with fail
    go_ret
    exact ⟨rfl, (Below.refl _ _)⟩
  · obtain ⟨m, rfl⟩ : ∃ m : Nat, k = (m : Int) := ⟨k.toNat, by omega⟩
    have ek : getP (qs es) (m : Int) usual = (match (qs es)[m]? with | some (n :: _) => if n = -1 then usual else n | _ => usual) := by
      unfold getP; rw [if_pos (by omega), Int.toNat_natCast]; rfl
    rw [ek]
    by_cases h1 : es.length ≤ m
    · have e : (qs es)[m]? = none := by rw [List.getElem?_eq_none_iff, qs_length]; exact h1
      rw [e]
      clear ek h0 e
      go_enter Tryd.func13, Tryd.ntmps13
      go_wp2_with fail
      go_ret
      exact ⟨rfl, (Below.refl _ _)⟩
    · obtain ⟨e, hx⟩ : ∃ e, es[m]? = some e := ⟨_, List.getElem?_eq_getElem (by omega)⟩
      rw [qs_at hx]
      obtain ⟨b, o, rfl, hb, hc, ok⟩ := hin.nest.at_ hx
      have hcap := ok.cap
      have hmax := ok.max
      unfold maxLen at hmax
      by_cases hq : e.q = []
      · rw [hq] at hc ⊢
        simp only [List.length_nil] at hc
        clear ek h0 hx hcap ok
        go_enter Tryd.func13, Tryd.ntmps13
        go_wp2_with fail
        go_ret
        exact ⟨rfl, (Below.refl _ _)⟩
      · obtain ⟨n, t, hn⟩ := List.exists_cons_of_ne_nil hq
        obtain ⟨b', o', ha, hb', hc'⟩ := ok.rd.at_ (k := 0) (x := n) (by rw [hn]; rfl)
        unfold intV at hc'
        rw [ha] at hc
        rw [hn] at hc hcap ⊢
        simp only [List.length_cons, Nat.add_zero] at hc hc' hcap
        dsimp only
        clear ek h0 hx ha ok hq
        by_cases h2 : n = -1
        · rw [if_pos h2]
          subst h2
          go_enter Tryd.func13, Tryd.ntmps13
          go_wp2_with fail
          go_ret
          exact ⟨rfl, (Below.refl _ _)⟩
        · rw [if_neg h2]
          have h3 : (n == -1) = false := by simpa using h2
          have h4 : decide ((m : Int) < 0) = false := decide_eq_false (by omega)
          have h5 : ((t.length : Int) + 1 == 0) = false := beq_eq_false_iff_ne.2 (by omega)
          go_enter Tryd.func13, Tryd.ntmps13
          go_wp2_with fail
          go_ret
          exact ⟨rfl, (Below.refl _ _)⟩
end Go.Proofs.YtlcnlfjjglcobaaDoor
