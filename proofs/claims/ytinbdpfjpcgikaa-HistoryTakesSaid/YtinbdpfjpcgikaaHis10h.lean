/- Package history, walked: the rows ahead of the last ones. -/
import Derived.Test.YtinbdpfjpcgikaaBase6
namespace Go.Proofs.Ytinbdpfjpcgikaa
open Go Go.RowKit
set_option linter.unusedVariables false
set_option linter.unusedSimpArgs false

set_option maxRecDepth 100000 in
set_option maxHeartbeats 1000000 in
theorem ahead10_c (A : Option Addr) (c : Nat) (es : List Rl) (n : Int) (w : World) (hin : InG w A c es) (hn : I64 n) (hl : es.length ≤ 1000000) :
    Calls Try.prog 31 #[.slice A es.length c, .int .i64 n] w fun e w' => ∃ B d, e = .returned (.slice B (es.take (fromL n es.length)).length d) ∧ InG w' B d (es.take (fromL n es.length)) ∧ w = w' := by
  obtain ⟨K, hK, hw⟩ := within_from n es.length w hn (by omega)
  obtain ⟨hcut, hB⟩ := hin.ahead3 (fromL_le n es.length)
  generalize fromL n es.length = M at *
  generalize es.take M = ds at *
  generalize es.length = N at *
  have HB := Lib.hid hB
  clear hB hin
  go_enter Try.func31, Try.ntmps31
  go_wp2_with fail
  refine hw.mono ?_
  rintro e v1 ⟨rfl, rfl⟩
  clear hw
  go_wp2_with fail
  go_ret
  exact ⟨A, _, rfl, HB.out, rfl⟩
end Go.Proofs.Ytinbdpfjpcgikaa
