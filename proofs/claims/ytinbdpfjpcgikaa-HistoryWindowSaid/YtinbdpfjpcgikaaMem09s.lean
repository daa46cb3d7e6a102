/- Whether a grid may be, as a contract. -/
import Derived.Test.YtinbdpfjpcgikaaBase6
namespace Go.Proofs.Ytinbdpfjpcgikaa
open Go Go.RowKit
set_option linter.unusedVariables false
set_option linter.unusedSimpArgs false

def Sane9C : Prop := ∀ (A : Option Addr) (c : Nat) (es : List Rl) (w : World), InG w A c es → RsOk (rws es) → Calls Try.prog 35 #[.agg #[.slice A es.length c]] w fun e w' => e = .returned (.bool (decide (SaneG (rws es)))) ∧ Below w.heap.size w w'
theorem SaneG.ok {g : List Rw} (h : SaneG g) : RsOk g := fun r hr => (h.2 r hr).1.ok
end Go.Proofs.Ytinbdpfjpcgikaa
