/- Letters and Length, as contracts. -/
import Derived.Test.YtflpelpgnjdnkaaMem08
import Derived.Test.YtflpelpgnjdnkaaMath08c
import Derived.Test.YtflpelpgnjdnkaaAppR
namespace Go.Proofs.Ytflpelpgnjdnkaa
open Go Go.RowKit
set_option linter.unusedVariables false
set_option linter.unusedSimpArgs false

def GivesI (l : List Int) (W : World) (e : Ending) (w' : World) : Prop := ∃ B d, e = .returned (.slice B l.length d) ∧ Its w' w'.heap.size B l ∧ l.length ≤ d ∧ d ≤ maxLen ∧ Below W.heap.size W w'
def Letters8C : Prop := ∀ (r : Rw) (A : Option Addr) (c : Nat) (a b : Int) (w : World), InC w A c r.cs → RwOk r → I64 a → I64 b → Calls Try.prog 14 #[rwV r A c, .int .i64 a, .int .i64 b] w (GivesI (lettersR r a b) w)
def Length8C : Prop := ∀ (r : Rw) (A : Option Addr) (c : Nat) (w : World), InC w A c r.cs → RwOk r → Calls Try.prog 15 #[rwV r A c] w fun e w' => e = .returned (.int .i64 (lengthR r : Int)) ∧ Below w.heap.size w w'
end Go.Proofs.Ytflpelpgnjdnkaa
