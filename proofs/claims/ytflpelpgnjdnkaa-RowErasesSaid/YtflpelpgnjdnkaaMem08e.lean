/- Erase, as a contract. -/
import Derived.Test.YtflpelpgnjdnkaaMem08
import Derived.Test.YtflpelpgnjdnkaaMath08b
namespace Go.Proofs.Ytflpelpgnjdnkaa
open Go Go.RowKit
set_option linter.unusedVariables false
set_option linter.unusedSimpArgs false

def Erase8C : Prop := ∀ (r : Rw) (A : Option Addr) (c : Nat) (a b : Int) (p : Pn) (w : World), InC w A c r.cs → RwOk r → I64 a → I64 b → PnOk p → Calls Try.prog 17 #[rwV r A c, .int .i64 a, .int .i64 b, pnV p] w (GivesRow (eraseR r a b p) w)
end Go.Proofs.Ytflpelpgnjdnkaa
