/- Insert and Delete, as contracts. -/
import Derived.Test.YtflpelpgnjdnkaaMem08
import Derived.Test.YtflpelpgnjdnkaaMath08c
namespace Go.Proofs.Ytflpelpgnjdnkaa
open Go Go.RowKit
set_option linter.unusedVariables false
set_option linter.unusedSimpArgs false

def Insert8C : Prop := ∀ (r : Rw) (A : Option Addr) (c : Nat) (k n t : Int) (p : Pn) (w : World), InC w A c r.cs → RwOk r → I64 k → I64 n → I64 t → PnOk p → Calls Try.prog 12 #[rwV r A c, .int .i64 k, .int .i64 n, .int .i64 t, pnV p] w (GivesRow (insR r k n t p) w)
def Delete8C : Prop := ∀ (r : Rw) (A : Option Addr) (c : Nat) (k n t : Int) (p : Pn) (w : World), InC w A c r.cs → RwOk r → I64 k → I64 n → I64 t → PnOk p → Calls Try.prog 13 #[rwV r A c, .int .i64 k, .int .i64 n, .int .i64 t, pnV p] w (GivesRow (delR r k n t p) w)
end Go.Proofs.Ytflpelpgnjdnkaa
