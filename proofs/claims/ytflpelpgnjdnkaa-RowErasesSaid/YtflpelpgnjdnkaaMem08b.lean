/- New and Put, as contracts. -/
import Derived.Test.YtflpelpgnjdnkaaMem08
namespace Go.Proofs.Ytflpelpgnjdnkaa
open Go Go.RowKit
set_option linter.unusedVariables false
set_option linter.unusedSimpArgs false

def New8C : Prop := ∀ (n : Int) (p : Pn) (w : World), I64 n → PnOk p → Calls Try.prog 18 #[.int .i64 n, pnV p] w (GivesRow (newR n p) w)
def Put8C : Prop := ∀ (r : Rw) (A : Option Addr) (c : Nat) (k : Int) (x : Cl) (w : World), InC w A c r.cs → RwOk r → I64 k → ClOk x → Calls Try.prog 9 #[rwV r A c, .int .i64 k, clV x] w (GivesRow (putR r k x) w)
end Go.Proofs.Ytflpelpgnjdnkaa
