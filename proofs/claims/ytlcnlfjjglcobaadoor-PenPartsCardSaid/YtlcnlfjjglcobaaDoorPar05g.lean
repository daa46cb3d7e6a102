/- Get's contract. -/
import Derived.Test.YtlcnlfjjglcobaaDoorPar05
namespace Go.Proofs.YtlcnlfjjglcobaaDoor
open Go Go.RowKit
set_option linter.unusedVariables false
set_option linter.unusedSimpArgs false

def getP (l : List (List Int)) (k usual : Int) : Int := if 0 ≤ k then (match l[k.toNat]? with | some (n :: _) => if n = -1 then usual else n | _ => usual) else usual
def GetC : Prop := ∀ (A : Option Addr) (c : Nat) (es : List El) (k usual : Int) (w : World), InP w A c es → Calls Tryd.prog 13 #[.slice A es.length c, .int .i64 k, .int .i64 usual] w fun e w' => e = .returned (.int .i64 (getP (qs es) k usual)) ∧ Below w.heap.size w w'

end Go.Proofs.YtlcnlfjjglcobaaDoor
