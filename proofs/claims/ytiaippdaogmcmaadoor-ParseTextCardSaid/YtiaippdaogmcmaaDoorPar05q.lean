/- What calls that change a list of parameters are to be, as contracts. -/
import Derived.Test.YtiaippdaogmcmaaDoorPar05
namespace Go.Proofs.YtiaippdaogmcmaaDoor
open Go Go.RowKit
set_option linter.unusedVariables false
set_option linter.unusedSimpArgs false

def SaneC : Prop := ∀ (A : Option Addr) (c : Nat) (es : List El) (o : Bool) (w : World), InP w A c es →
  Calls Tryd.prog 23 #[.agg #[.slice A es.length c, .bool o]] w fun e w' => e = .returned (.bool (decide (SaneP ⟨qs es, o⟩))) ∧ Below w.heap.size w w'
def DigitC : Prop := ∀ (A : Option Addr) (c : Nat) (es : List El) (o : Bool) (k : Nat) (w : World), k < 256 → InP w A c es →
  Calls Tryd.prog 62 #[.agg #[.slice A es.length c, .bool o], .int .u8 (k : Int)] w (GivesQ (digitP k ⟨qs es, o⟩) A es w)
def NextC : Prop := ∀ (A : Option Addr) (c : Nat) (es : List El) (o : Bool) (w : World), InP w A c es →
  Calls Tryd.prog 60 #[.agg #[.slice A es.length c, .bool o]] w (GivesQ (nextP ⟨qs es, o⟩) A es w)
def SubC : Prop := ∀ (A : Option Addr) (c : Nat) (es : List El) (o : Bool) (w : World), InP w A c es →
  Calls Tryd.prog 61 #[.agg #[.slice A es.length c, .bool o]] w (GivesQ (subP ⟨qs es, o⟩) A es w)
end Go.Proofs.YtiaippdaogmcmaaDoor
