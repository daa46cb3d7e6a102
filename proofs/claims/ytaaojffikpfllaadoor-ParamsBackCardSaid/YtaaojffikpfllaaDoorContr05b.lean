/- What Sane, Digit, Next, Sub are to be, as contracts. -/
import Derived.Test.YtaaojffikpfllaaDoorContr05
namespace Go.Proofs.YtaaojffikpfllaaDoor
open Go Go.RowKit
set_option linter.unusedVariables false
set_option linter.unusedSimpArgs false

/-- Nothing of it lies in block X. -/
def Off (X : Nat) (A : Option Addr) (es : List El) : Prop := (es ≠ [] → ∀ a, A = some a → a.block ≠ X) ∧ ∀ e ∈ es, e.q ≠ [] → ∀ a, e.A = some a → a.block ≠ X
theorem Off.nil {X : Nat} {A : Option Addr} : Off X A [] := ⟨fun h => absurd rfl h, by simp⟩
/-- What is told is new, or of what was given. -/
def GivesQ (p : Par) (A0 : Option Addr) (es0 : List El) (W : World) (e : Ending) (w' : World) : Prop :=
  ∃ A c es, e = .returned (.agg #[.slice A es.length c, .bool p.o]) ∧ InP w' A c es ∧ qs es = p.l ∧ (∀ X, X < W.heap.size → Off X A0 es0 → Off X A es) ∧ Below W.heap.size W w'
def SaneC : Prop := ∀ (A : Option Addr) (c : Nat) (es : List El) (o : Bool) (w : World), InP w A c es →
  Calls Tryd.prog 9 #[.agg #[.slice A es.length c, .bool o]] w fun e w' => e = .returned (.bool (decide (SaneP ⟨qs es, o⟩))) ∧ Below w.heap.size w w'
def DigitC : Prop := ∀ (A : Option Addr) (c : Nat) (es : List El) (o : Bool) (k : Nat) (w : World), k < 256 → InP w A c es →
  Calls Tryd.prog 13 #[.agg #[.slice A es.length c, .bool o], .int .u8 (k : Int)] w (GivesQ (digitP k ⟨qs es, o⟩) A es w)
def NextC : Prop := ∀ (A : Option Addr) (c : Nat) (es : List El) (o : Bool) (w : World), InP w A c es →
  Calls Tryd.prog 14 #[.agg #[.slice A es.length c, .bool o]] w (GivesQ (nextP ⟨qs es, o⟩) A es w)
def SubC : Prop := ∀ (A : Option Addr) (c : Nat) (es : List El) (o : Bool) (w : World), InP w A c es →
  Calls Tryd.prog 15 #[.agg #[.slice A es.length c, .bool o]] w (GivesQ (subP ⟨qs es, o⟩) A es w)

theorem Rd.off {α : Type} {f : α → Value} {w : World} {B : Nat} {A : Option Addr} {l : List α} (h : Rd f w B A l) {X : Nat} (ho : l ≠ [] → ∀ a, A = some a → a.block ≠ X) (p : Addr) (hp : p.block = X) (u : Value) : Rd f (w.setCell p u) B A l := fun hl => by
  obtain ⟨b, o, e, hB, hc⟩ := h hl
  have hne := ho hl _ e
  exact ⟨b, o, e, hB, fun k x hx => (World.cell?_setCell_other w p _ u (fun k => hne (by rw [← hp, k]))).trans (hc k x hx)⟩
theorem InP.off {w : World} {A : Option Addr} {c : Nat} {es : List El} (h : InP w A c es) {X : Nat} (ho : Off X A es) (p : Addr) (hp : p.block = X) (u : Value) : InP (w.setCell p u) A c es := by
  have e : (w.setCell p u).heap.size = w.heap.size := by simp [World.setCell]
  refine ⟨⟨?_, fun x hx => ⟨?_, (h.nest.2 x hx).cap, (h.nest.2 x hx).max⟩⟩, h.cap, h.max⟩
  · rw [e]; exact h.nest.1.off ho.1 p hp u
  · rw [e]; exact (h.nest.2 x hx).rd.off (ho.2 x hx) p hp u
end Go.Proofs.YtaaojffikpfllaaDoor
