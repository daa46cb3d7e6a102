/- What calls of package params are to be, as contracts. -/
import Derived.Test.YtlcnlfjjglcobaaDoorStr5
import Derived.Test.YtlcnlfjjglcobaaDoorChecked
import Derived.Test.YtlcnlfjjglcobaaDoorReg
import Derived.Deep.DeepCutAuto
namespace Go.Proofs.YtlcnlfjjglcobaaDoor
open Go Go.RowKit
set_option linter.unusedVariables false
set_option linter.unusedSimpArgs false

structure InP (w : World) (A : Option Addr) (c : Nat) (es : List El) : Prop where
  nest : Nest w w.heap.size A es
  cap : es.length ≤ c
  max : c ≤ maxLen
theorem InP.on {w w' : World} {A : Option Addr} {c : Nat} {es : List El} (h : InP w A c es) (hb : Below w.heap.size w w') : InP w' A c es := ⟨h.nest.on hb, h.cap, h.max⟩
theorem InP.len {w : World} {A : Option Addr} {c : Nat} {es : List El} (h : InP w A c es) : es.length ≤ maxLen := Nat.le_trans h.cap h.max
/-- A list of parameters is told. -/
def GivesP (p : Par) (W : World) (e : Ending) (w' : World) : Prop := ∃ A c es, e = .returned (.agg #[.slice A es.length c, .bool p.o]) ∧ InP w' A c es ∧ qs es = p.l ∧ Below W.heap.size W w'
/-- What a text's parameters are, or an error. -/
def GivesL (r : Option (List (List Int))) (W : World) (e : Ending) (w' : World) : Prop :=
  match r with
  | some l => ∃ A c es, e = .returned (.tuple #[.slice A es.length c, .int .i64 0]) ∧ InP w' A c es ∧ qs es = l ∧ Below W.heap.size W w'
  | none => ∃ A c, e = .returned (.tuple #[.slice A 0 c, .int .i64 2]) ∧ Below W.heap.size W w'
def ParseC : Prop := ∀ (bs : List Nat) (w : World), (∀ c ∈ bs, c < 256) → bs.length ≤ 600 → Calls Tryd.prog 16 #[.string (strS bs)] w (GivesL (parseP bs) w)
/-- Nothing of it lies in block X. -/
def Off (X : Nat) (A : Option Addr) (es : List El) : Prop := (es ≠ [] → ∀ a, A = some a → a.block ≠ X) ∧ ∀ e ∈ es, e.q ≠ [] → ∀ a, e.A = some a → a.block ≠ X
theorem Off.nil {X : Nat} {A : Option Addr} : Off X A [] := ⟨fun h => absurd rfl h, by simp⟩
/-- What is told is new, or of what was given. -/
def GivesQ (p : Par) (A0 : Option Addr) (es0 : List El) (W : World) (e : Ending) (w' : World) : Prop :=
  ∃ A c es, e = .returned (.agg #[.slice A es.length c, .bool p.o]) ∧ InP w' A c es ∧ qs es = p.l ∧ (∀ X, X < W.heap.size → Off X A0 es0 → Off X A es) ∧ Below W.heap.size W w'

theorem Rd.off {α : Type} {f : α → Value} {w : World} {B : Nat} {A : Option Addr} {l : List α} (h : Rd f w B A l) {X : Nat} (ho : l ≠ [] → ∀ a, A = some a → a.block ≠ X) (p : Addr) (hp : p.block = X) (u : Value) : Rd f (w.setCell p u) B A l := fun hl => by
  obtain ⟨b, o, e, hB, hc⟩ := h hl
  have hne := ho hl _ e
  exact ⟨b, o, e, hB, fun k x hx => (World.cell?_setCell_other w p _ u (fun k => hne (by rw [← hp, k]))).trans (hc k x hx)⟩
theorem InP.off {w : World} {A : Option Addr} {c : Nat} {es : List El} (h : InP w A c es) {X : Nat} (ho : Off X A es) (p : Addr) (hp : p.block = X) (u : Value) : InP (w.setCell p u) A c es := by
  have e : (w.setCell p u).heap.size = w.heap.size := by simp [World.setCell]
  refine ⟨⟨?_, fun x hx => ⟨?_, (h.nest.2 x hx).cap, (h.nest.2 x hx).max⟩⟩, h.cap, h.max⟩
  · rw [e]; exact h.nest.1.off ho.1 p hp u
  · rw [e]; exact (h.nest.2 x hx).rd.off (ho.2 x hx) p hp u
end Go.Proofs.YtlcnlfjjglcobaaDoor
