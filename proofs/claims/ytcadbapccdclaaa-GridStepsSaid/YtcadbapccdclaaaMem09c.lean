/- What Up tells lies in memory of its own: a contract. -/
import Derived.Test.YtcadbapccdclaaaMemH
import Derived.Test.YtcadbapccdclaaaMem09b
namespace Go.Proofs.Ytcadbapccdclaaa
open Go Go.RowKit
set_option linter.unusedVariables false
set_option linter.unusedSimpArgs false

/-- A row whose cells lie in no block below n. -/
def Fresh (n : Nat) (e : Rl) : Prop := e.r.cs ≠ [] → ∀ b o, e.A = some ⟨b, o, none⟩ → n ≤ b
/-- Rows of their own, each a row that was there, or a new one. -/
def NewG9 (W w' : World) (es e1 e2 : List Rl) (A1 A2 : Option Addr) (c1 c2 : Nat) : Prop :=
  OwnG w' W.heap.size A1 c1 e1 ∧ (∀ x ∈ e1, x ∈ es ∨ Fresh W.heap.size x) ∧ OwnG w' W.heap.size A2 c2 e2 ∧ ∀ x ∈ e2, x ∈ es
def Up9O : Prop := ∀ (A : Option Addr) (c : Nat) (es : List Rl) (t b n : Int) (p : Pn) (w : World), InG w A c es → RsOk (rws es) → I64 t → I64 b → I64 n → PnOk p →
  Calls Try.prog 9 #[.agg #[.slice A es.length c], .int .i64 t, .int .i64 b, .int .i64 n, pnV p] w fun e w' => ∃ A1 c1 e1 A2 c2 e2, e = .returned (.tuple #[.agg #[.slice A1 (List.length e1) c1], .slice A2 (List.length e2) c2]) ∧ (InG w' A1 c1 e1 ∧ rws e1 = upG (rws es) t b n p ∧ InG w' A2 c2 e2 ∧ rws e2 = goneG (rws es) t b n p ∧ Below w.heap.size w w') ∧ (MayG (rws es) t b p → NewG9 w w' es e1 e2 A1 A2 c1 c2)
theorem Up9O.c (h : Up9O) : Up9C := fun A c es t b n p w h1 h2 h3 h4 h5 h6 => (h A c es t b n p w h1 h2 h3 h4 h5 h6).mono fun e w' ⟨A1, c1, e1, A2, c2, e2, he, ⟨k1, k2, k3, k4, k5⟩, _⟩ => ⟨A1, c1, e1, A2, c2, e2, he, k1, k2, k3, k4, k5⟩
end Go.Proofs.Ytcadbapccdclaaa
