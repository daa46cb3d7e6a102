/- Package grid's calls, as contracts. -/
import Derived.Test.YtcadbapccdclaaaMem09
import Derived.Test.YtcadbapccdclaaaMath09
namespace Go.Proofs.Ytcadbapccdclaaa
open Go Go.RowKit
set_option linter.unusedVariables false
set_option linter.unusedSimpArgs false

/-- A grid is told. -/
def GivesGr (l : List Rw) (W : World) (e : Ending) (w' : World) : Prop := ∃ A c es, e = .returned (.agg #[.slice A (List.length es) c]) ∧ InG w' A c es ∧ rws es = l ∧ Below W.heap.size W w'
def New9C : Prop := ∀ (h n : Int) (p : Pn) (w : World), I64 h → I64 n → PnOk p → Calls Try.prog 17 #[.int .i64 h, .int .i64 n, pnV p] w (GivesGr (newG h n p) w)
def Sane9C : Prop := ∀ (A : Option Addr) (c : Nat) (es : List Rl) (w : World), InG w A c es → RsOk (rws es) → Calls Try.prog 8 #[.agg #[.slice A es.length c]] w fun e w' => e = .returned (.bool (decide (SaneG (rws es)))) ∧ Below w.heap.size w w'
def Size9C : Prop := ∀ (A : Option Addr) (c : Nat) (es : List Rl) (w : World), InG w A c es → RsOk (rws es) → Calls Try.prog 18 #[.agg #[.slice A es.length c]] w fun e w' => e = .returned (.tuple #[.int .i64 (sizeG (rws es)).1, .int .i64 (sizeG (rws es)).2]) ∧ Below w.heap.size w w'
def Up9C : Prop := ∀ (A : Option Addr) (c : Nat) (es : List Rl) (t b n : Int) (p : Pn) (w : World), InG w A c es → RsOk (rws es) → I64 t → I64 b → I64 n → PnOk p →
  Calls Try.prog 9 #[.agg #[.slice A es.length c], .int .i64 t, .int .i64 b, .int .i64 n, pnV p] w fun e w' => ∃ A1 c1 e1 A2 c2 e2, e = .returned (.tuple #[.agg #[.slice A1 (List.length e1) c1], .slice A2 (List.length e2) c2]) ∧ InG w' A1 c1 e1 ∧ rws e1 = upG (rws es) t b n p ∧ InG w' A2 c2 e2 ∧ rws e2 = goneG (rws es) t b n p ∧ Below w.heap.size w w'
def Down9C : Prop := ∀ (A : Option Addr) (c : Nat) (es : List Rl) (t b n : Int) (p : Pn) (w : World), InG w A c es → RsOk (rws es) → I64 t → I64 b → I64 n → PnOk p →
  Calls Try.prog 10 #[.agg #[.slice A es.length c], .int .i64 t, .int .i64 b, .int .i64 n, pnV p] w (GivesGr (downG (rws es) t b n p) w)
def Set9C : Prop := ∀ (A : Option Addr) (c : Nat) (es : List Rl) (y : Int) (x : Rl) (w : World), InG w A c es → RsOk (rws es) → I64 y → InC w x.A x.c x.r.cs → RwOk x.r →
  Calls Try.prog 13 #[.agg #[.slice A es.length c], .int .i64 y, rlV x] w (GivesGr (setG (rws es) y x.r) w)
def Clear9C : Prop := ∀ (A : Option Addr) (c : Nat) (es : List Rl) (a b : Int) (p : Pn) (w : World), InG w A c es → RsOk (rws es) → I64 a → I64 b → PnOk p →
  Calls Try.prog 15 #[.agg #[.slice A es.length c], .int .i64 a, .int .i64 b, pnV p] w (GivesGr (clearG (rws es) a b p) w)
theorem SaneG.ok {g : List Rw} (h : SaneG g) : RsOk g := fun r hr => (h.2 r hr).1.ok
end Go.Proofs.Ytcadbapccdclaaa
