/- Pens as values; what calls of package pen are to be, as contracts. -/
import Derived.Test.YtlcnlfjjglcobaaDoorMath07d
import Derived.Test.YtlcnlfjjglcobaaDoorPen7
import Derived.Test.YtlcnlfjjglcobaaDoorPar05
import Derived.Test.YtlcnlfjjglcobaaDoorBitsR
namespace Go.Proofs.YtlcnlfjjglcobaaDoor
open Go Go.RowKit
set_option linter.unusedVariables false
set_option linter.unusedSimpArgs false

def Nums (l : List (List Int)) : Prop := ∀ q ∈ l, ∀ x ∈ q, I64 x
theorem shade_nums (c back : Int) (hb : back = 0 ∨ back = 10) : Nums (shadeN c back) := by
  intro q hq x hx
  unfold shadeN at hq
  unfold I64
  split at hq
  · rw [List.mem_singleton] at hq; subst hq; rw [List.mem_singleton] at hx; subst hx; omega
  split at hq
  · rw [List.mem_singleton] at hq; subst hq; rw [List.mem_singleton] at hx; subst hx; omega
  split at hq
  · simp only [List.mem_cons, List.not_mem_nil, or_false] at hq
    rcases hq with rfl | rfl | rfl <;> (rw [List.mem_singleton] at hx; subst hx; omega)
  split at hq
  · simp only [List.mem_cons, List.not_mem_nil, or_false] at hq
    rcases hq with rfl | rfl | rfl | rfl | rfl <;> (rw [List.mem_singleton] at hx; subst hx; omega)
  · simp at hq
theorem print_nums (p : Pn) : Nums (printN p) := by
  intro q hq x hx
  unfold printN at hq
  split at hq
  · simp only [List.cons_append, List.mem_cons, List.mem_append] at hq
    rcases hq with rfl | (hq | hq) | hq
    · rw [List.mem_singleton] at hx; subst hx; unfold I64; omega
    · unfold flagsN at hq
      obtain ⟨y, hy, rfl⟩ := List.mem_map.1 hq
      have := bits_nums y (List.mem_filter.1 hy).1
      rw [List.mem_singleton] at hx; subst hx; unfold I64; omega
    · exact shade_nums _ _ (.inl rfl) q hq x hx
    · exact shade_nums _ _ (.inr rfl) q hq x hx
  · simp at hq
theorem Box.three {W : World} {g : Nat} {t : TypeId} {a b c : Value} (h : Box W g t #[a, b, c]) :
    (W.cell? ⟨g, 0, none⟩ = some a ∧ W.cell? ⟨g, 1, none⟩ = some b ∧ W.cell? ⟨g, 2, none⟩ = some c) ∧ W.frozen? ⟨g, 0, none⟩ = false ∧ W.frozen? ⟨g, 1, none⟩ = false ∧ W.frozen? ⟨g, 2, none⟩ = false :=
  ⟨⟨h.cell 0, h.cell 1, h.cell 2⟩, h.free 0, h.free 1, h.free 2⟩
/-- Parameters are told, in no older block. -/
def GivesM (l : List (List Int)) (W : World) (e : Ending) (w' : World) : Prop := ∃ A c es, e = .returned (.slice A es.length c) ∧ InP w' A c es ∧ qs es = l ∧ (∀ X, X < W.heap.size → Off X A es) ∧ Below W.heap.size W w'
def Sane7C : Prop := ∀ (p : Pn) (w : World), PnOk p → Calls Tryd.prog 9 #[pnV p] w fun e w' => e = .returned (.bool (decide (SaneN p))) ∧ Below w.heap.size w w'
/-- The table of the flags lies in memory: a flag, the number that sets it, the one that takes it away. -/

def togC : List Value := rowsT.flatMap fun x => [.int .i64 x.1, .int .i64 x.2.1, .int .i64 x.2.2]
def Tog (w : World) : Prop := ∀ k v, togC[k]? = some v → w.cell? ⟨0, k, none⟩ = some v
theorem Tog.size {w : World} (h : Tog w) : 0 < w.heap.size := World.block_lt_of_cell? w _ (h 0 (.int .i64 1) rfl)
theorem Tog.below {w w' : World} {B : Nat} (h : Tog w) (hb : Below B w w') (h2 : 0 < B) : Tog w' := fun k v hv => (hb.cell (by exact h2)).trans (h k v hv)
theorem Tog.on {w w' : World} (h : Tog w) (hb : Below w.heap.size w w') : Tog w' := h.below hb h.size
def Apply7C : Prop := ∀ (p : Pn) (A : Option Addr) (c : Nat) (es : List El) (w : World), PnOk p → InP w A c es → Nums (qs es) → Tog w →
  Calls Tryd.prog 11 #[pnV p, .slice A es.length c] w fun e w' => e = .returned (pnV (applyN p (qs es))) ∧ Below w.heap.size w w'
def Print7C : Prop := ∀ (p : Pn) (w : World), PnOk p → Tog w → Calls Tryd.prog 10 #[pnV p] w (GivesM (printN p) w)
theorem Box.pen {w : World} {a b c : Value} : Box (w.alloc (.cells #[a, b, c] 23)) w.heap.size 23 #[a, b, c] := Box.new w 23 _
end Go.Proofs.YtlcnlfjjglcobaaDoor
