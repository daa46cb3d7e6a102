/- Rows of three numbers in memory: a slice that reads as a list of rows. -/
import Derived.WalkKit
import Derived.Lib.Hide
import Derived.Deep.Draws
import Derived.Test.YtcadbapccdclaaaPlain01
namespace Go.Proofs.Ytcadbapccdclaaa
set_option linter.unusedVariables false
set_option linter.unusedSimpArgs false
open Go Go.RowKit

theorem ret_int {k : IntKind} {a b : Int} (h : a = b) : Ending.returned (.int k a) = .returned (.int k b) := by rw [h]
theorem ret_bool {a b : Bool} (h : a = b) : Ending.returned (.bool a) = .returned (.bool b) := by rw [h]

def At3 (w : World) (b o k : Nat) (r : R3) : Prop :=
  w.cell? ⟨b, o + k*3, none⟩ = some (.int .i64 r.lo) ∧ w.cell? ⟨b, o + k*3 + 1, none⟩ = some (.int .i64 r.hi) ∧ w.cell? ⟨b, o + k*3 + 2, none⟩ = some (.int .i64 r.v)
def Tab (w : World) (B : Nat) (A : Option Addr) (l : List R3) : Prop :=
  l ≠ [] → ∃ b o, A = some ⟨b, o, none⟩ ∧ b < B ∧ ∀ k x, l[k]? = some x → At3 w b o k x

theorem At3.below {w w' : World} {B b o k : Nat} {r : R3} (h : At3 w b o k r) (hb : Below B w w') (hl : b < B) : At3 w' b o k r :=
  ⟨(hb.cell (by exact hl)).trans h.1, (hb.cell (by exact hl)).trans h.2.1, (hb.cell (by exact hl)).trans h.2.2⟩
theorem Tab.nil {w : World} {B : Nat} {A : Option Addr} : Tab w B A [] := fun h => absurd rfl h
theorem Tab.below {w w' : World} {B : Nat} {A : Option Addr} {l : List R3} (h : Tab w B A l) (hb : Below B w w') : Tab w' B A l := fun hl => by
  obtain ⟨b, o, e, hB, hc⟩ := h hl
  exact ⟨b, o, e, hB, fun k x hx => (hc k x hx).below hb hB⟩
theorem Tab.more {w : World} {B B' : Nat} {A : Option Addr} {l : List R3} (h : Tab w B A l) (hb : B ≤ B') : Tab w B' A l := fun hl => by
  obtain ⟨b, o, e, hB, hc⟩ := h hl
  exact ⟨b, o, e, by omega, hc⟩
theorem Tab.at_ {w : World} {B : Nat} {A : Option Addr} {l : List R3} {k : Nat} {x : R3} (h : Tab w B A l) (hx : l[k]? = some x) : ∃ b o, A = some ⟨b, o, none⟩ ∧ b < B ∧ At3 w b o k x := by
  obtain ⟨b, o, e, hB, hc⟩ := h (by rintro rfl; simp at hx)
  exact ⟨b, o, e, hB, hc k x hx⟩
/-- Block g is just the cells cs, none frozen. -/
def Box (w : World) (g : Nat) (t : TypeId) (cs : Array Value) : Prop := w.heap[g]? = some (.cells cs t (0, 0))
section
variable {w w' : World} {g : Nat} {t : TypeId} {cs : Array Value}
theorem Box.lt (h : Box w g t cs) : g < w.heap.size := (Array.getElem?_eq_some_iff.1 h).1
theorem Box.new (w : World) (t : TypeId) (cs : Array Value) : Box (w.alloc (.cells cs t)) w.heap.size t cs := heap_alloc_new w _
theorem Box.below {B : Nat} (h : Box w g t cs) (hb : Below B w w') (hg : g < B) : Box w' g t cs := (hb.block g hg).trans h
theorem Box.alloc (h : Box w g t cs) (o : Obj) : Box (w.alloc o) g t cs := (Below.heap_alloc w o g h.lt).trans h
theorem Box.drew (h : Box w g t cs) : Box w.drew g t cs := h
theorem Box.drewN (h : Box w g t cs) (n : Nat) : Box (w.drewN n) g t cs := h
theorem Box.cell (h : Box w g t cs) (i : Nat) : w.cell? ⟨g, i, none⟩ = cs[i]? := cell_of_row w g i cs t (0, 0) h
theorem Box.free (h : Box w g t cs) (i : Nat) : w.frozen? ⟨g, i, none⟩ = false := frozen_of_row w g i cs t h
theorem Box.set_ (h : Box w g t cs) (i : Nat) (u : Value) : Box (w.setCell ⟨g, i, none⟩ u) g t (cs.setIfInBounds i u) := by
  unfold Box at h ⊢
  simp [World.setCell, Array.getElem?_modify, h]
theorem Box.far (h : Box w g t cs) {p : Addr} (hp : g ≠ p.block) (u : Value) : Box (w.setCell p u) g t cs := (Below.heap_setCell w p u g hp).trans h
theorem Box.grown {row : Option Nat} (h : Box w g t cs) (hb : w.grownBy w' row) (hg : some g ≠ row) : Box w' g t cs := (hb.block g h.lt hg).trans h
end
theorem Tab.setCell {w : World} {B : Nat} {A : Option Addr} {l : List R3} (h : Tab w B A l) {p : Addr} (u : Value) (hp : ∀ b o, A = some ⟨b, o, none⟩ → b ≠ p.block) : Tab (w.setCell p u) B A l := fun hl => by
  obtain ⟨b, o, e, hB, hc⟩ := h hl
  have hne := hp b o e
  have keep : ∀ i, (w.setCell p u).cell? ⟨b, i, none⟩ = w.cell? ⟨b, i, none⟩ := fun i => World.cell?_setCell_other w p _ u (fun e => hne (by rw [e]))
  exact ⟨b, o, e, hB, fun k x hx => ⟨(keep _).trans (hc k x hx).1, (keep _).trans (hc k x hx).2.1, (keep _).trans (hc k x hx).2.2⟩⟩
def rowCells (r : R3) : List Value := [.int .i64 r.lo, .int .i64 r.hi, .int .i64 r.v]
def flat (l : List R3) : List Value := l.flatMap rowCells
theorem flat_length (l : List R3) : (flat l).length = l.length * 3 := by
  induction l with
  | nil => rfl
  | cons x l ih => simp [flat, rowCells] at ih ⊢; omega
theorem flat_append (a b : List R3) : flat (a ++ b) = flat a ++ flat b := by simp [flat]
theorem flat_at {l : List R3} {k : Nat} {x : R3} (h : l[k]? = some x) (j : Nat) (hj : j < 3) : (flat l)[k * 3 + j]? = (rowCells x)[j]? := by
  induction l generalizing k with
  | nil => simp at h
  | cons y l ih =>
    have e : flat (y :: l) = rowCells y ++ flat l := by simp [flat]
    rw [e]
    cases k with
    | zero =>
      simp at h; subst h
      rw [List.getElem?_append_left (by simp [rowCells]; omega)]
      simp
    | succ k =>
      simp at h
      rw [List.getElem?_append_right (by simp [rowCells]; omega), ← ih h]
      congr 1
      simp [rowCells]; omega
theorem Tab.of_own {w : World} {base : Nat} {e : TypeId} {A : Option Addr} {n c : Nat} {l : List R3} (h : w.ownsRow base e 3 (.slice A n c) n (flat l)) : Tab w w.heap.size A l := fun hl => by
  obtain ⟨x, t, rfl⟩ := List.exists_cons_of_ne_nil hl
  rcases h.2 with ⟨hv, hn⟩ | ⟨g, cap, cur, hv, hb, hg, hnc, hcm, hcs, ht⟩
  · have := h.1; subst hn; simp [flat, rowCells] at this
  · injection hv with h1 h2 h3
    subst h1
    refine ⟨g, 0, rfl, (Array.getElem?_eq_some_iff.1 hg).1, fun k y hy => ?_⟩
    have key : ∀ j, j < 3 → w.cell? ⟨g, 0 + k * 3 + j, none⟩ = (rowCells y)[j]? := fun j hj => by
      have hfa := flat_at hy j hj
      have hin : (rowCells y)[j]? = some ((rowCells y)[j]'(by simp [rowCells]; omega)) := List.getElem?_eq_getElem _
      rw [hin] at hfa ⊢
      have := h.cells (g := g) rfl (k * 3 + j) _ hfa
      rw [← this]
      congr 1
      unfold Addr.add; split <;> simp_all <;> omega
    exact ⟨by simpa [rowCells] using key 0 (by omega), by simpa [rowCells] using key 1 (by omega), by simpa [rowCells] using key 2 (by omega)⟩

theorem own_cases {w : World} {base : Nat} {e : TypeId} {v : Value} {n : Nat} {l : List R3} (h : w.ownsRow base e 3 v n (flat l)) :
    n = l.length ∧ (l = [] ∨ ∃ g cap, l ≠ [] ∧ v = .slice (some ⟨g, 0, none⟩) n cap ∧ base ≤ g ∧ g < w.heap.size ∧ n ≤ cap ∧ (∀ k x, l[k]? = some x → At3 w g 0 k x) ∧ ∀ i, w.frozen? ⟨g, i, none⟩ = false) := by
  have hn : n = l.length := by
    have := h.1
    rw [flat_length] at this
    omega
  refine ⟨hn, ?_⟩
  rcases h.2 with ⟨rfl, h0⟩ | ⟨g, cap, cur, rfl, hb, hg, hnc, hcm, hcs, ht⟩
  · left; exact List.eq_nil_of_length_eq_zero (by omega)
  · by_cases hl : l = []
    · exact .inl hl
    · right
      have hT := Tab.of_own h
      obtain ⟨b, o, e1, _, hc⟩ := hT hl
      injection e1 with e1; injection e1 with e2 e3; subst e2; subst e3
      exact ⟨g, cap, hl, rfl, hb, (Array.getElem?_eq_some_iff.1 hg).1, hnc, hc, fun i => frozen_of_row w g i cur e hg⟩

theorem own_set {w : World} {base : Nat} {e : TypeId} {size g n cap j : Nat} {xs : List Value} (h : w.ownsRow base e size (.slice (some ⟨g, 0, none⟩) n cap) n xs) (hj : j < n * size) (u : Value) :
    (w.setCell ⟨g, j, none⟩ u).ownsRow base e size (.slice (some ⟨g, 0, none⟩) n cap) n (xs.set j u) := by
  refine ⟨by rw [List.length_set]; exact h.1, .inr ?_⟩
  rcases h.2 with ⟨hv, _⟩ | ⟨g', cap', cur, hv, hb, hg, hnc, hcm, hcs, ht⟩
  · injection hv with h1; cases h1
  · injection hv with h1 h2 h3; injection h1 with h1; injection h1 with h1; subst h1; subst h3
    refine ⟨g, cap, cur.setIfInBounds j u, rfl, hb, ?_, hnc, hcm, by simpa using hcs, ?_⟩
    · simp [World.setCell, Array.getElem?_modify, hg]
    · rw [Array.toList_setIfInBounds, ← ht, List.take_set]
theorem flat_set_hi (pre : List R3) (y : R3) (hi : Int) : (flat (pre ++ [y])).set (pre.length * 3 + 1) (.int .i64 hi) = flat (pre ++ [⟨y.lo, hi, y.v⟩]) := by
  rw [flat_append, flat_append, List.set_append_right _ _ (by rw [flat_length]; omega), flat_length]
  congr 1
  simp [flat, rowCells]
theorem news (w : World) (t : TypeId) (x : R3) : ∀ j u, (rowCells x)[j]? = some u → (w.alloc (.cells #[.int .i64 x.lo, .int .i64 x.hi, .int .i64 x.v] t)).cell? ((⟨w.heap.size, 0, none⟩ : Addr).add j) = some u := by
  intro j u hj
  have e : (⟨w.heap.size, 0, none⟩ : Addr).add j = ⟨w.heap.size, j, none⟩ := by unfold Addr.add; split <;> simp_all
  rw [e, cell_of_row _ _ _ _ _ _ (heap_alloc_new w _)]
  simpa [rowCells] using hj
theorem row_one (x : R3) : ∀ u ∈ rowCells x, u.oneCell' = true := by
  intro u hu; simp [rowCells] at hu; rcases hu with rfl | rfl | rfl <;> rfl
theorem flat_snoc (l : List R3) (x : R3) : flat (l ++ [x]) = flat l ++ rowCells x := by rw [flat_append]; simp [flat]
theorem own_below {w w' : World} {base : Nat} {e : TypeId} {size : Nat} {v : Value} {n : Nat} {xs : List Value} (h : w.ownsRow base e size v n xs) (hb : Below w.heap.size w w') : w'.ownsRow base e size v n xs := by
  refine ⟨h.1, ?_⟩
  rcases h.2 with hn | ⟨g, cap, cur, rfl, hbg, hg, rest⟩
  · exact .inl hn
  · exact .inr ⟨g, cap, cur, rfl, hbg, (hb.block g (Array.getElem?_eq_some_iff.1 hg).1).trans hg, rest⟩
theorem below_drewN {B : Nat} {a w : World} (h : Below B a w) (n : Nat) : Below B a (w.drewN n) := ⟨h.os, h.tape, h.output, h.size, h.block⟩
/-- From w0 to w only the row of v0, and what is new, has turned; v lies in that row, or in what is new. -/
structure Own1 (w0 w : World) (v0 v : Value) : Prop where
  gr : w0.grownBy w v0.ownBlock
  at_ : v.ownBlock = v0.ownBlock ∨ ∀ g, v.ownBlock = some g → w0.heap.size ≤ g
theorem Own1.refl (w : World) (v : Value) : Own1 w w v v := ⟨⟨rfl, rfl, rfl, Nat.le_refl _, fun _ _ _ => rfl⟩, .inl rfl⟩
theorem Own1.trans {w0 w1 w2 : World} {v0 v1 v2 : Value} (h : Own1 w0 w1 v0 v1) (k : Own1 w1 w2 v1 v2) : Own1 w0 w2 v0 v2 := by
  refine ⟨⟨k.gr.os.trans h.gr.os, k.gr.tape.trans h.gr.tape, k.gr.output.trans h.gr.output, Nat.le_trans h.gr.size k.gr.size, fun i hi hne => ?_⟩, ?_⟩
  · refine (k.gr.block i (Nat.lt_of_lt_of_le hi h.gr.size) (fun e => ?_)).trans (h.gr.block i hi hne)
    rcases h.at_ with h1 | h1
    · exact hne (e.trans h1)
    · have := h1 i e.symm; omega
  · rcases k.at_ with k1 | k1
    · rw [k1]; exact h.at_
    · right; intro g hg; have := k1 g hg; have := h.gr.size; omega
theorem Own1.below {w w' : World} {v : Value} (h : Below w.heap.size w w') : Own1 w w' v v := ⟨⟨h.os, h.tape, h.output, h.size, fun i hi _ => h.block i hi⟩, .inl rfl⟩
theorem Own1.grown {w w' : World} {v v' : Value} (h : w.grownBy w' v.ownBlock) (k : v.ownBlock = v'.ownBlock ∨ ∀ g, v'.ownBlock = some g → w.heap.size ≤ g) : Own1 w w' v v' :=
  ⟨h, k.imp Eq.symm id⟩
theorem Own1.box {w w' : World} {v v' : Value} {g : Nat} {t : TypeId} {cs : Array Value} (h : Own1 w w' v v') (hb : Box w g t cs) (hne : v.ownBlock ≠ some g) : Box w' g t cs :=
  (h.gr.block g hb.lt (fun e => hne e.symm)).trans hb
theorem Own1.at3 {w w' : World} {v v' : Value} {b o k : Nat} {r : R3} (h : Own1 w w' v v') (hb : b < w.heap.size) (hne : v.ownBlock ≠ some b) (ha : At3 w b o k r) : At3 w' b o k r := by
  have key : ∀ i, w'.cell? ⟨b, i, none⟩ = w.cell? ⟨b, i, none⟩ := fun i => World.cell?_of_block (h.gr.block b hb (fun e => hne e.symm))
  exact ⟨(key _).trans ha.1, (key _).trans ha.2.1, (key _).trans ha.2.2⟩
theorem Own1.belowBase {w w' : World} {v v' : Value} {base : Nat} (h : Own1 w w' v v') (hb : base ≤ w.heap.size) (hv : ∀ g, v.ownBlock = some g → base ≤ g) : Below base w w' :=
  ⟨h.gr.os, h.gr.tape, h.gr.output, h.gr.size, fun k hk => h.gr.block k (by omega) (fun e => by have := hv k e.symm; omega)⟩
theorem own_cap {w : World} {base : Nat} {e : TypeId} {size : Nat} {A : Option Addr} {n c : Nat} {xs : List Value} (h : w.ownsRow base e size (.slice A n c) n xs) : n ≤ c ∧ c ≤ maxLen := by
  rcases h.2 with ⟨e, h0⟩ | ⟨g, cap, cur, e, _, _, h1, h2, _⟩
  · injection e with e1 e2 e3; subst e3; exact ⟨by omega, by simp [maxLen]⟩
  · injection e with e1 e2 e3; subst e3; exact ⟨h1, h2⟩
end Go.Proofs.Ytcadbapccdclaaa
