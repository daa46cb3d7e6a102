/- How a law is closed: the call returns true and leaves what was there as it was. Tables of ranges, plainly: what a list of rows tells, when it may be a table, how rows are made one. No program here. Rows of three numbers in memory: a slice that reads as a list of rows. Slices of one-cell elements in memory: bytes, ints. Slices of slices of ints in memory. Parameters, plainly: what a digit, a semicolon and a colon make of them, what a text makes, how they are printed; what is printed is parsed. No program here. Strings as lists of bytes; how long a printed text is. What every row's proof asks of the program, closed; the range of an int that is read. Five arguments. Pens, plainly (chapter 7): colours, flags, what parameters make of a pen, a pen as parameters; what the statements say of that. No program here. Pens as values. Rows, plainly (chapter 8): cells, when they may be, a mended row, what is put, erased, inserted, deleted; letters. No program here. -/
import Derived.Test.YtinbdpfjpcgikaaRows
import Derived.WalkKit
import Derived.ProofKit
import Derived.OpenShut
import Derived.Carry
import Derived.Deep.Slices
import Derived.Deep.Fields
import Derived.ChangeSame
import Derived.SizedLaws
import Derived.Lib.Hide
import Derived.Deep.Draws
import Derived.Lib.ItoaNum
import Derived.Test.YtinbdpfjpcgikaaChecked
import Derived.Lib.ItoaLen
import Derived.LaidMore
import Derived.ChangeMaps5
import Derived.Lay
import Derived.Stop.Joined
import Derived.Lib.LaidU8
import Derived.Lib.LaidTab
import Derived.Laws.IdiomArrays
namespace Go.Proofs.Ytinbdpfjpcgikaa
open Go Go.RowKit Go.ChangeShapes Go.WideShapes
set_option linter.unusedVariables false
set_option linter.unusedSimpArgs false

section
variable {H : Type} {enc : TypeId × Value → H} {P : Program}
theorem all_below (hl : laidOutB P = true) {W W' : World} (hb : Below W.heap.size W W') : ∀ (ts : List TypeId) (vs : List Value) (ds : List (DataW H)) (ps : List MemPlace), (∀ t ∈ ts, P.readableRec t = true ∧ t < P.types.size) →
    DataW.TrodAll enc P W 0 (fun _ => true) true ts vs ds ps → (∀ x ∈ ps, x.block < W.heap.size) → DataW.TrodAll enc P W' 0 (fun b => decide (b < W.heap.size)) true ts vs ds ps
  | [], vs, ds, ps, _, h, _ => by
    obtain ⟨rfl, rfl, rfl⟩ := trodAll_nil h
    rfl
  | t :: ts, vs, ds, ps, ht, h, hlt => by
    obtain ⟨v, vs', d, ds', p, q, rfl, rfl, rfl, h1, h2⟩ := trodAll_cons h
    obtain ⟨r1, r2⟩ := ht t (by simp)
    exact ⟨p, q, Below.trod hl r1 r2 h1 hb (fun x hx => hlt x (by simp [hx])), all_below hl hb ts vs' ds' q (fun u hu => ht u (by simp [hu])) h2 (fun x hx => hlt x (by simp [hx])), rfl⟩

theorem law_post {f : Func} {s : ChangeSpec} {W W' : World} {args : Array Value} {ds gs : List (DataW H)} {before : List MemPlace} {bt : TypeId}
    (hW : DataW.Whole enc P f.params.toList s.vars false W args.toList ds gs before) (hv : s.vars = []) (hr : f.resultTypes = #[bt]) (hbt : P.underlying bt = some .bool)
    (hfn : s.fn H (ds ++ gs) = { results := [.lit (.bool true)], args := ds }) (hl : laidOutB P = true) (hp : ∀ t ∈ f.params.toList, P.readableRec t = true ∧ t < P.types.size) (hb : Below W.heap.size W W') :
    s.post enc P f false true false false W args (.bool true) W' := by
  have hW' := hW
  obtain ⟨p, q, hA, hV, rfl, hz, hn⟩ := hW
  have hlt : ∀ x ∈ p ++ q, x.block < W.heap.size := fun x hx => by simpa using hW'.lt x hx
  rw [hv] at hV
  obtain ⟨rfl, rfl⟩ := trodVars_none hV
  refine ⟨ds, [], p ++ [], [], p, [], hW', ?_, ?_, ?_, hb.frame _, fun h => by cases h⟩
  · rw [hfn, hr]
    exact trodAll_cons_mk (shut_bool hbt _) trodAll_mk0
  · rw [hfn]
    exact all_below hl hb _ _ _ _ hp hA (fun x hx => hlt x (by simp [hx]))
  · rw [hfn, hv]
    exact rfl
end
end Go.Proofs.Ytinbdpfjpcgikaa

namespace Go.Proofs.Ytinbdpfjpcgikaa
set_option linter.unusedVariables false
set_option linter.unusedSimpArgs false

structure R3 where
  lo : Int
  hi : Int
  v : Int

def R3.okb (last : Int) (x : R3) : Bool := decide (last < x.lo ∧ x.lo ≤ x.hi ∧ x.hi ≤ 1114111 ∧ 1 ≤ x.v ∧ x.v ≤ 255)
def riseF : Int → List R3 → Bool
  | _, [] => true
  | last, x :: l => R3.okb last x && riseF x.hi l
def glue (x y : R3) : Bool := decide (y.lo = x.hi + 1 ∧ y.v = x.v)
def apartF : List R3 → Bool
  | [] => true
  | x :: l => (match l with | [] => true | y :: _ => !glue x y) && apartF l
def saneF (l : List R3) : Bool := decide (l.length ≤ 4096) && (riseF (-1) l && apartF l)
def inB (r : Int) (x : R3) : Bool := decide (x.lo ≤ r ∧ r ≤ x.hi)
def getF (l : List R3) (r : Int) : Int := ((l.find? (inB r)).map R3.v).getD 0
def totF : List R3 → Int
  | [] => 0
  | x :: l => (x.hi - x.lo + 1) + totF l
def joinStep (out : List R3) (x : R3) : List R3 :=
  match out.getLast? with
  | some y => if glue y x then out.dropLast ++ [⟨y.lo, x.hi, y.v⟩] else out ++ [x]
  | none => [x]
def joinF (l : List R3) : List R3 := l.foldl joinStep []

theorem okb_iff {last : Int} {x : R3} : R3.okb last x = true ↔ (last < x.lo ∧ x.lo ≤ x.hi ∧ x.hi ≤ 1114111 ∧ 1 ≤ x.v ∧ x.v ≤ 255) := by simp [R3.okb]
theorem drop_cons {α : Type} {l : List α} {k : Nat} {x : α} (h : l[k]? = some x) : l.drop k = x :: l.drop (k + 1) := by
  obtain ⟨hk, rfl⟩ := List.getElem?_eq_some_iff.1 h
  exact List.drop_eq_getElem_cons hk
theorem take_snoc {α : Type} {l : List α} {k : Nat} {x : α} (h : l[k]? = some x) : l.take (k + 1) = l.take k ++ [x] := by
  obtain ⟨hk, rfl⟩ := List.getElem?_eq_some_iff.1 h
  rw [List.take_succ_eq_append_getElem hk]
theorem totF_append (a b : List R3) : totF (a ++ b) = totF a + totF b := by
  induction a with
  | nil => simp [totF]
  | cons x l ih => simp [totF, ih]; omega
theorem find_take_none {l : List R3} {r : Int} {k : Nat} (h : ∀ j x, j < k → l[j]? = some x → inB r x = false) : (l.take k).find? (inB r) = none := by
  rw [List.find?_eq_none]
  intro x hx
  obtain ⟨j, hj⟩ := List.mem_iff_getElem?.1 hx
  rw [List.getElem?_take] at hj
  split at hj
  · rename_i hlt; rw [h j x hlt hj]; simp
  · cases hj
theorem getF_hit {l : List R3} {r : Int} {k : Nat} {x : R3} (h : ∀ j x, j < k → l[j]? = some x → inB r x = false) (hx : l[k]? = some x) (hr : inB r x = true) : getF l r = x.v := by
  unfold getF
  rw [← List.take_append_drop k l, List.find?_append, find_take_none h, drop_cons hx]
  simp [hr]
theorem getF_miss {l : List R3} {r : Int} (h : ∀ j x, j < l.length → l[j]? = some x → inB r x = false) : getF l r = 0 := by
  unfold getF
  have := find_take_none h
  rw [List.take_length] at this
  rw [this]; rfl
theorem snoc_ind {α : Type} {p : List α → Prop} (h0 : p []) (h1 : ∀ l x, p l → p (l ++ [x])) (l : List α) : p l := by
  have : ∀ (n : Nat) (l : List α), l.length = n → p l := by
    intro n
    induction n with
    | zero => intro l hl; rw [List.eq_nil_of_length_eq_zero hl]; exact h0
    | succ n ih =>
      intro l hl
      have hne : l ≠ [] := by rintro rfl; simp at hl
      rw [← List.dropLast_concat_getLast hne]
      exact h1 _ _ (ih _ (by simp [hl]))
  exact this _ l rfl
end Go.Proofs.Ytinbdpfjpcgikaa

namespace Go.Proofs.Ytinbdpfjpcgikaa
set_option linter.unusedVariables false
set_option linter.unusedSimpArgs false
open Go Go.RowKit

theorem ret_int {k : IntKind} {a b : Int} (h : a = b) : Ending.returned (.int k a) = .returned (.int k b) := by rw [h]
theorem ret_bool {a b : Bool} (h : a = b) : Ending.returned (.bool a) = .returned (.bool b) := by rw [h]

def At3 (w : World) (b o k : Nat) (r : R3) : Prop :=
  w.cell? ⟨b, o + k*3, none⟩ = some (.int .i64 r.lo) ∧ w.cell? ⟨b, o + k*3 + 1, none⟩ = some (.int .i64 r.hi) ∧ w.cell? ⟨b, o + k*3 + 2, none⟩ = some (.int .i64 r.v)
def Tab (w : World) (B : Nat) (A : Option Addr) (l : List R3) : Prop :=
  l ≠ [] → ∃ b o, A = some ⟨b, o, none⟩ ∧ b < B ∧ ∀ k x, l[k]? = some x → At3 w b o k x

theorem At3.below {w w' : World} {B b o k : Nat} {r : R3} (h : At3 w b o k r) (hb : Below B w w') (hl : b < B) : At3 w' b o k r :=
  ⟨(hb.cell (by exact hl)).trans h.1, (hb.cell (by exact hl)).trans h.2.1, (hb.cell (by exact hl)).trans h.2.2⟩
theorem Tab.nil {w : World} {B : Nat} {A : Option Addr} : Tab w B A [] := fun h => absurd rfl h
theorem Tab.below {w w' : World} {B : Nat} {A : Option Addr} {l : List R3} (h : Tab w B A l) (hb : Below B w w') : Tab w' B A l := fun hl => by
  obtain ⟨b, o, e, hB, hc⟩ := h hl
  exact ⟨b, o, e, hB, fun k x hx => (hc k x hx).below hb hB⟩
theorem Tab.more {w : World} {B B' : Nat} {A : Option Addr} {l : List R3} (h : Tab w B A l) (hb : B ≤ B') : Tab w B' A l := fun hl => by
  obtain ⟨b, o, e, hB, hc⟩ := h hl
  exact ⟨b, o, e, by omega, hc⟩
theorem Tab.at_ {w : World} {B : Nat} {A : Option Addr} {l : List R3} {k : Nat} {x : R3} (h : Tab w B A l) (hx : l[k]? = some x) : ∃ b o, A = some ⟨b, o, none⟩ ∧ b < B ∧ At3 w b o k x := by
  obtain ⟨b, o, e, hB, hc⟩ := h (by rintro rfl; simp at hx)
  exact ⟨b, o, e, hB, hc k x hx⟩
/-- Block g is just the cells cs, none frozen. -/
def Box (w : World) (g : Nat) (t : TypeId) (cs : Array Value) : Prop := w.heap[g]? = some (.cells cs t (0, 0))
section
variable {w w' : World} {g : Nat} {t : TypeId} {cs : Array Value}
theorem Box.lt (h : Box w g t cs) : g < w.heap.size := (Array.getElem?_eq_some_iff.1 h).1
theorem Box.new (w : World) (t : TypeId) (cs : Array Value) : Box (w.alloc (.cells cs t)) w.heap.size t cs := heap_alloc_new w _
theorem Box.below {B : Nat} (h : Box w g t cs) (hb : Below B w w') (hg : g < B) : Box w' g t cs := (hb.block g hg).trans h
theorem Box.alloc (h : Box w g t cs) (o : Obj) : Box (w.alloc o) g t cs := (Below.heap_alloc w o g h.lt).trans h
theorem Box.drew (h : Box w g t cs) : Box w.drew g t cs := h
theorem Box.drewN (h : Box w g t cs) (n : Nat) : Box (w.drewN n) g t cs := h
theorem Box.cell (h : Box w g t cs) (i : Nat) : w.cell? ⟨g, i, none⟩ = cs[i]? := cell_of_row w g i cs t (0, 0) h
theorem Box.free (h : Box w g t cs) (i : Nat) : w.frozen? ⟨g, i, none⟩ = false := frozen_of_row w g i cs t h
theorem Box.set_ (h : Box w g t cs) (i : Nat) (u : Value) : Box (w.setCell ⟨g, i, none⟩ u) g t (cs.setIfInBounds i u) := by
  unfold Box at h ⊢
  simp [World.setCell, Array.getElem?_modify, h]
theorem Box.far (h : Box w g t cs) {p : Addr} (hp : g ≠ p.block) (u : Value) : Box (w.setCell p u) g t cs := (Below.heap_setCell w p u g hp).trans h
theorem Box.grown {row : Option Nat} (h : Box w g t cs) (hb : w.grownBy w' row) (hg : some g ≠ row) : Box w' g t cs := (hb.block g h.lt hg).trans h
end
theorem Tab.setCell {w : World} {B : Nat} {A : Option Addr} {l : List R3} (h : Tab w B A l) {p : Addr} (u : Value) (hp : ∀ b o, A = some ⟨b, o, none⟩ → b ≠ p.block) : Tab (w.setCell p u) B A l := fun hl => by
  obtain ⟨b, o, e, hB, hc⟩ := h hl
  have hne := hp b o e
  have keep : ∀ i, (w.setCell p u).cell? ⟨b, i, none⟩ = w.cell? ⟨b, i, none⟩ := fun i => World.cell?_setCell_other w p _ u (fun e => hne (by rw [e]))
  exact ⟨b, o, e, hB, fun k x hx => ⟨(keep _).trans (hc k x hx).1, (keep _).trans (hc k x hx).2.1, (keep _).trans (hc k x hx).2.2⟩⟩
def rowCells (r : R3) : List Value := [.int .i64 r.lo, .int .i64 r.hi, .int .i64 r.v]
def flat (l : List R3) : List Value := l.flatMap rowCells
theorem flat_length (l : List R3) : (flat l).length = l.length * 3 := by
  induction l with
  | nil => rfl
  | cons x l ih => simp [flat, rowCells] at ih ⊢; omega
theorem flat_append (a b : List R3) : flat (a ++ b) = flat a ++ flat b := by simp [flat]
theorem flat_at {l : List R3} {k : Nat} {x : R3} (h : l[k]? = some x) (j : Nat) (hj : j < 3) : (flat l)[k * 3 + j]? = (rowCells x)[j]? := by
  induction l generalizing k with
  | nil => simp at h
  | cons y l ih =>
    have e : flat (y :: l) = rowCells y ++ flat l := by simp [flat]
    rw [e]
    cases k with
    | zero =>
      simp at h; subst h
      rw [List.getElem?_append_left (by simp [rowCells]; omega)]
      simp
    | succ k =>
      simp at h
      rw [List.getElem?_append_right (by simp [rowCells]; omega), ← ih h]
      congr 1
      simp [rowCells]; omega
theorem Tab.of_own {w : World} {base : Nat} {e : TypeId} {A : Option Addr} {n c : Nat} {l : List R3} (h : w.ownsRow base e 3 (.slice A n c) n (flat l)) : Tab w w.heap.size A l := fun hl => by
  obtain ⟨x, t, rfl⟩ := List.exists_cons_of_ne_nil hl
  rcases h.2 with ⟨hv, hn⟩ | ⟨g, cap, cur, hv, hb, hg, hnc, hcm, hcs, ht⟩
  · have := h.1; subst hn; simp [flat, rowCells] at this
  · injection hv with h1 h2 h3
    subst h1
    refine ⟨g, 0, rfl, (Array.getElem?_eq_some_iff.1 hg).1, fun k y hy => ?_⟩
    have key : ∀ j, j < 3 → w.cell? ⟨g, 0 + k * 3 + j, none⟩ = (rowCells y)[j]? := fun j hj => by
      have hfa := flat_at hy j hj
      have hin : (rowCells y)[j]? = some ((rowCells y)[j]'(by simp [rowCells]; omega)) := List.getElem?_eq_getElem _
      rw [hin] at hfa ⊢
      have := h.cells (g := g) rfl (k * 3 + j) _ hfa
      rw [← this]
      congr 1
      unfold Addr.add; split <;> simp_all <;> omega
    exact ⟨by simpa [rowCells] using key 0 (by omega), by simpa [rowCells] using key 1 (by omega), by simpa [rowCells] using key 2 (by omega)⟩

theorem own_cases {w : World} {base : Nat} {e : TypeId} {v : Value} {n : Nat} {l : List R3} (h : w.ownsRow base e 3 v n (flat l)) :
    n = l.length ∧ (l = [] ∨ ∃ g cap, l ≠ [] ∧ v = .slice (some ⟨g, 0, none⟩) n cap ∧ base ≤ g ∧ g < w.heap.size ∧ n ≤ cap ∧ (∀ k x, l[k]? = some x → At3 w g 0 k x) ∧ ∀ i, w.frozen? ⟨g, i, none⟩ = false) := by
  have hn : n = l.length := by
    have := h.1
    rw [flat_length] at this
    omega
  refine ⟨hn, ?_⟩
  rcases h.2 with ⟨rfl, h0⟩ | ⟨g, cap, cur, rfl, hb, hg, hnc, hcm, hcs, ht⟩
  · left; exact List.eq_nil_of_length_eq_zero (by omega)
  · by_cases hl : l = []
    · exact .inl hl
    · right
      have hT := Tab.of_own h
      obtain ⟨b, o, e1, _, hc⟩ := hT hl
      injection e1 with e1; injection e1 with e2 e3; subst e2; subst e3
      exact ⟨g, cap, hl, rfl, hb, (Array.getElem?_eq_some_iff.1 hg).1, hnc, hc, fun i => frozen_of_row w g i cur e hg⟩

theorem own_set {w : World} {base : Nat} {e : TypeId} {size g n cap j : Nat} {xs : List Value} (h : w.ownsRow base e size (.slice (some ⟨g, 0, none⟩) n cap) n xs) (hj : j < n * size) (u : Value) :
    (w.setCell ⟨g, j, none⟩ u).ownsRow base e size (.slice (some ⟨g, 0, none⟩) n cap) n (xs.set j u) := by
  refine ⟨by rw [List.length_set]; exact h.1, .inr ?_⟩
  rcases h.2 with ⟨hv, _⟩ | ⟨g', cap', cur, hv, hb, hg, hnc, hcm, hcs, ht⟩
  · injection hv with h1; cases h1
  · injection hv with h1 h2 h3; injection h1 with h1; injection h1 with h1; subst h1; subst h3
    refine ⟨g, cap, cur.setIfInBounds j u, rfl, hb, ?_, hnc, hcm, by simpa using hcs, ?_⟩
    · simp [World.setCell, Array.getElem?_modify, hg]
    · rw [Array.toList_setIfInBounds, ← ht, List.take_set]
theorem flat_set_hi (pre : List R3) (y : R3) (hi : Int) : (flat (pre ++ [y])).set (pre.length * 3 + 1) (.int .i64 hi) = flat (pre ++ [⟨y.lo, hi, y.v⟩]) := by
  rw [flat_append, flat_append, List.set_append_right _ _ (by rw [flat_length]; omega), flat_length]
  congr 1
  simp [flat, rowCells]
theorem news (w : World) (t : TypeId) (x : R3) : ∀ j u, (rowCells x)[j]? = some u → (w.alloc (.cells #[.int .i64 x.lo, .int .i64 x.hi, .int .i64 x.v] t)).cell? ((⟨w.heap.size, 0, none⟩ : Addr).add j) = some u := by
  intro j u hj
  have e : (⟨w.heap.size, 0, none⟩ : Addr).add j = ⟨w.heap.size, j, none⟩ := by unfold Addr.add; split <;> simp_all
  rw [e, cell_of_row _ _ _ _ _ _ (heap_alloc_new w _)]
  simpa [rowCells] using hj
theorem row_one (x : R3) : ∀ u ∈ rowCells x, u.oneCell' = true := by
  intro u hu; simp [rowCells] at hu; rcases hu with rfl | rfl | rfl <;> rfl
theorem flat_snoc (l : List R3) (x : R3) : flat (l ++ [x]) = flat l ++ rowCells x := by rw [flat_append]; simp [flat]
theorem own_below {w w' : World} {base : Nat} {e : TypeId} {size : Nat} {v : Value} {n : Nat} {xs : List Value} (h : w.ownsRow base e size v n xs) (hb : Below w.heap.size w w') : w'.ownsRow base e size v n xs := by
  refine ⟨h.1, ?_⟩
  rcases h.2 with hn | ⟨g, cap, cur, rfl, hbg, hg, rest⟩
  · exact .inl hn
  · exact .inr ⟨g, cap, cur, rfl, hbg, (hb.block g (Array.getElem?_eq_some_iff.1 hg).1).trans hg, rest⟩
theorem below_drewN {B : Nat} {a w : World} (h : Below B a w) (n : Nat) : Below B a (w.drewN n) := ⟨h.os, h.tape, h.output, h.size, h.block⟩
/-- From w0 to w only the row of v0, and what is new, has turned; v lies in that row, or in what is new. -/
structure Own1 (w0 w : World) (v0 v : Value) : Prop where
  gr : w0.grownBy w v0.ownBlock
  at_ : v.ownBlock = v0.ownBlock ∨ ∀ g, v.ownBlock = some g → w0.heap.size ≤ g
theorem Own1.refl (w : World) (v : Value) : Own1 w w v v := ⟨⟨rfl, rfl, rfl, Nat.le_refl _, fun _ _ _ => rfl⟩, .inl rfl⟩
theorem Own1.trans {w0 w1 w2 : World} {v0 v1 v2 : Value} (h : Own1 w0 w1 v0 v1) (k : Own1 w1 w2 v1 v2) : Own1 w0 w2 v0 v2 := by
  refine ⟨⟨k.gr.os.trans h.gr.os, k.gr.tape.trans h.gr.tape, k.gr.output.trans h.gr.output, Nat.le_trans h.gr.size k.gr.size, fun i hi hne => ?_⟩, ?_⟩
  · refine (k.gr.block i (Nat.lt_of_lt_of_le hi h.gr.size) (fun e => ?_)).trans (h.gr.block i hi hne)
    rcases h.at_ with h1 | h1
    · exact hne (e.trans h1)
    · have := h1 i e.symm; omega
  · rcases k.at_ with k1 | k1
    · rw [k1]; exact h.at_
    · right; intro g hg; have := k1 g hg; have := h.gr.size; omega
theorem Own1.below {w w' : World} {v : Value} (h : Below w.heap.size w w') : Own1 w w' v v := ⟨⟨h.os, h.tape, h.output, h.size, fun i hi _ => h.block i hi⟩, .inl rfl⟩
theorem Own1.grown {w w' : World} {v v' : Value} (h : w.grownBy w' v.ownBlock) (k : v.ownBlock = v'.ownBlock ∨ ∀ g, v'.ownBlock = some g → w.heap.size ≤ g) : Own1 w w' v v' :=
  ⟨h, k.imp Eq.symm id⟩
theorem Own1.box {w w' : World} {v v' : Value} {g : Nat} {t : TypeId} {cs : Array Value} (h : Own1 w w' v v') (hb : Box w g t cs) (hne : v.ownBlock ≠ some g) : Box w' g t cs :=
  (h.gr.block g hb.lt (fun e => hne e.symm)).trans hb
theorem Own1.at3 {w w' : World} {v v' : Value} {b o k : Nat} {r : R3} (h : Own1 w w' v v') (hb : b < w.heap.size) (hne : v.ownBlock ≠ some b) (ha : At3 w b o k r) : At3 w' b o k r := by
  have key : ∀ i, w'.cell? ⟨b, i, none⟩ = w.cell? ⟨b, i, none⟩ := fun i => World.cell?_of_block (h.gr.block b hb (fun e => hne e.symm))
  exact ⟨(key _).trans ha.1, (key _).trans ha.2.1, (key _).trans ha.2.2⟩
theorem Own1.belowBase {w w' : World} {v v' : Value} {base : Nat} (h : Own1 w w' v v') (hb : base ≤ w.heap.size) (hv : ∀ g, v.ownBlock = some g → base ≤ g) : Below base w w' :=
  ⟨h.gr.os, h.gr.tape, h.gr.output, h.gr.size, fun k hk => h.gr.block k (by omega) (fun e => by have := hv k e.symm; omega)⟩
theorem own_cap {w : World} {base : Nat} {e : TypeId} {size : Nat} {A : Option Addr} {n c : Nat} {xs : List Value} (h : w.ownsRow base e size (.slice A n c) n xs) : n ≤ c ∧ c ≤ maxLen := by
  rcases h.2 with ⟨e, h0⟩ | ⟨g, cap, cur, e, _, _, h1, h2, _⟩
  · injection e with e1 e2 e3; subst e3; exact ⟨by omega, by simp [maxLen]⟩
  · injection e with e1 e2 e3; subst e3; exact ⟨h1, h2⟩
end Go.Proofs.Ytinbdpfjpcgikaa

namespace Go.Proofs.Ytinbdpfjpcgikaa
open Go Go.RowKit
set_option linter.unusedVariables false
set_option linter.unusedSimpArgs false

section
variable {α : Type} {f : α → Value}
/-- A slice at A reads as a list. -/
def Rd (f : α → Value) (w : World) (B : Nat) (A : Option Addr) (l : List α) : Prop :=
  l ≠ [] → ∃ b o, A = some ⟨b, o, none⟩ ∧ b < B ∧ ∀ (k : Nat) (x : α), l[k]? = some x → w.cell? ⟨b, o + k, none⟩ = some (f x)
theorem Rd.nil {w : World} {B : Nat} {A : Option Addr} : Rd f w B A [] := fun h => absurd rfl h
theorem Rd.below {w w' : World} {B : Nat} {A : Option Addr} {l : List α} (h : Rd f w B A l) (hb : Below B w w') : Rd f w' B A l := fun hl => by
  obtain ⟨b, o, e, hB, hc⟩ := h hl
  exact ⟨b, o, e, hB, fun k x hx => (hb.cell (by exact hB)).trans (hc k x hx)⟩
theorem Rd.more {w : World} {B B' : Nat} {A : Option Addr} {l : List α} (h : Rd f w B A l) (hb : B ≤ B') : Rd f w B' A l := fun hl => by
  obtain ⟨b, o, e, hB, hc⟩ := h hl
  exact ⟨b, o, e, by omega, hc⟩
theorem Rd.on {w w' : World} {A : Option Addr} {l : List α} (h : Rd f w w.heap.size A l) (hb : Below w.heap.size w w') : Rd f w' w'.heap.size A l := (h.below hb).more hb.size
theorem Rd.at_ {w : World} {B : Nat} {A : Option Addr} {l : List α} {k : Nat} {x : α} (h : Rd f w B A l) (hx : l[k]? = some x) : ∃ b o, A = some ⟨b, o, none⟩ ∧ b < B ∧ w.cell? ⟨b, o + k, none⟩ = some (f x) := by
  obtain ⟨b, o, e, hB, hc⟩ := h (by rintro rfl; simp at hx)
  exact ⟨b, o, e, hB, hc k x hx⟩
theorem Rd.drop {w : World} {B b o : Nat} {l : List α} (h : Rd f w B (some ⟨b, o, none⟩) l) (n : Nat) : Rd f w B (some ⟨b, o + n, none⟩) (l.drop n) := fun hl => by
  obtain ⟨b', o', e, hB, hc⟩ := h (by rintro rfl; simp at hl)
  injection e with e; injection e with e1 e2; subst e1; subst e2
  refine ⟨b, o + n, rfl, hB, fun k c hk => ?_⟩
  rw [List.getElem?_drop] at hk
  have := hc _ c hk
  rw [Nat.add_assoc]
  exact this
theorem Rd.take {w : World} {B : Nat} {A : Option Addr} {l : List α} (h : Rd f w B A l) (n : Nat) : Rd f w B A (l.take n) := fun hl => by
  obtain ⟨b', o', e, hB, hc⟩ := h (by rintro rfl; simp at hl)
  refine ⟨b', o', e, hB, fun k c hk => ?_⟩
  rw [List.getElem?_take] at hk
  split at hk
  · exact hc k c hk
  · cases hk
theorem Rd.of_own {w : World} {base : Nat} {e : TypeId} {A : Option Addr} {n c : Nat} {l : List α} (h : w.ownsRow base e 1 (.slice A n c) n (l.map f)) : Rd f w w.heap.size A l := fun hl => by
  rcases h.2 with ⟨hv, hn⟩ | ⟨g, cap, cur, hv, hb, hg, hnc, hcm, hcs, ht⟩
  · have := h.1; simp at this; subst hn; exact absurd (List.eq_nil_of_length_eq_zero this) hl
  · injection hv with h1 h2 h3
    subst h1
    refine ⟨g, 0, rfl, (Array.getElem?_eq_some_iff.1 hg).1, fun k c hk => ?_⟩
    have hbc : (l.map f)[k]? = some (f c) := by simp [hk]
    have := h.cells (g := g) rfl k _ hbc
    rw [← this]
    congr 1
    unfold Addr.add; split <;> simp_all
/-- A block's own cells, from its head on. -/
theorem Rd.of_box {w : World} {g : Nat} {t : TypeId} {l : List α} (h : Box w g t (l.map f).toArray) : Rd f w w.heap.size (some ⟨g, 0, none⟩) l := fun hl => by
  refine ⟨g, 0, rfl, h.lt, fun k c hk => ?_⟩
  rw [Nat.zero_add, h.cell k]
  simp [hk]
theorem own_len {w : World} {base : Nat} {e : TypeId} {v : Value} {n : Nat} {l : List α} (h : w.ownsRow base e 1 v n (l.map f)) : n = l.length := by
  have := h.1
  simp at this
  omega
end
theorem own_form1 {w : World} {base : Nat} {e : TypeId} {size : Nat} {v : Value} {n : Nat} {xs : List Value} (h : w.ownsRow base e size v n xs) : ∃ A c, v = .slice A n c ∧ n ≤ c ∧ c ≤ maxLen := by
  rcases h.2 with ⟨rfl, rfl⟩ | ⟨g, cap, cur, rfl, _, _, h, h', _⟩
  · exact ⟨none, 0, rfl, Nat.le_refl _, by simp [maxLen]⟩
  · exact ⟨_, _, rfl, h, h'⟩
theorem own_block {w : World} {base : Nat} {e : TypeId} {size : Nat} {v : Value} {n : Nat} {xs : List Value} (h : w.ownsRow base e size v n xs) {g : Nat} (hg : v.ownBlock = some g) : base ≤ g ∧ g < w.heap.size := by
  obtain ⟨_, h⟩ := h
  rcases h with ⟨rfl, _⟩ | ⟨g', cap, cur, rfl, h1, h2, _⟩
  · simp [Value.ownBlock] at hg
  · simp [Value.ownBlock] at hg; subst hg; exact ⟨h1, (Array.getElem?_eq_some_iff.1 h2).1⟩
def byteV (c : Nat) : Value := .int .u8 (c : Int)
def intV (z : Int) : Value := .int .i64 z
abbrev Byt (w : World) (B : Nat) (A : Option Addr) (bs : List Nat) : Prop := Rd byteV w B A bs
abbrev Its (w : World) (B : Nat) (A : Option Addr) (l : List Int) : Prop := Rd intV w B A l
theorem one_byte (l : List Nat) : ∀ u ∈ l.map byteV, u.oneCell' = true := by intro u hu; simp at hu; obtain ⟨c, _, rfl⟩ := hu; rfl
theorem one_int (l : List Int) : ∀ u ∈ l.map intV, u.oneCell' = true := by intro u hu; simp at hu; obtain ⟨c, _, rfl⟩ := hu; rfl
/-- What lies in a slice that is read, as append's law asks it. -/
theorem Rd.src {α : Type} {f : α → Value} {w : World} {B : Nat} {a : Addr} {l : List α} (h : Rd f w B (some a) l) : ∀ j u, (l.map f)[j]? = some u → w.cell? (a.add j) = some u := by
  intro j u hj
  rw [List.getElem?_map] at hj
  obtain ⟨x, hx, rfl⟩ := Option.map_eq_some_iff.1 hj
  obtain ⟨b, o, e, _, hc⟩ := h.at_ hx
  injection e with e; subst e
  rw [← hc]
  congr 1
  unfold Addr.add; split <;> simp_all
/-- One new element in a block of its own. -/
theorem new_one (w : World) (t : TypeId) (v : Value) : ∀ j u, ([v])[j]? = some u → (w.alloc (.cells #[v] t)).cell? ((⟨w.heap.size, 0, none⟩ : Addr).add j) = some u := by
  intro j u hj
  match j, hj with
  | 0, hj => simp at hj; subst hj; simp [Addr.add]
/-- What a reslice from M on reads as. -/
theorem Rd.cut {α : Type} {f : α → Value} {w : World} {B : Nat} {A : Option Addr} {l : List α} (h : Rd f w B A l) {M c : Nat} (h1 : l.length ≤ c) :
    Rd f w B (if c = M then A else Option.map (fun x => x.add M) A) (l.drop M) := by
  by_cases hl : l.drop M = []
  · rw [hl]; exact Rd.nil
  · have hlt : M < l.length := by
      rcases Nat.lt_or_ge M l.length with h | h
      · exact h
      · exact absurd (List.drop_eq_nil_of_le h) hl
    rw [if_neg (by omega)]
    obtain ⟨b, o, rfl, _, _⟩ := h (by rintro rfl; simp at hlt)
    have e : Option.map (fun x : Addr => x.add M) (some ⟨b, o, none⟩) = some ⟨b, o + M, none⟩ := by
      simp [Addr.add]
    rw [e]
    exact h.drop M
theorem own_far {w : World} {base : Nat} {e : TypeId} {size : Nat} {v : Value} {n : Nat} {xs : List Value} (h : w.ownsRow base e size v n xs) {p : Addr} (hne : v.ownBlock ≠ some p.block) (u : Value) : (w.setCell p u).ownsRow base e size v n xs := by
  refine ⟨h.1, ?_⟩
  rcases h.2 with hn | ⟨g, cap, cur, rfl, hb, hg, rest⟩
  · exact .inl hn
  · exact .inr ⟨g, cap, cur, rfl, hb, (Below.heap_setCell w p u g (fun e => hne (by rw [← e]; rfl))).trans hg, rest⟩
theorem own_le {w : World} {base base' : Nat} {e : TypeId} {size : Nat} {v : Value} {n : Nat} {xs : List Value} (h : w.ownsRow base e size v n xs) (hb : base' ≤ base) : w.ownsRow base' e size v n xs := by
  refine ⟨h.1, ?_⟩
  rcases h.2 with hn | ⟨g, cap, cur, rfl, hbg, rest⟩
  · exact .inl hn
  · exact .inr ⟨g, cap, cur, rfl, Nat.le_trans hb hbg, rest⟩
theorem Own1.nil {w w' : World} {v' : Value} (h : Own1 w w' (.slice none 0 0) v') : Below w.heap.size w w' := h.belowBase (Nat.le_refl _) (fun g hg => by simp [Value.ownBlock] at hg)
/-- Two slices that the call owns, in rows of their own. -/
def Apart (v u : Value) : Prop := ∀ g, v.ownBlock = some g → u.ownBlock ≠ some g
theorem Apart.symm {v u : Value} (h : Apart v u) : Apart u v := fun g hg he => h g he hg
theorem Own1.keep {w w' : World} {v v' u : Value} {base : Nat} {e : TypeId} {size n : Nat} {xs : List Value} (h : Own1 w w' v v') (ho : w.ownsRow base e size u n xs) (ha : Apart v u) : w'.ownsRow base e size u n xs := by
  refine ⟨ho.1, ?_⟩
  rcases ho.2 with hn | ⟨g, cap, cur, rfl, hb, hg, rest⟩
  · exact .inl hn
  · refine .inr ⟨g, cap, cur, rfl, hb, (h.gr.block g (Array.getElem?_eq_some_iff.1 hg).1 (fun e => ?_)).trans hg, rest⟩
    exact ha g e.symm rfl
theorem Own1.apart {w w' : World} {v v' u : Value} {base : Nat} {e : TypeId} {size n : Nat} {xs : List Value} (h : Own1 w w' v v') (ho : w.ownsRow base e size u n xs) (ha : Apart v u) : Apart v' u := by
  intro g hg hu
  rcases h.at_ with h1 | h1
  · exact ha g (by rw [← h1]; exact hg) hu
  · have := h1 g hg; have := (own_block ho hu).2; omega
end Go.Proofs.Ytinbdpfjpcgikaa

namespace Go.Proofs.Ytinbdpfjpcgikaa
open Go Go.RowKit
set_option linter.unusedVariables false
set_option linter.unusedSimpArgs false

/-- An element: where it lies, its capacity, what it reads as. -/
structure El where
  A : Option Addr
  c : Nat
  q : List Int
def elV (e : El) : Value := .slice e.A e.q.length e.c
structure ElOk (w : World) (B : Nat) (e : El) : Prop where
  rd : Rd intV w B e.A e.q
  cap : e.q.length ≤ e.c
  max : e.c ≤ maxLen
def qs (es : List El) : List (List Int) := es.map El.q
theorem qs_length (es : List El) : (qs es).length = es.length := by simp [qs]
theorem qs_append (a b : List El) : qs (a ++ b) = qs a ++ qs b := by simp [qs]
theorem qs_take (es : List El) (k : Nat) : qs (es.take k) = (qs es).take k := by simp [qs, List.map_take]
theorem qs_at {es : List El} {k : Nat} {e : El} (h : es[k]? = some e) : (qs es)[k]? = some e.q := by simp [qs, h]
/-- A slice at A reads as these elements. -/
def Nest (w : World) (B : Nat) (A : Option Addr) (es : List El) : Prop := Rd elV w B A es ∧ ∀ e ∈ es, ElOk w B e
theorem ElOk.below {w w' : World} {B : Nat} {e : El} (h : ElOk w B e) (hb : Below B w w') : ElOk w' B e := ⟨h.rd.below hb, h.cap, h.max⟩
theorem ElOk.more {w : World} {B B' : Nat} {e : El} (h : ElOk w B e) (hb : B ≤ B') : ElOk w B' e := ⟨h.rd.more hb, h.cap, h.max⟩
theorem ElOk.on {w w' : World} {e : El} (h : ElOk w w.heap.size e) (hb : Below w.heap.size w w') : ElOk w' w'.heap.size e := (h.below hb).more hb.size
theorem Nest.nil {w : World} {B : Nat} {A : Option Addr} : Nest w B A [] := ⟨Rd.nil, by simp⟩
theorem Nest.below {w w' : World} {B : Nat} {A : Option Addr} {es : List El} (h : Nest w B A es) (hb : Below B w w') : Nest w' B A es := ⟨h.1.below hb, fun e he => (h.2 e he).below hb⟩
theorem Nest.more {w : World} {B B' : Nat} {A : Option Addr} {es : List El} (h : Nest w B A es) (hb : B ≤ B') : Nest w B' A es := ⟨h.1.more hb, fun e he => (h.2 e he).more hb⟩
theorem Nest.on {w w' : World} {A : Option Addr} {es : List El} (h : Nest w w.heap.size A es) (hb : Below w.heap.size w w') : Nest w' w'.heap.size A es := (h.below hb).more hb.size
theorem Nest.at_ {w : World} {B : Nat} {A : Option Addr} {es : List El} {k : Nat} {e : El} (h : Nest w B A es) (hx : es[k]? = some e) : ∃ b o, A = some ⟨b, o, none⟩ ∧ b < B ∧ w.cell? ⟨b, o + k, none⟩ = some (.slice e.A e.q.length e.c) ∧ ElOk w B e := by
  obtain ⟨b, o, h1, h2, h3⟩ := h.1.at_ hx
  exact ⟨b, o, h1, h2, h3, h.2 e (List.mem_of_getElem? hx)⟩
theorem Nest.of_own {w : World} {base : Nat} {t : TypeId} {A : Option Addr} {n c : Nat} {es : List El} (h : w.ownsRow base t 1 (.slice A n c) n (es.map elV)) (he : ∀ e ∈ es, ElOk w w.heap.size e) : Nest w w.heap.size A es := ⟨Rd.of_own h, he⟩
end Go.Proofs.Ytinbdpfjpcgikaa

namespace Go.Proofs.Ytinbdpfjpcgikaa
set_option linter.unusedVariables false
set_option linter.unusedSimpArgs false
open Go

structure Par where
  l : List (List Int)
  o : Bool
theorem Par.ext' {p q : Par} (h1 : p.l = q.l) (h2 : p.o = q.o) : p = q := by cases p; cases q; simp_all

def NumOk (n : Int) : Prop := -1 ≤ n ∧ n ≤ 65535
def OneOk (q : List Int) : Prop := 1 ≤ q.length ∧ q.length ≤ 6 ∧ ∀ n ∈ q, NumOk n
structure SaneP (p : Par) : Prop where
  few : p.l.length ≤ 16
  each : ∀ q ∈ p.l, OneOk q
  shut : p.l = [] → p.o = false
instance (n : Int) : Decidable (NumOk n) := inferInstanceAs (Decidable (_ ∧ _))
instance (q : List Int) : Decidable (OneOk q) := inferInstanceAs (Decidable (_ ∧ _ ∧ _))
instance (p : Par) : Decidable (SaneP p) :=
  if h : p.l.length ≤ 16 ∧ (∀ q ∈ p.l, OneOk q) ∧ (p.l = [] → p.o = false) then isTrue ⟨h.1, h.2.1, h.2.2⟩ else isFalse fun k => h ⟨k.few, k.each, k.shut⟩

def lastMod {α : Type} (f : α → α) (l : List α) : List α := match l.getLast? with
  | none => []
  | some x => l.dropLast ++ [f x]
theorem lastMod_nil {α : Type} (f : α → α) : lastMod f [] = [] := rfl
theorem lastMod_snoc {α : Type} (f : α → α) (l : List α) (x : α) : lastMod f (l ++ [x]) = l ++ [f x] := by simp [lastMod]
theorem snoc_of {α : Type} {l : List α} (h : l ≠ []) : ∃ a x, l = a ++ [x] := ⟨l.dropLast, l.getLast h, (List.dropLast_concat_getLast h).symm⟩
theorem lastMod_length {α : Type} (f : α → α) (l : List α) : (lastMod f l).length = l.length := by
  by_cases h : l = []
  · subst h; rfl
  · obtain ⟨a, x, rfl⟩ := snoc_of h
    rw [lastMod_snoc]; simp

/-- What a step begins with. -/
def beginP (p : Par) : Par := if p.l = [] then ⟨[[-1]], true⟩ else p
def digN (c : Nat) (n : Int) : Int := min 65535 (max n 0 * 10 + ((c : Int) - 48))
def isDig (c : Nat) : Prop := 48 ≤ c ∧ c ≤ 57
instance (c : Nat) : Decidable (isDig c) := inferInstanceAs (Decidable (_ ∧ _))
def rDigit (c : Nat) (p : Par) : Par := if (beginP p).o then ⟨lastMod (lastMod (digN c)) (beginP p).l, true⟩ else beginP p
def rNext (p : Par) : Par := if 16 ≤ (beginP p).l.length then ⟨(beginP p).l, false⟩ else ⟨(beginP p).l ++ [[-1]], true⟩
def lastLen (l : List (List Int)) : Nat := (l.getLast?.map List.length).getD 0
def rSub (p : Par) : Par := if (beginP p).o = true ∧ lastLen (beginP p).l < 6 then ⟨lastMod (fun q => q ++ [-1]) (beginP p).l, true⟩ else ⟨(beginP p).l, false⟩
def zeroP : Par := ⟨[], false⟩
def digitP (c : Nat) (p : Par) : Par := if SaneP p then (if isDig c then rDigit c p else p) else zeroP
def nextP (p : Par) : Par := if SaneP p then rNext p else zeroP
def subP (p : Par) : Par := if SaneP p then rSub p else zeroP
/-- A byte of a text. -/
def isByte (c : Nat) : Prop := isDig c ∨ c = 58 ∨ c = 59
instance (c : Nat) : Decidable (isByte c) := inferInstanceAs (Decidable (_ ∨ _ ∨ _))
def stepP (p : Par) (c : Nat) : Par := if c = 59 then nextP p else if c = 58 then subP p else digitP c p
def rStep (p : Par) (c : Nat) : Par := if c = 59 then rNext p else if c = 58 then rSub p else if isDig c then rDigit c p else p
def runP (p : Par) (s : List Nat) : Par := s.foldl stepP p
def parseP (s : List Nat) : Option (List (List Int)) := if (∀ c ∈ s, isByte c) then some (runP zeroP s).l else none

theorem digN_ok {c : Nat} {n : Int} (h : isDig c) : NumOk (digN c n) := by
  unfold isDig at h; unfold NumOk digN; omega
theorem zero_sane : SaneP zeroP := ⟨by decide, by simp [zeroP], fun _ => rfl⟩
theorem begin_ne (p : Par) : (beginP p).l ≠ [] := by
  unfold beginP; split
  · simp
  · rename_i h; exact h
theorem begin_sane {p : Par} (h : SaneP p) : SaneP (beginP p) := by
  unfold beginP; split
  · refine ⟨by simp, ?_, by simp⟩
    intro q hq; simp at hq; subst hq; exact ⟨by simp, by simp, by intro n hn; simp at hn; subst hn; unfold NumOk; omega⟩
  · exact h
theorem sane_last {l : List (List Int)} {q : List Int} {o : Bool} (h : SaneP ⟨l ++ [q], o⟩) (q' : List Int) (h' : OneOk q') (o' : Bool) : SaneP ⟨l ++ [q'], o'⟩ := by
  refine ⟨by have := h.few; simp at this ⊢; omega, ?_, by simp⟩
  intro x hx
  rcases List.mem_append.1 hx with hx | hx
  · exact h.each x (List.mem_append_left _ hx)
  · simp at hx; subst hx; exact h'
theorem one_last {q : List Int} {n n' : Int} (h : OneOk (q ++ [n])) (h' : NumOk n') : OneOk (q ++ [n']) := by
  refine ⟨by simp, by have := h.2.1; simp at this ⊢; omega, ?_⟩
  intro x hx
  rcases List.mem_append.1 hx with hx | hx
  · exact h.2.2 x (List.mem_append_left _ hx)
  · simp at hx; subst hx; exact h'
theorem one_ne {q : List Int} (h : OneOk q) : q ≠ [] := by
  rintro rfl
  have := h.1
  simp at this
theorem rDigit_sane {c : Nat} {p : Par} (h : SaneP p) (hc : isDig c) : SaneP (rDigit c p) := by
  unfold rDigit
  have hb := begin_sane h
  obtain ⟨a, q, e⟩ := snoc_of (begin_ne p)
  generalize beginP p = b at *
  split
  · cases b with
    | mk l o =>
      simp only at e
      subst e
      have hq := hb.each q (by simp)
      obtain ⟨x, n, rfl⟩ := snoc_of (one_ne hq)
      simp only [lastMod_snoc]
      exact sane_last hb _ (one_last hq (digN_ok hc)) true
  · exact hb
theorem rNext_sane {p : Par} (h : SaneP p) : SaneP (rNext p) := by
  unfold rNext
  have hb := begin_sane h
  have hn := begin_ne p
  generalize beginP p = b at *
  split
  · exact ⟨hb.few, hb.each, fun k => absurd k hn⟩
  · refine ⟨by simp; omega, ?_, by simp⟩
    intro x hx
    rcases List.mem_append.1 hx with hx | hx
    · exact hb.each x hx
    · simp at hx; subst hx; exact ⟨by simp, by simp, by intro n hn; simp at hn; subst hn; unfold NumOk; omega⟩
theorem rSub_sane {p : Par} (h : SaneP p) : SaneP (rSub p) := by
  unfold rSub
  have hb := begin_sane h
  have hn := begin_ne p
  obtain ⟨a, q, e⟩ := snoc_of hn
  generalize beginP p = b at *
  split
  · rename_i hc
    cases b with
    | mk l o =>
      simp only at e
      subst e
      have hq := hb.each q (by simp)
      rw [lastMod_snoc]
      refine sane_last hb _ ⟨by simp, ?_, ?_⟩ true
      · have := hc.2; simp [lastLen] at this ⊢; omega
      · intro n hn
        rcases List.mem_append.1 hn with hn | hn
        · exact hq.2.2 n hn
        · simp at hn; subst hn; unfold NumOk; omega
  · exact ⟨hb.few, hb.each, fun k => absurd k hn⟩
theorem digit_sane {c : Nat} {p : Par} : SaneP (digitP c p) := by
  unfold digitP; split
  · rename_i h; split
    · rename_i hc; exact rDigit_sane h hc
    · exact h
  · exact zero_sane
theorem next_sane {p : Par} : SaneP (nextP p) := by
  unfold nextP; split
  · rename_i h; exact rNext_sane h
  · exact zero_sane
theorem sub_sane {p : Par} : SaneP (subP p) := by
  unfold subP; split
  · rename_i h; exact rSub_sane h
  · exact zero_sane
theorem step_sane {p : Par} {c : Nat} : SaneP (stepP p c) := by
  unfold stepP; split
  · exact next_sane
  · split
    · exact sub_sane
    · exact digit_sane
theorem run_sane {p : Par} (h : SaneP p) (s : List Nat) : SaneP (runP p s) := by
  induction s generalizing p with
  | nil => exact h
  | cons c s ih => exact ih step_sane
theorem step_raw {p : Par} (h : SaneP p) (c : Nat) : stepP p c = rStep p c := by
  unfold stepP rStep nextP subP digitP
  simp only [h, if_true]
theorem run_raw {p : Par} (h : SaneP p) (s : List Nat) : runP p s = s.foldl rStep p := by
  induction s generalizing p with
  | nil => rfl
  | cons c s ih =>
    show runP (stepP p c) s = s.foldl rStep (rStep p c)
    rw [ih step_sane, step_raw h]
theorem run_snoc (p : Par) (s : List Nat) (c : Nat) : runP p (s ++ [c]) = stepP (runP p s) c := by simp [runP]

/- Printing. -/
def numP (n : Int) : List Nat := if n = -1 then [] else (Lib.itoa n).map UInt8.toNat
def joinP {α : Type} (sep : Nat) (f : α → List Nat) : List α → List Nat
  | [] => []
  | x :: l => f x ++ l.flatMap fun y => sep :: f y
def oneP (q : List Int) : List Nat := joinP 58 numP q
def printP (l : List (List Int)) : List Nat := joinP 59 oneP l
theorem join_snoc {α : Type} (sep : Nat) (f : α → List Nat) (l : List α) (x : α) (h : l ≠ []) : joinP sep f (l ++ [x]) = joinP sep f l ++ sep :: f x := by
  cases l with
  | nil => exact absurd rfl h
  | cons y l => simp [joinP]
theorem join_one {α : Type} (sep : Nat) (f : α → List Nat) (x : α) : joinP sep f [x] = f x := by simp [joinP]

theorem dec_digits (u : Nat) : ∀ c ∈ (Lib.decDigits u).map UInt8.toNat, isDig c := by
  induction u using Nat.strongRecOn with
  | _ u ih =>
    rw [Lib.decDigits]
    by_cases h : u < 10
    · rw [dif_pos h]
      intro c hc
      simp only [List.map_cons, List.map_nil, List.mem_singleton] at hc
      subst hc
      rw [UInt8.toNat_ofNat']; unfold isDig; omega
    · rw [dif_neg h, List.map_append]
      intro c hc
      rcases List.mem_append.1 hc with hc | hc
      · exact ih (u / 10) (by omega) c hc
      · simp only [List.map_cons, List.map_nil, List.mem_singleton] at hc
        subst hc
        rw [UInt8.toNat_ofNat']; unfold isDig; omega
theorem dec_fold (u : Nat) (hu : u ≤ 65535) : ((Lib.decDigits u).map UInt8.toNat).foldl (fun n c => digN c n) (-1) = (u : Int) := by
  induction u using Nat.strongRecOn with
  | _ u ih =>
    rw [Lib.decDigits]
    by_cases h : u < 10
    · rw [dif_pos h]
      simp only [List.map_cons, List.map_nil, List.foldl_cons, List.foldl_nil]
      rw [UInt8.toNat_ofNat']
      unfold digN; omega
    · rw [dif_neg h, List.map_append, List.foldl_append, ih (u / 10) (by omega) (by omega)]
      simp only [List.map_cons, List.map_nil, List.foldl_cons, List.foldl_nil]
      rw [UInt8.toNat_ofNat']
      unfold digN; omega
theorem dec_ne (u : Nat) : Lib.decDigits u ≠ [] := by
  intro h
  have := Lib.decDigits_length u
  rw [h] at this
  have := Lib.nDigits_pos u
  simp at *
  omega
theorem num_ne {n : Int} (h : n ≠ -1) : numP n ≠ [] := by
  unfold numP Lib.itoa
  rw [if_neg h]
  split
  · simp
  · simp [dec_ne]
theorem num_nat (u : Nat) : numP (u : Int) = (Lib.decDigits u).map UInt8.toNat := by
  unfold numP Lib.itoa
  rw [if_neg (by omega), if_neg (by omega)]
  simp
theorem num_digits {n : Int} (h : NumOk n) : ∀ c ∈ numP n, isDig c := by
  by_cases h1 : n = -1
  · subst h1; simp [numP]
  · obtain ⟨u, rfl⟩ : ∃ u : Nat, n = (u : Int) := ⟨n.toNat, by unfold NumOk at h; omega⟩
    rw [num_nat]; exact dec_digits u
theorem num_fold {n : Int} (h : NumOk n) : (numP n).foldl (fun n c => digN c n) (-1) = n := by
  by_cases h1 : n = -1
  · subst h1; simp [numP]
  · obtain ⟨u, rfl⟩ : ∃ u : Nat, n = (u : Int) := ⟨n.toNat, by unfold NumOk at h; omega⟩
    rw [num_nat]; exact dec_fold u (by unfold NumOk at h; omega)

theorem begin_some {l : List (List Int)} {q : List Int} {o : Bool} : beginP ⟨l ++ [q], o⟩ = ⟨l ++ [q], o⟩ := by simp [beginP]
theorem raw_digits (ds : List Nat) (hd : ∀ c ∈ ds, isDig c) (ps : List (List Int)) (q : List Int) (n : Int) :
    ds.foldl rStep ⟨ps ++ [q ++ [n]], true⟩ = ⟨ps ++ [q ++ [ds.foldl (fun n c => digN c n) n]], true⟩ := by
  induction ds generalizing n with
  | nil => rfl
  | cons c ds ih =>
    have hc := hd c (by simp)
    have e : rStep ⟨ps ++ [q ++ [n]], true⟩ c = ⟨ps ++ [q ++ [digN c n]], true⟩ := by
      have hc' := hc
      unfold isDig at hc'
      unfold rStep
      rw [if_neg (by omega), if_neg (by omega), if_pos hc]
      unfold rDigit
      rw [begin_some]
      simp [lastMod_snoc]
    rw [List.foldl_cons, e, ih (fun x hx => hd x (by simp [hx]))]
    rfl
theorem raw_num {n : Int} (h : NumOk n) (ps : List (List Int)) (q : List Int) : (numP n).foldl rStep ⟨ps ++ [q ++ [-1]], true⟩ = ⟨ps ++ [q ++ [n]], true⟩ := by
  rw [raw_digits _ (num_digits h), num_fold h]
theorem raw_more (q' : List Int) (hq : ∀ n ∈ q', NumOk n) (ps : List (List Int)) (q : List Int) (hl : q.length + q'.length ≤ 6) :
    (q'.flatMap fun n => 58 :: numP n).foldl rStep ⟨ps ++ [q], true⟩ = ⟨ps ++ [q ++ q'], true⟩ := by
  induction q' generalizing q with
  | nil => simp
  | cons n q' ih =>
    have e : rStep ⟨ps ++ [q], true⟩ 58 = ⟨ps ++ [q ++ [-1]], true⟩ := by
      unfold rStep
      rw [if_neg (by omega), if_pos rfl]
      unfold rSub
      rw [begin_some, if_pos ⟨rfl, by simp [lastLen] at hl ⊢; omega⟩]
      simp [lastMod_snoc]
    rw [List.flatMap_cons, List.foldl_append, List.foldl_cons, e, raw_num (hq n (by simp)), ih (fun x hx => hq x (by simp [hx])) _ (by simp at hl ⊢; omega)]
    simp
theorem raw_one {q : List Int} (h : OneOk q) (ps : List (List Int)) : (oneP q).foldl rStep ⟨ps ++ [[-1]], true⟩ = ⟨ps ++ [q], true⟩ := by
  cases q with
  | nil => exact absurd rfl (one_ne h)
  | cons n q =>
    unfold oneP joinP
    have e := raw_num (h.2.2 n (by simp)) ps []
    simp only [List.nil_append] at e
    rw [List.foldl_append, e, raw_more q (fun x hx => h.2.2 x (by simp [hx])) ps [n] (by have := h.2.1; simp at this ⊢; omega)]
    simp
theorem raw_ones (l : List (List Int)) (hl : ∀ q ∈ l, OneOk q) (ps : List (List Int)) (q : List Int) (hn : ps.length + 1 + l.length ≤ 16) :
    (l.flatMap fun q => 59 :: oneP q).foldl rStep ⟨ps ++ [q], true⟩ = ⟨ps ++ q :: l, true⟩ := by
  induction l generalizing ps q with
  | nil => simp
  | cons x l ih =>
    have e : rStep ⟨ps ++ [q], true⟩ 59 = ⟨(ps ++ [q]) ++ [[-1]], true⟩ := by
      unfold rStep
      rw [if_pos rfl]
      unfold rNext
      rw [begin_some, if_neg (by simp at hn ⊢; omega)]
    rw [List.flatMap_cons, List.foldl_append, List.foldl_cons, e, raw_one (hl x (by simp)), ih (fun y hy => hl y (by simp [hy])) _ _ (by simp at hn ⊢; omega)]
    simp
theorem raw_print {l : List (List Int)} (h : SaneP ⟨l, true⟩) : (printP l).foldl rStep ⟨[[-1]], true⟩ = ⟨l, true⟩ := by
  cases l with
  | nil => exact absurd (h.shut rfl) (by simp)
  | cons q l =>
    unfold printP joinP
    have e := raw_one (h.each q (by simp)) []
    simp only [List.nil_append] at e
    have e2 := raw_ones l (fun x hx => h.each x (by simp [hx])) [] q (by have := h.few; simp at this ⊢; omega)
    simp only [List.nil_append] at e2
    rw [List.foldl_append, e, e2]
theorem one_bytes {q : List Int} (h : ∀ n ∈ q, NumOk n) : ∀ c ∈ oneP q, isByte c := by
  cases q with
  | nil => simp [oneP, joinP]
  | cons n q =>
    intro c hc
    unfold oneP joinP at hc
    rcases List.mem_append.1 hc with hc | hc
    · exact .inl (num_digits (h n (by simp)) c hc)
    · obtain ⟨x, hx, hc⟩ := List.mem_flatMap.1 hc
      rcases List.mem_cons.1 hc with rfl | hc
      · exact .inr (.inl rfl)
      · exact .inl (num_digits (h x (by simp [hx])) c hc)
theorem print_bytes {l : List (List Int)} (h : ∀ q ∈ l, OneOk q) : ∀ c ∈ printP l, isByte c := by
  cases l with
  | nil => simp [printP, joinP]
  | cons q l =>
    intro c hc
    unfold printP joinP at hc
    rcases List.mem_append.1 hc with hc | hc
    · exact one_bytes (h q (by simp)).2.2 c hc
    · obtain ⟨x, hx, hc⟩ := List.mem_flatMap.1 hc
      rcases List.mem_cons.1 hc with rfl | hc
      · exact .inr (.inr rfl)
      · exact one_bytes (h x (by simp [hx])).2.2 c hc
theorem one_nil {q : List Int} (h : oneP q = []) (hq : OneOk q) : q = [-1] := by
  cases q with
  | nil => exact absurd rfl (one_ne hq)
  | cons n q =>
    unfold oneP joinP at h
    obtain ⟨h1, h2⟩ := List.append_eq_nil_iff.1 h
    have hn : n = -1 := by
      by_cases k : n = -1
      · exact k
      · exact absurd h1 (num_ne k)
    cases q with
    | nil => rw [hn]
    | cons m q => simp at h2
theorem print_nil {l : List (List Int)} (h : printP l = []) (hl : ∀ q ∈ l, OneOk q) : l = [] ∨ l = [[-1]] := by
  cases l with
  | nil => exact .inl rfl
  | cons q l =>
    unfold printP joinP at h
    obtain ⟨h1, h2⟩ := List.append_eq_nil_iff.1 h
    cases l with
    | nil => rw [one_nil h1 (hl q (by simp))]; exact .inr rfl
    | cons m l => simp at h2
theorem begin_zero (c : Nat) : rStep zeroP c = rStep ⟨[[-1]], true⟩ c ∨ ¬ isByte c := by
  by_cases h : isByte c
  · refine .inl ?_
    have e1 : beginP zeroP = ⟨[[-1]], true⟩ := rfl
    have e2 : beginP ⟨[[-1]], true⟩ = ⟨[[-1]], true⟩ := rfl
    unfold rStep
    split
    · unfold rNext; rw [e1, e2]
    · split
      · unfold rSub; rw [e1, e2]
      · split
        · unfold rDigit; rw [e1, e2]
        · rename_i h1 h2 h3
          rcases h with h | h | h
          · exact absurd h h3
          · exact absurd h h2
          · exact absurd h h1
  · exact .inr h
/-- What is printed is parsed. -/
theorem parse_print {l : List (List Int)} (h : SaneP ⟨l, false⟩) : parseP (printP l) = some (if l = [[-1]] then [] else l) := by
  unfold parseP
  rw [if_pos (print_bytes h.each), run_raw zero_sane]
  by_cases hn : printP l = []
  · rw [hn]
    rcases print_nil hn h.each with rfl | rfl
    · rfl
    · rfl
  · have hl : l ≠ [] := by rintro rfl; exact hn rfl
    have hl1 : l ≠ [[-1]] := by rintro rfl; exact hn rfl
    rw [if_neg hl1]
    have hs : SaneP ⟨l, true⟩ := ⟨h.few, h.each, fun k => absurd k hl⟩
    have e := raw_print hs
    have hb := print_bytes h.each
    generalize printP l = t at *
    cases t with
    | nil => exact absurd rfl hn
    | cons c t =>
      rcases begin_zero c with k | k
      · rw [List.foldl_cons, k, ← List.foldl_cons, e]
      · exact absurd (hb c (by simp)) k
theorem num_len {n : Int} (h : NumOk n) : (numP n).length ≤ 5 := by
  by_cases h1 : n = -1
  · subst h1; simp [numP]
  · obtain ⟨u, rfl⟩ : ∃ u : Nat, n = (u : Int) := ⟨n.toNat, by unfold NumOk at h; omega⟩
    rw [num_nat, List.length_map, Lib.decDigits_length]
    have hu : u ≤ 65535 := by unfold NumOk at h; omega
    by_cases h5 : u < 10000
    · by_cases a1 : u < 10
      · rw [Lib.nDigits_small a1]; omega
      · rw [Lib.nDigits_big a1]
        by_cases a2 : u / 10 < 10
        · rw [Lib.nDigits_small a2]; omega
        · rw [Lib.nDigits_big a2]
          by_cases a3 : u / 10 / 10 < 10
          · rw [Lib.nDigits_small a3]; omega
          · rw [Lib.nDigits_big a3, Lib.nDigits_small (by omega)]; omega
    · rw [Lib.nDigits_unique 4 u (by omega) (by omega)]; omega
theorem flat_len {α : Type} (sep : Nat) (f : α → List Nat) (k : Nat) (l : List α) (h : ∀ x ∈ l, (f x).length ≤ k) : (l.flatMap fun y => sep :: f y).length ≤ l.length * (k + 1) := by
  induction l with
  | nil => simp
  | cons x l ih =>
    have h1 := h x (by simp)
    have h2 := ih (fun y hy => h y (by simp [hy]))
    simp only [List.flatMap_cons, List.length_append, List.length_cons, Nat.add_mul, Nat.one_mul] at *
    omega
theorem one_len {q : List Int} (h : OneOk q) : (oneP q).length ≤ 35 := by
  cases q with
  | nil => simp [oneP, joinP]
  | cons n q =>
    unfold oneP joinP
    have h1 := num_len (h.2.2 n (by simp))
    have h2 := flat_len 58 numP 5 q (fun x hx => num_len (h.2.2 x (by simp [hx])))
    have h3 := h.2.1
    simp only [List.length_append, List.length_cons] at *
    omega
theorem print_len {l : List (List Int)} {o : Bool} (h : SaneP ⟨l, o⟩) : (printP l).length ≤ 575 := by
  cases l with
  | nil => simp [printP, joinP]
  | cons q l =>
    unfold printP joinP
    have h1 := one_len (h.each q (by simp))
    have h2 := flat_len 59 oneP 35 l (fun x hx => one_len (h.each x (by simp [hx])))
    have h3 := h.few
    simp only [List.length_append, List.length_cons] at *
    omega
end Go.Proofs.Ytinbdpfjpcgikaa

namespace Go.Proofs.Ytinbdpfjpcgikaa
open Go Go.RowKit
set_option linter.unusedVariables false
set_option linter.unusedSimpArgs false

def strS (l : List Nat) : ByteArray := ⟨(l.map UInt8.ofNat).toArray⟩
theorem strS_append (a b : List Nat) : strS (a ++ b) = strS a ++ strS b := by
  apply ByteArray.ext
  simp [strS]
theorem strS_num {n : Int} (h : n ≠ -1) : strS (numP n) = ⟨(Lib.itoa n).toArray⟩ := by
  unfold strS numP
  rw [if_neg h, List.map_map]
  have : (UInt8.ofNat ∘ UInt8.toNat) = id := by funext x; simp
  rw [this, List.map_id]
theorem print_snoc (l : List (List Int)) (q : List Int) : printP (l ++ [q]) = (if l = [] then [] else printP l ++ [59]) ++ oneP q := by
  split
  · rename_i h; subst h; exact join_one _ _ _
  · rename_i h; unfold printP; rw [join_snoc _ _ _ _ h]; simp
theorem one_snoc (q : List Int) (n : Int) : oneP (q ++ [n]) = (if q = [] then [] else oneP q ++ [58]) ++ numP n := by
  split
  · rename_i h; subst h; exact join_one _ _ _
  · rename_i h; unfold oneP; rw [join_snoc _ _ _ _ h]; simp
def I64 (n : Int) : Prop := -9223372036854775808 ≤ n ∧ n ≤ 9223372036854775807
def fewB (l : List (List Int)) : Bool := decide (l.length ≤ 30 ∧ ∀ q ∈ l, q.length ≤ 20)
theorem strS_size (l : List Nat) : (strS l).size = l.length := by simp [strS, ByteArray.size]
theorem len_num {n : Int} (h : I64 n) : (numP n).length ≤ 21 := by
  unfold numP
  split
  · simp
  · rw [List.length_map]; exact Lib.itoa_length_le n h.1 h.2
theorem len_one {q : List Int} (h : ∀ n ∈ q, I64 n) : (oneP q).length ≤ q.length * 22 := by
  cases q with
  | nil => simp [oneP, joinP]
  | cons n q =>
    unfold oneP joinP
    have h1 := len_num (h n (by simp))
    have h2 := flat_len 58 numP 21 q (fun x hx => len_num (h x (by simp [hx])))
    simp only [List.length_append, List.length_cons] at *
    omega
theorem len_print {l : List (List Int)} (h : ∀ q ∈ l, q.length ≤ 20 ∧ ∀ n ∈ q, I64 n) : (printP l).length ≤ l.length * 441 := by
  have h0 : ∀ q ∈ l, (oneP q).length ≤ 440 := fun q hq => by
    have h1 := len_one (h q hq).2
    have h2 := (h q hq).1
    omega
  cases l with
  | nil => simp [printP, joinP]
  | cons q l =>
    unfold printP joinP
    have h1 := h0 q (by simp)
    have h2 := flat_len 59 oneP 440 l (fun x hx => h0 x (by simp [hx]))
    simp only [List.length_append, List.length_cons] at *
    omega
end Go.Proofs.Ytinbdpfjpcgikaa

namespace Go.Proofs.Ytinbdpfjpcgikaa
open Go Go.RowKit Go.ChangeShapes Go.WideShapes Go.ChangeAt Go.Deep
set_option linter.unusedVariables false
set_option linter.unusedSimpArgs false

theorem own : ownKnob Try.prog.godebug = none := by kernel_rfl
theorem laid : laidOutB Try.prog = true := by kernel_rfl
theorem wf_i64 {k : Int} (h : (Lit.int .i64 k).wf = true) : I64 k := by
  have := range_i64 (zs := [k]) (by intro n hn; simp at hn; subst hn; exact h) 0
  unfold I64
  simpa using this
theorem wf_u8 {k : Int} (h : (Lit.int .u8 k).wf = true) : 0 ≤ k ∧ k < 256 := by
  have := range_u8 (zs := [k]) (by intro n hn; simp at hn; subst hn; exact h) 0
  simp at this
  omega
end Go.Proofs.Ytinbdpfjpcgikaa

namespace Go.Proofs.Ytinbdpfjpcgikaa
open Go Go.RowKit Go.ChangeShapes Go.WideShapes Go.ChangeAt Go.Deep
theorem trodAll_five {H : Type} {enc : TypeId × Value → H} {P : Program} {w : World} {base : Nat} {spare : Nat → Bool} {held : Bool} {t0 t1 t2 t3 t4 : TypeId} {args : Array Value} {ds : List (DataW H)} {ps : List MemPlace} (h : DataW.TrodAll enc P w base spare held [t0, t1, t2, t3, t4] args.toList ds ps) :
    ∃ v0 v1 v2 v3 v4 d0 d1 d2 d3 d4 p0 p1 p2 p3 p4, args = #[v0, v1, v2, v3, v4] ∧ ds = [d0, d1, d2, d3, d4] ∧ ps = p0 ++ (p1 ++ (p2 ++ (p3 ++ p4))) ∧
      DataW.Trod enc P w base spare held t0 v0 d0 p0 ∧ DataW.Trod enc P w base spare held t1 v1 d1 p1 ∧ DataW.Trod enc P w base spare held t2 v2 d2 p2 ∧ DataW.Trod enc P w base spare held t3 v3 d3 p3 ∧ DataW.Trod enc P w base spare held t4 v4 d4 p4 := by
  obtain ⟨v0, vs, d0, ds0, p0, q, hargs, rfl, rfl, h0, hr⟩ := trodAll_cons h
  obtain ⟨v1, vs1, d1, ds1, p1, q1, rfl, rfl, rfl, h1, hr1⟩ := trodAll_cons hr
  obtain ⟨v2, vs2, d2, ds2, p2, q2, rfl, rfl, rfl, h2, hr2⟩ := trodAll_cons hr1
  obtain ⟨v3, vs3, d3, ds3, p3, q3, rfl, rfl, rfl, h3, hr3⟩ := trodAll_cons hr2
  obtain ⟨v4, vs4, d4, ds4, p4, q4, rfl, rfl, rfl, h4, hr4⟩ := trodAll_cons hr3
  obtain ⟨rfl, rfl, rfl⟩ := trodAll_nil hr4
  exact ⟨v0, v1, v2, v3, v4, d0, d1, d2, d3, d4, p0, p1, p2, p3, p4, by cases args; simp_all, rfl, by simp, h0, h1, h2, h3, h4⟩
end Go.Proofs.Ytinbdpfjpcgikaa

namespace Go.Proofs.Ytinbdpfjpcgikaa
set_option linter.unusedVariables false
set_option linter.unusedSimpArgs false

structure Pn where
  fg : Int
  bg : Int
  fl : Int
deriving DecidableEq
def zeroN : Pn := ⟨0, 0, 0⟩
def ColOk (c : Int) : Prop := c = 0 ∨ (1 ≤ c ∧ c ≤ 256) ∨ (16777216 ≤ c ∧ c < 33554432)
instance (c : Int) : Decidable (ColOk c) := inferInstanceAs (Decidable (_ ∨ _ ∨ _))
def SaneN (p : Pn) : Prop := ColOk p.fg ∧ ColOk p.bg ∧ 0 ≤ p.fl ∧ p.fl ≤ 511
instance (p : Pn) : Decidable (SaneN p) := inferInstanceAs (Decidable (_ ∧ _ ∧ _ ∧ _))
theorem zeroN_sane : SaneN zeroN := by decide
def clampN (x : Int) : Int := max 0 (min x 255)
def rgbN (r g b : Int) : Int := 16777216 + clampN r * 65536 + clampN g * 256 + clampN b
/-- Of what a colour is. -/
def partsN (c : Int) : Int × Int × Int × Int :=
  if c = 0 then (0, 0, 0, 0) else if 1 ≤ c ∧ c ≤ 256 then (1, c - 1, 0, 0) else if 16777216 ≤ c ∧ c < 33554432 then (2, c / 65536 % 256, c / 256 % 256, c % 256) else (3, 0, 0, 0)
def hasN (f b : Int) : Bool := decide (f / b % 2 = 1)
def offN (f b : Int) : Int := if hasN f b then f - b else f
def onN (f b : Int) : Int := offN f b + b
def underN (f b : Int) : Int := if 0 < b then onN (offN (offN f 8) 256) b else offN (offN f 8) 256
/-- What the numbers 1 to 29 do to the flags; s: the second number. -/
def flagN (f n : Int) (s : Option Int) : Int :=
  if (n = 4 ∧ s = some 0) ∨ n = 24 then underN f 0
  else if n = 21 ∨ (n = 4 ∧ s = some 2) then underN f 256
  else if n = 4 then underN f 8
  else if n = 1 then onN f 1 else if n = 2 then onN f 2 else if n = 3 then onN f 4 else if n = 5 then onN f 16 else if n = 7 then onN f 32 else if n = 8 then onN f 64 else if n = 9 then onN f 128
  else if n = 22 then offN (offN f 1) 2
  else if n = 23 then offN f 4 else if n = 25 then offN f 16 else if n = 27 then offN f 32 else if n = 28 then offN f 64 else if n = 29 then offN f 128
  else f
def secN (q : List Int) : Option Int := q[1]?
/-- What a number does that is none of 38 and 48. -/
def oneN (p : Pn) (n : Int) (q : List Int) : Pn :=
  if n = 0 ∨ n = -1 then zeroN
  else if 1 ≤ n ∧ n ≤ 29 then { p with fl := flagN p.fl n (secN q) }
  else if 30 ≤ n ∧ n ≤ 37 then { p with fg := n - 29 }
  else if n = 39 then { p with fg := 0 }
  else if 40 ≤ n ∧ n ≤ 47 then { p with bg := n - 39 }
  else if n = 49 then { p with bg := 0 }
  else if 90 ≤ n ∧ n ≤ 97 then { p with fg := n - 81 }
  else if 100 ≤ n ∧ n ≤ 107 then { p with bg := n - 91 }
  else p
def atN (l : List Int) (k : Nat) : Int := l.getD k (-2)
def partB (n : Int) : Bool := decide (0 ≤ n ∧ n ≤ 255)
/-- A colour by numbers, and how many of them. -/
def colourN (l : List Int) (own : Bool) : Option (Int × Nat) :=
  if atN l 0 = 5 ∧ partB (atN l 1) = true then some (atN l 1 + 1, 2)
  else
    let k := if own = true ∧ 5 ≤ l.length then 2 else 1
    if atN l 0 = 2 ∧ partB (atN l k) = true ∧ partB (atN l (k + 1)) = true ∧ partB (atN l (k + 2)) = true then some (rgbN (atN l k) (atN l (k + 1)) (atN l (k + 2)), 4) else none
def firstN (q : List Int) : Int := atN q 0
def putN (p : Pn) (n c : Int) : Pn := if n = 48 then { p with bg := c } else { p with fg := c }
def goN (p : Pn) (l : List (List Int)) : Pn :=
  match l with
  | [] => p
  | q :: l =>
    if firstN q = 38 ∨ firstN q = 48 then
      (if 1 < q.length then
        (match colourN q.tail true with
        | some (c, _) => goN (putN p (firstN q) c) l
        | none => goN p l)
      else
        (match colourN (l.map firstN) false with
        | some (c, k) => goN (putN p (firstN q) c) (l.drop k)
        | none => p))
    else goN (oneN p (firstN q) q) l
termination_by l.length
decreasing_by all_goals (simp only [List.length_drop, List.length_cons]; omega)
def applyN (p : Pn) (l : List (List Int)) : Pn := if SaneN p ∧ l ≠ [] then goN p l else zeroN
def bitsN : List (Int × Int) := [(1, 1), (2, 2), (4, 3), (8, 4), (16, 5), (32, 7), (64, 8), (128, 9), (256, 21)]
def flagsN (f : Int) : List (List Int) := (bitsN.filter fun x => hasN f x.1).map fun x => [x.2]
def shadeN (c back : Int) : List (List Int) :=
  if 1 ≤ c ∧ c ≤ 8 then [[29 + back + c]] else if 9 ≤ c ∧ c ≤ 16 then [[81 + back + c]] else if 17 ≤ c ∧ c ≤ 256 then [[38 + back], [5], [c - 1]]
  else if 16777216 ≤ c ∧ c < 33554432 then [[38 + back], [2], [c / 65536 % 256], [c / 256 % 256], [c % 256]] else []
def printN (p : Pn) : List (List Int) := if SaneN p then [0] :: flagsN p.fl ++ shadeN p.fg 0 ++ shadeN p.bg 10 else []

theorem goN_nil (p : Pn) : goN p [] = p := by rw [goN]
theorem goN_plain (p : Pn) (q : List Int) (l : List (List Int)) (h : ¬ (firstN q = 38 ∨ firstN q = 48)) : goN p (q :: l) = goN (oneN p (firstN q) q) l := by
  rw [goN, if_neg h]
/- Sane pens stay so. -/
def Fl (f : Int) : Prop := 0 ≤ f ∧ f ≤ 511
def allF (P : Int → Bool) : Bool := (List.range 512).all fun k => P (k : Int)
theorem allF_spec {P : Int → Bool} (h : allF P = true) {f : Int} (hf : Fl f) : P f = true := by
  unfold Fl at hf
  unfold allF at h
  rw [List.all_eq_true] at h
  have := h f.toNat (List.mem_range.2 (by omega))
  rwa [show ((f.toNat : Nat) : Int) = f from by omega] at this
def flB (f : Int) : Bool := decide (0 ≤ f ∧ f ≤ 511)
theorem flB_iff {f : Int} : flB f = true ↔ Fl f := by simp [flB, Fl]
def numsN : List Int := [1, 2, 3, 4, 5, 6, 7, 8, 9, 10, 11, 12, 13, 14, 15, 16, 17, 18, 19, 20, 21, 22, 23, 24, 25, 26, 27, 28, 29]
theorem flag_some (f n : Int) (s : Option Int) : flagN f n s = flagN f n none ∨ flagN f n s = flagN f n (some 0) ∨ flagN f n s = flagN f n (some 2) := by
  by_cases h0 : s = some 0
  · subst h0; exact .inr (.inl rfl)
  · by_cases h2 : s = some 2
    · subst h2; exact .inr (.inr rfl)
    · refine .inl ?_
      unfold flagN
      simp [h0, h2]
theorem flag_all : allF (fun f => numsN.all fun n => flB (flagN f n none) && (flB (flagN f n (some 0)) && flB (flagN f n (some 2)))) = true := by decide +kernel
theorem flag_ok {f n : Int} (s : Option Int) (hf : Fl f) (hn : 1 ≤ n ∧ n ≤ 29) : Fl (flagN f n s) := by
  have h := allF_spec flag_all hf
  rw [List.all_eq_true] at h
  have hm : n ∈ numsN := by
    simp only [numsN, List.mem_cons, List.not_mem_nil, or_false]; omega
  have := h n hm
  simp only [Bool.and_eq_true, flB_iff] at this
  rcases flag_some f n s with e | e | e <;> rw [e]
  · exact this.1
  · exact this.2.1
  · exact this.2.2
theorem one_ok {p : Pn} (h : SaneN p) (n : Int) (q : List Int) : SaneN (oneN p n q) := by
  obtain ⟨h1, h2, h3, h4⟩ := h
  have hz := zeroN_sane
  unfold oneN
  split
  · exact hz
  split
  · rename_i hn; exact ⟨h1, h2, flag_ok _ ⟨h3, h4⟩ hn⟩
  split
  · exact ⟨by unfold ColOk; simp only; omega, h2, h3, h4⟩
  split
  · exact ⟨.inl rfl, h2, h3, h4⟩
  split
  · exact ⟨h1, by unfold ColOk; simp only; omega, h3, h4⟩
  split
  · exact ⟨h1, .inl rfl, h3, h4⟩
  split
  · exact ⟨by unfold ColOk; simp only; omega, h2, h3, h4⟩
  split
  · exact ⟨h1, by unfold ColOk; simp only; omega, h3, h4⟩
  · exact ⟨h1, h2, h3, h4⟩
theorem rgb_ok (r g b : Int) : ColOk (rgbN r g b) := by
  unfold ColOk rgbN clampN; omega
theorem colour_ok {l : List Int} {own : Bool} {c : Int} {k : Nat} (h : colourN l own = some (c, k)) : ColOk c := by
  unfold colourN at h
  split at h
  · rename_i hh
    simp only [Option.some.injEq, Prod.mk.injEq] at h
    have := hh.2
    simp only [partB, decide_eq_true_eq] at this
    unfold ColOk; omega
  · dsimp only at h
    split at h <;> split at h
    all_goals first
      | (simp only [Option.some.injEq, Prod.mk.injEq] at h; rw [← h.1]; exact rgb_ok _ _ _)
      | cases h
theorem put_ok {p : Pn} (h : SaneN p) (n : Int) {c : Int} (hc : ColOk c) : SaneN (putN p n c) := by
  obtain ⟨h1, h2, h3, h4⟩ := h
  unfold putN
  split
  · exact ⟨h1, hc, h3, h4⟩
  · exact ⟨hc, h2, h3, h4⟩
theorem go_ok : ∀ (n : Nat) (l : List (List Int)) (p : Pn), l.length ≤ n → SaneN p → SaneN (goN p l) := by
  intro n
  induction n with
  | zero =>
    intro l p hl h
    rw [List.eq_nil_of_length_eq_zero (by omega : l.length = 0), goN_nil]; exact h
  | succ n ih =>
    intro l p hl h
    cases l with
    | nil => rw [goN_nil]; exact h
    | cons q l =>
      simp only [List.length_cons] at hl
      rw [goN]
      split
      · split
        · split
          · rename_i c k hc
            exact ih l _ (by omega) (put_ok h _ (colour_ok hc))
          · exact ih l _ (by omega) h
        · split
          · rename_i c k hc
            exact ih _ _ (by simp only [List.length_drop]; omega) (put_ok h _ (colour_ok hc))
          · exact h
      · exact ih l _ (by omega) (one_ok h _ _)
theorem apply_ok (p : Pn) (l : List (List Int)) : SaneN (applyN p l) := by
  unfold applyN
  split
  · rename_i h; exact go_ok _ l p (Nat.le_refl _) h.1
  · exact zeroN_sane
/- One lot behind the other. -/
theorem go_app (l m : List (List Int)) (p : Pn) (h : ∀ q ∈ l, ¬ (firstN q = 38 ∨ firstN q = 48)) : goN p (l ++ m) = goN (goN p l) m := by
  induction l generalizing p with
  | nil => rw [List.nil_append, goN_nil]
  | cons q l ih =>
    rw [List.cons_append, goN_plain p q _ (h q (by simp)), goN_plain p q _ (h q (by simp)), ih _ (fun x hx => h x (by simp [hx]))]
end Go.Proofs.Ytinbdpfjpcgikaa

namespace Go.Proofs.Ytinbdpfjpcgikaa
open Go Go.RowKit
set_option linter.unusedVariables false
set_option linter.unusedSimpArgs false

def pnV (p : Pn) : Value := .agg #[.int .i64 p.fg, .int .i64 p.bg, .int .i64 p.fl]
def PnOk (p : Pn) : Prop := I64 p.fg ∧ I64 p.bg ∧ I64 p.fl
theorem col_i64 {c : Int} (h : ColOk c) : I64 c := by unfold ColOk at h; unfold I64; omega
theorem SaneN.ok {p : Pn} (h : SaneN p) : PnOk p := ⟨col_i64 h.1, col_i64 h.2.1, by have := h.2.2; unfold I64; omega⟩
theorem zero_ok : PnOk zeroN := zeroN_sane.ok
end Go.Proofs.Ytinbdpfjpcgikaa

namespace Go.Proofs.Ytinbdpfjpcgikaa
set_option linter.unusedVariables false
set_option linter.unusedSimpArgs false

structure Cl where
  r : Int
  m0 : Int
  m1 : Int
  w : Int
  pen : Pn
deriving DecidableEq
structure Rw where
  cs : List Cl
  wrap : Bool
  dir : Int
  ex : Bool
deriving DecidableEq
def blankC (p : Pn) : Cl := ⟨0, 0, 0, 1, p⟩
def halfC (p : Pn) : Cl := ⟨0, 0, 0, 0, p⟩
def LetC (n : Int) : Prop := 0 ≤ n ∧ n ≤ 1114111
instance (n : Int) : Decidable (LetC n) := inferInstanceAs (Decidable (_ ∧ _))
def OneC (c : Cl) : Prop := (0 ≤ c.w ∧ c.w ≤ 2) ∧ (LetC c.r ∧ LetC c.m0 ∧ LetC c.m1) ∧ SaneN c.pen ∧ (c.m0 ≠ 0 ∨ c.m1 = 0) ∧ (c.r ≠ 0 ∨ c.m0 = 0) ∧ (c.w ≠ 0 ∨ c.r = 0) ∧ (c.w ≠ 2 ∨ c.r ≠ 0)
instance (c : Cl) : Decidable (OneC c) := inferInstanceAs (Decidable (_ ∧ _ ∧ _ ∧ _ ∧ _ ∧ _ ∧ _))
theorem blank_one {p : Pn} (h : SaneN p) : OneC (blankC p) := ⟨by simp [blankC], by simp [blankC, LetC], h, by simp [blankC], by simp [blankC], by simp [blankC], by simp [blankC]⟩
theorem half_one {p : Pn} (h : SaneN p) : OneC (halfC p) := ⟨by simp [halfC], by simp [halfC, LetC], h, by simp [halfC], by simp [halfC], by simp [halfC], by simp [halfC]⟩
/-- The width of what stands at a place; 1 where nothing stands. -/
def wAt (l : List Cl) (i : Nat) : Int := ((l[i]?).map Cl.w).getD 1
theorem wAt_some {l : List Cl} {i : Nat} {c : Cl} (h : l[i]? = some c) : wAt l i = c.w := by unfold wAt; rw [h]; rfl
theorem wAt_none {l : List Cl} {i : Nat} (h : l.length ≤ i) : wAt l i = 1 := by unfold wAt; rw [List.getElem?_eq_none h]; rfl
/-- One that is to be mended. -/
def BadAt (l : List Cl) (i : Nat) : Prop := (wAt l i = 2 ∧ wAt l (i + 1) ≠ 0) ∨ (wAt l i = 0 ∧ (i = 0 ∨ wAt l (i - 1) ≠ 2))
instance (l : List Cl) (i : Nat) : Decidable (BadAt l i) := inferInstanceAs (Decidable (_ ∨ _))
def mendL (l : List Cl) : List Cl := l.mapIdx fun i c => if BadAt l i then blankC c.pen else c
theorem mend_len (l : List Cl) : (mendL l).length = l.length := by simp [mendL]
theorem mend_at (l : List Cl) (i : Nat) : (mendL l)[i]? = (l[i]?).map fun c => if BadAt l i then blankC c.pen else c := by simp [mendL, List.getElem?_mapIdx]
theorem mend_good {l : List Cl} {i : Nat} (h : ¬ BadAt l i) : (mendL l)[i]? = l[i]? := by
  rw [mend_at]
  cases l[i]? with
  | none => rfl
  | some c => simp [h]
theorem bad_lt {l : List Cl} {i : Nat} (h : BadAt l i) : i < l.length := by
  rcases Nat.lt_or_ge i l.length with k | k
  · exact k
  · have := wAt_none k
    rcases h with h | h <;> omega
theorem mend_same {l : List Cl} : mendL l = l ↔ ∀ i, ¬ BadAt l i := by
  constructor
  · intro h i hb
    have hi := bad_lt hb
    have h1 := mend_at l i
    rw [h, List.getElem?_eq_getElem hi] at h1
    simp only [Option.map_some, Option.some.injEq, if_pos hb] at h1
    have hw : wAt l i = (l[i]).w := wAt_some (List.getElem?_eq_getElem hi)
    have h2 : (l[i]).w = 1 := by rw [h1]; rfl
    rcases hb with hb | hb <;> omega
  · intro h
    apply List.ext_getElem?
    intro i
    exact mend_good (h i)
/-- A mended row needs no mending. -/
theorem mend_w (l : List Cl) (i : Nat) : wAt (mendL l) i = if BadAt l i then 1 else wAt l i := by
  unfold wAt
  rw [mend_at]
  cases h : l[i]? with
  | none =>
    have : ¬ BadAt l i := fun hb => by have := bad_lt hb; rw [List.getElem?_eq_none_iff] at h; omega
    rw [if_neg this]
    rfl
  | some c =>
    simp only [Option.map_some, Option.getD_some]
    split <;> rfl
theorem mend_twice (l : List Cl) : mendL (mendL l) = mendL l := by
  rw [mend_same]
  intro i hb
  unfold BadAt at hb
  rw [mend_w, mend_w] at hb
  by_cases h0 : BadAt l i
  · rw [if_pos h0] at hb
    rcases hb with hb | hb <;> omega
  · rw [if_neg h0] at hb
    rcases hb with ⟨h2, h3⟩ | ⟨h2, h3⟩
    · have h4 : wAt l (i + 1) = 0 := by
        unfold BadAt at h0
        have := h0
        omega
      have h5 : ¬ BadAt l (i + 1) := by
        intro hb
        rcases hb with hb | hb
        · omega
        · rcases hb.2 with h | h
          · omega
          · simp at h; omega
      rw [if_neg h5] at h3
      omega
    · rcases h3 with h3 | h3
      · unfold BadAt at h0
        exact h0 (.inr ⟨h2, .inl h3⟩)
      · rw [mend_w] at h3
        by_cases hi : i = 0
        · exact h0 (.inr ⟨h2, .inl hi⟩)
        · have h6 : wAt l (i - 1) = 2 := by
            rcases Decidable.em (wAt l (i - 1) = 2) with h | h
            · exact h
            · exact absurd (.inr ⟨h2, .inr h⟩) h0
          have h7 : ¬ BadAt l (i - 1) := by
            intro hb
            rcases hb with hb | hb
            · rw [show i - 1 + 1 = i from by omega] at hb; omega
            · omega
          rw [if_neg h7] at h3
          exact h3 h6
def SaneR (r : Rw) : Prop := (1 ≤ r.cs.length ∧ r.cs.length ≤ 4096) ∧ (∀ c ∈ r.cs, OneC c) ∧ mendL r.cs = r.cs ∧ 0 ≤ r.dir ∧ r.dir ≤ 2
instance (r : Rw) : Decidable (SaneR r) := inferInstanceAs (Decidable (_ ∧ _ ∧ _ ∧ _ ∧ _))
theorem SaneR.one {r : Rw} (h : SaneR r) {i : Nat} {c : Cl} (hc : r.cs[i]? = some c) : OneC c := h.2.1 c (List.mem_of_getElem? hc)
theorem mend_ones {l : List Cl} (h : ∀ c ∈ l, OneC c) : ∀ c ∈ mendL l, OneC c := by
  intro c hc
  obtain ⟨i, hi⟩ := List.mem_iff_getElem?.1 hc
  rw [mend_at] at hi
  obtain ⟨d, hd, rfl⟩ := Option.map_eq_some_iff.1 hi
  have := h d (List.mem_of_getElem? hd)
  split
  · exact blank_one this.2.2.1
  · exact this
/- What is put. -/
def putL (l : List Cl) (k : Nat) (c : Cl) : List Cl := if c.w = 2 then (l.set k c).set (k + 1) (halfC c.pen) else l.set k c
def putR (r : Rw) (k : Int) (c : Cl) : Rw := if SaneR r ∧ OneC c ∧ c.w ≠ 0 ∧ 0 ≤ k ∧ k + c.w ≤ r.cs.length then { r with cs := mendL (putL r.cs k.toNat c) } else r
/- What is erased, inserted, deleted. -/
def eraseL (l : List Cl) (a b : Int) (p : Pn) : List Cl := l.mapIdx fun i c => if a ≤ (i : Int) ∧ (i : Int) < b then blankC p else c
def eraseR (r : Rw) (a b : Int) (p : Pn) : Rw := if SaneR r ∧ SaneN p then { r with cs := mendL (eraseL r.cs a b p) } else r
def insL (l : List Cl) (k n w : Nat) (p : Pn) : List Cl := l.take k ++ (List.replicate n (blankC p) ++ ((l.take (w - n)).drop k ++ l.drop w))
def delL (l : List Cl) (k n w : Nat) (p : Pn) : List Cl := l.take k ++ ((l.take w).drop (k + n) ++ (List.replicate n (blankC p) ++ l.drop w))
def MoveOk (r : Rw) (k w : Int) (p : Pn) : Prop := SaneR r ∧ SaneN p ∧ 0 ≤ k ∧ k < w ∧ w ≤ r.cs.length
instance (r : Rw) (k w : Int) (p : Pn) : Decidable (MoveOk r k w p) := inferInstanceAs (Decidable (_ ∧ _ ∧ _ ∧ _ ∧ _))
def moveN (k n w : Int) : Nat := (max 0 (min n (w - k))).toNat
def insR (r : Rw) (k n w : Int) (p : Pn) : Rw := if MoveOk r k w p then { r with cs := mendL (insL r.cs k.toNat (moveN k n w) w.toNat p) } else r
def delR (r : Rw) (k n w : Int) (p : Pn) : Rw := if MoveOk r k w p then { r with cs := mendL (delL r.cs k.toNat (moveN k n w) w.toNat p) } else r
def newR (w : Int) (p : Pn) : Rw := ⟨List.replicate (max 1 (min w 4096)).toNat (blankC p), false, 0, false⟩
/- Letters. -/
def marksC (c : Cl) : List Int := (if c.m0 ≠ 0 then [c.m0] else []) ++ (if c.m1 ≠ 0 then [c.m1] else [])
def letsC (c : Cl) : List Int := if c.w = 0 then [] else if c.r = 0 then [32] else c.r :: marksC c
def lets (l : List Cl) : List Int := l.flatMap letsC
/-- Places a and b brought to 0 to the width. -/
def fitN (w : Nat) (a : Int) : Nat := (max 0 (min a w)).toNat
def lettersR (r : Rw) (a b : Int) : List Int := if SaneR r then lets ((r.cs.take (fitN r.cs.length b)).drop (fitN r.cs.length a)) else []
/-- Up to the last cell that has a letter, or a pen of its own, with its half; from place i on. -/
def lenL : Nat → List Cl → Nat
  | _, [] => 0
  | i, c :: l => if lenL (i + 1) l = 0 then (if c.r ≠ 0 ∨ c.pen ≠ zeroN then i + max 1 c.w.toNat else 0) else lenL (i + 1) l
def lengthR (r : Rw) : Nat := if SaneR r then lenL 0 r.cs else 0
end Go.Proofs.Ytinbdpfjpcgikaa
