/- Rows that a call owns: a cut as one value; an empty row of rows; what lies elsewhere stays where a row is stored. -/
import Derived.Test.YtcadbapccdclaaaMemG
namespace Go.Proofs.Ytcadbapccdclaaa
open Go Go.RowKit
set_option linter.unusedVariables false
set_option linter.unusedSimpArgs false

theorem infoRow4 : (Try.prog.info? 35).map (·.size) = some 4 := by kernel_rfl
theorem elemRows : Try.prog.elem 22 = 35 := by simp [Program.elem, Try.underlying22]
theorem sizeRow (V : World) : (sizeOf (Try.prog.elem 22)).run Try.prog V = .ok 4 V := by
  rw [elemRows]
  have hi := infoRow4
  cases hq : Try.prog.info? 35 with
  | none => rw [hq] at hi; simp at hi
  | some j =>
    rw [hq] at hi
    simp at hi
    simp [sizeOf, typeInfo, hq, hi]
theorem undRows : Try.prog.underlying 22 = some (.slice (Try.prog.elem 22)) := by
  rw [elemRows]; exact Try.underlying22
theorem cutG_lh (A : Option Addr) (n c a b : Nat) (h1 : a ≤ b) (h2 : b ≤ c) (V : World) :
    (Instr.sliceAt 22 (.slice A n c) (some (.int .i64 (a : Int))) (some (.int .i64 (b : Int))) none).run Try.prog V = .ok (.slice (if c = a then A else A.map (·.add (a * 4))) (b - a) (c - a)) V := by
  rw [run_sliceAt_slice V _ _ _ _ _ undRows, run_slice_lh V _ A n c undRows .i64 .i64 a b (by omega) (by omega) (by omega), sizeRow]
  simp [sliced, Result.andThen]
/-- A reslice of rows, as one value. -/
theorem InG.cut {w : World} {A : Option Addr} {c : Nat} {l : List Rl} (h : InG w A c l) {a b : Nat} (h1 : a ≤ b) (h2 : b ≤ l.length) :
    ∃ B d, (∀ V, (Instr.sliceAt 22 (.slice A l.length c) (some (.int .i64 (a : Int))) (some (.int .i64 (b : Int))) none).run Try.prog V = .ok (.slice B (b - a) d) V) ∧ InG w B d ((l.take b).drop a) ∧ ((l.take b).drop a).length = b - a := by
  refine ⟨_, _, fun V => ?_, (h.less b).sub a, ?_⟩
  · rw [cutG_lh A l.length c a b h1 (by have := h.rows.cap; omega)]
  · rw [List.length_drop, List.length_take, Nat.min_eq_left h2]
theorem empty_ownG (W : World) (b : Nat) (hb : b ≤ W.heap.size) : OwnG (W.alloc (.cells #[] 35)) b (some ⟨W.heap.size, 0, none⟩) 0 [] :=
  ⟨rfl, .inr ⟨W.heap.size, 0, #[], rfl, hb, heap_alloc_new W _, Nat.le_refl _, by simp [maxLen], rfl, rfl⟩⟩
theorem nil_ownG (W : World) (b : Nat) : OwnG W b none 0 [] := ⟨rfl, .inl ⟨rfl, rfl⟩⟩
theorem OwnG.le {w : World} {base b : Nat} {A : Option Addr} {c : Nat} {l : List Rl} (h : OwnG w base A c l) (hb : b ≤ base) : OwnG w b A c l := own_le h hb
/-- A row whose cells don't lie in block g. -/
def FarG (g : Nat) (e : Rl) : Prop := e.r.cs ≠ [] → ∀ b o, e.A = some ⟨b, o, none⟩ → b ≠ g
theorem InC.storeG {W : World} {A : Option Addr} {c : Nat} {l : List Cl} (h : InC W A c l) {g : Nat} (hne : l ≠ [] → ∀ b o, A = some ⟨b, o, none⟩ → b ≠ g) (k : Nat) (x : Rl) : InC (putG W g k x) A c l := by
  refine ⟨fun hl => ?_, h.cap, h.max⟩
  obtain ⟨b, o, e, hB, hc⟩ := h.rd hl
  have hn := hne hl b o e
  have hstep : ∀ (V : World) (i : Nat) (v : Value) (q : Nat), (V.setCell ⟨g, i, none⟩ v).cell? ⟨b, q, none⟩ = V.cell? ⟨b, q, none⟩ := fun V i v q => by
    have := Below.heap_setCell V ⟨g, i, none⟩ v b (by simpa using hn)
    unfold World.cell?
    simp only [this]
  refine ⟨b, o, e, by unfold putG; simpa using hB, fun k' x' hx j u hu => ?_⟩
  rw [← hc k' x' hx j u hu]
  unfold putG
  rw [hstep, hstep, hstep, hstep]
theorem FarG.old {w : World} {g : Nat} {e : Rl} (h : InC w e.A e.c e.r.cs) (hg : w.heap.size ≤ g) : FarG g e := fun hl b o he => by
  obtain ⟨b', o', e', hB, _⟩ := h.rd hl
  rw [he] at e'
  injection e' with e'
  injection e' with e1
  omega
theorem cell_far (V : World) (g i : Nat) (v : Value) (b q : Nat) (hn : b ≠ g) : (V.setCell ⟨g, i, none⟩ v).cell? ⟨b, q, none⟩ = V.cell? ⟨b, q, none⟩ := by
  have := Below.heap_setCell V ⟨g, i, none⟩ v b (by simpa using hn)
  unfold World.cell?
  simp only [this]
/-- A small box is stored to: cells and rows in memory stay. -/
theorem InC.far1 {W : World} {A : Option Addr} {c g : Nat} {l : List Cl} {t : TypeId} {cs : Array Value} (h : InC W A c l) (hb : Box W g t cs) (hcs : cs.size ≤ 3) (i : Nat) (v : Value) : InC (W.setCell ⟨g, i, none⟩ v) A c l := by
  refine ⟨fun hl => ?_, h.cap, h.max⟩
  obtain ⟨b, o, e, hB, hc⟩ := h.rd hl
  have hn : b ≠ g := by
    rintro rfl
    obtain ⟨x, m, rfl⟩ := List.exists_cons_of_ne_nil hl
    have h6 := hc 0 x rfl 6 _ rfl
    rw [hb.cell, Array.getElem?_eq_none (by omega)] at h6
    cases h6
  refine ⟨b, o, e, by simpa using hB, fun k x hx j u hu => ?_⟩
  rw [← hc k x hx j u hu, cell_far _ _ _ _ _ _ hn]
theorem RdG.far1 {W : World} {A : Option Addr} {c g : Nat} {l : List Rl} {t : TypeId} {cs : Array Value} (h : RdG W A c l) (hb : Box W g t cs) (hcs : cs.size ≤ 3) (i : Nat) (v : Value) : RdG (W.setCell ⟨g, i, none⟩ v) A c l := by
  refine ⟨fun hl => ?_, h.cap, h.max⟩
  obtain ⟨b, o, e, hB, hc⟩ := h.rd hl
  have hn : b ≠ g := by
    rintro rfl
    obtain ⟨x, m, rfl⟩ := List.exists_cons_of_ne_nil hl
    have h6 := hc 0 x rfl 3 _ rfl
    rw [hb.cell, Array.getElem?_eq_none (by omega)] at h6
    cases h6
  refine ⟨b, o, e, by simpa using hB, fun k x hx j u hu => ?_⟩
  rw [← hc k x hx j u hu, cell_far _ _ _ _ _ _ hn]
theorem InG.far1 {W : World} {A : Option Addr} {c g : Nat} {l : List Rl} {t : TypeId} {cs : Array Value} (h : InG W A c l) (hb : Box W g t cs) (hcs : cs.size ≤ 3) (i : Nat) (v : Value) : InG (W.setCell ⟨g, i, none⟩ v) A c l :=
  ⟨h.rows.far1 hb hcs i v, fun e he => (h.els e he).far1 hb hcs i v⟩
/-- Rows of the call's own, whole. -/
structure OwnH (w : World) (base g d : Nat) (l : List Rl) : Prop where
  own : OwnG w base (some ⟨g, 0, none⟩) d l
  els : ∀ e ∈ l, InC w e.A e.c e.r.cs ∧ FarG g e
theorem OwnH.on {w w' : World} {base g d : Nat} {l : List Rl} (h : OwnH w base g d l) (hb : Below w.heap.size w w') : OwnH w' base g d l := ⟨h.own.on hb, fun e he => ⟨(h.els e he).1.on hb, (h.els e he).2⟩⟩
theorem OwnH.in_ {w : World} {base g d : Nat} {l : List Rl} (h : OwnH w base g d l) : InG w (some ⟨g, 0, none⟩) d l := ⟨h.own.in_, fun e he => (h.els e he).1⟩
theorem OwnH.put {w : World} {base g d : Nat} {l : List Rl} (h : OwnH w base g d l) {k : Nat} (hk : k < l.length) {x : Rl} (hx : InC w x.A x.c x.r.cs) (hf : FarG g x) : OwnH (putG w g k x) base g d (l.set k x) := by
  refine ⟨h.own.put hk x, fun e he => ?_⟩
  rcases List.mem_or_eq_of_mem_set he with h1 | h1
  · exact ⟨(h.els e h1).1.storeG (h.els e h1).2 k x, (h.els e h1).2⟩
  · subst h1; exact ⟨hx.storeG hf k _, hf⟩
theorem OwnH.base_le {w : World} {base g d : Nat} {l : List Rl} (h : OwnH w base g d l) : base ≤ g ∧ g < w.heap.size := by
  have := own_block h.own (g := g) rfl
  exact this
theorem OwnH.cells {w : World} {base g d : Nat} {l : List Rl} (h : OwnH w base g d l) {k : Nat} {e : Rl} (hk : l[k]? = some e) :
    (w.frozen? ⟨g, k * 4, none⟩ = false ∧ w.frozen? ⟨g, k * 4 + 1, none⟩ = false ∧ w.frozen? ⟨g, k * 4 + 2, none⟩ = false ∧ w.frozen? ⟨g, k * 4 + 3, none⟩ = false) ∧
    (w.cell? ⟨g, k * 4, none⟩ = some (.slice e.A e.r.cs.length e.c) ∧ w.cell? ⟨g, k * 4 + 1, none⟩ = some (.bool e.r.wrap) ∧ w.cell? ⟨g, k * 4 + 2, none⟩ = some (.int .i64 e.r.dir) ∧ w.cell? ⟨g, k * 4 + 3, none⟩ = some (.bool e.r.ex)) := by
  obtain ⟨g', e1, _, _, hf⟩ := h.own.at_ (by rintro rfl; simp at hk)
  injection e1 with e1
  injection e1 with e1
  subst e1
  obtain ⟨b, o, e2, _, hc⟩ := h.own.in_.at_ hk
  injection e2 with e2
  injection e2 with e2 e3
  subst e2; subst e3
  simp only [Nat.zero_add] at hc
  exact ⟨⟨hf _, hf _, hf _, hf _⟩, hc⟩
end Go.Proofs.Ytcadbapccdclaaa
