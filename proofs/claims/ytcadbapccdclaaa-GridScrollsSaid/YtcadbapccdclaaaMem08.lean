/- Cells and rows as values and in memory. -/
import Derived.Test.YtcadbapccdclaaaPen7
import Derived.Test.YtcadbapccdclaaaMath08
import Derived.Test.YtcadbapccdclaaaReg
namespace Go.Proofs.Ytcadbapccdclaaa
open Go Go.RowKit
set_option linter.unusedVariables false
set_option linter.unusedSimpArgs false

def clCells (c : Cl) : List Value := [.int .i64 c.r, .int .i64 c.m0, .int .i64 c.m1, .int .i64 c.w, .int .i64 c.pen.fg, .int .i64 c.pen.bg, .int .i64 c.pen.fl]
def clV (c : Cl) : Value := .agg #[.int .i64 c.r, .int .i64 c.m0, .int .i64 c.m1, .int .i64 c.w, .int .i64 c.pen.fg, .int .i64 c.pen.bg, .int .i64 c.pen.fl]
def ClOk (c : Cl) : Prop := I64 c.r ∧ I64 c.m0 ∧ I64 c.m1 ∧ I64 c.w ∧ PnOk c.pen
theorem OneC.ok {c : Cl} (h : OneC c) : ClOk c := by
  obtain ⟨h1, ⟨h2, h3, h4⟩, h5, _⟩ := h
  unfold LetC at h2 h3 h4
  exact ⟨by unfold I64; omega, by unfold I64; omega, by unfold I64; omega, by unfold I64; omega, h5.ok⟩
theorem blank_ok {p : Pn} (h : PnOk p) : ClOk (blankC p) := ⟨by simp [blankC, I64], by simp [blankC, I64], by simp [blankC, I64], by simp [blankC, I64], h⟩
/-- A slice at A reads as cells. -/
structure InC (w : World) (A : Option Addr) (c : Nat) (l : List Cl) : Prop where
  rd : l ≠ [] → ∃ b o, A = some ⟨b, o, none⟩ ∧ b < w.heap.size ∧ ∀ (k : Nat) e, l[k]? = some e → ∀ (j : Nat) u, (clCells e)[j]? = some u → w.cell? ⟨b, o + k * 7 + j, none⟩ = some u
  cap : l.length ≤ c
  max : c ≤ maxLen
theorem InC.on {w w' : World} {A : Option Addr} {c : Nat} {l : List Cl} (h : InC w A c l) (hb : Below w.heap.size w w') : InC w' A c l := by
  refine ⟨fun hl => ?_, h.cap, h.max⟩
  obtain ⟨b, o, e, hB, hc⟩ := h.rd hl
  exact ⟨b, o, e, Nat.lt_of_lt_of_le hB hb.size, fun k x hx j u hu => (hb.cell (by exact hB)).trans (hc k x hx j u hu)⟩
theorem InC.nil {w : World} {A : Option Addr} {c : Nat} (hc : c ≤ maxLen) : InC w A c [] := ⟨fun h => absurd rfl h, Nat.zero_le _, hc⟩
theorem InC.len {w : World} {A : Option Addr} {c : Nat} {l : List Cl} (h : InC w A c l) : l.length ≤ maxLen := Nat.le_trans h.cap h.max
theorem InC.at_ {w : World} {A : Option Addr} {c : Nat} {l : List Cl} {k : Nat} {e : Cl} (h : InC w A c l) (hx : l[k]? = some e) : ∃ b o, A = some ⟨b, o, none⟩ ∧ b < w.heap.size ∧
    w.cell? ⟨b, o + k * 7, none⟩ = some (.int .i64 e.r) ∧ w.cell? ⟨b, o + k * 7 + 1, none⟩ = some (.int .i64 e.m0) ∧ w.cell? ⟨b, o + k * 7 + 2, none⟩ = some (.int .i64 e.m1) ∧ w.cell? ⟨b, o + k * 7 + 3, none⟩ = some (.int .i64 e.w) ∧
    w.cell? ⟨b, o + k * 7 + 4, none⟩ = some (.int .i64 e.pen.fg) ∧ w.cell? ⟨b, o + k * 7 + 5, none⟩ = some (.int .i64 e.pen.bg) ∧ w.cell? ⟨b, o + k * 7 + 6, none⟩ = some (.int .i64 e.pen.fl) := by
  obtain ⟨b, o, ha, hB, hc⟩ := h.rd (by rintro rfl; simp at hx)
  exact ⟨b, o, ha, hB, hc k e hx 0 _ rfl, hc k e hx 1 _ rfl, hc k e hx 2 _ rfl, hc k e hx 3 _ rfl, hc k e hx 4 _ rfl, hc k e hx 5 _ rfl, hc k e hx 6 _ rfl⟩
def rwCells (r : Rw) (A : Option Addr) (c : Nat) : Array Value := #[.slice A r.cs.length c, .bool r.wrap, .int .i64 r.dir, .bool r.ex]
def rwV (r : Rw) (A : Option Addr) (c : Nat) : Value := .agg (rwCells r A c)
theorem rwV_eq (r : Rw) (A : Option Addr) (c : Nat) : rwV r A c = .agg #[.slice A r.cs.length c, .bool r.wrap, .int .i64 r.dir, .bool r.ex] := rfl
def RwOk (r : Rw) : Prop := I64 r.dir ∧ ∀ c ∈ r.cs, ClOk c
theorem SaneR.ok {r : Rw} (h : SaneR r) : RwOk r := ⟨by have := h.2.2.2; unfold I64; omega, fun c hc => (h.2.1 c hc).ok⟩
/-- A row is told. -/
def GivesRow (r : Rw) (W : World) (e : Ending) (w' : World) : Prop := ∃ A c, e = .returned (rwV r A c) ∧ InC w' A c r.cs ∧ Below W.heap.size W w'
def Sane8C : Prop := ∀ (r : Rw) (A : Option Addr) (c : Nat) (w : World), InC w A c r.cs → RwOk r → Calls Try.prog 21 #[rwV r A c] w fun e w' => e = .returned (.bool (decide (SaneR r))) ∧ Below w.heap.size w w'
def Blank8C : Prop := ∀ (p : Pn) (w : World), PnOk p → Calls Try.prog 44 #[pnV p] w fun e w' => e = .returned (clV (blankC p)) ∧ Below w.heap.size w w'
end Go.Proofs.Ytcadbapccdclaaa
