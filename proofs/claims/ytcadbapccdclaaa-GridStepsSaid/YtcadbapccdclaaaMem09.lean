/- Rows in a slice of rows: in memory. -/
import Derived.Test.YtcadbapccdclaaaMem08
namespace Go.Proofs.Ytcadbapccdclaaa
open Go Go.RowKit
set_option linter.unusedVariables false
set_option linter.unusedSimpArgs false

/-- A row, and where its cells lie. -/
structure Rl where
  A : Option Addr
  c : Nat
  r : Rw
def rlCells (e : Rl) : List Value := [.slice e.A e.r.cs.length e.c, .bool e.r.wrap, .int .i64 e.r.dir, .bool e.r.ex]
def rlV (e : Rl) : Value := .agg #[.slice e.A e.r.cs.length e.c, .bool e.r.wrap, .int .i64 e.r.dir, .bool e.r.ex]
theorem rlV_rw (e : Rl) : rlV e = rwV e.r e.A e.c := rfl
def rws (es : List Rl) : List Rw := es.map Rl.r
theorem rws_length (es : List Rl) : (rws es).length = es.length := by simp [rws]
theorem rws_app (a b : List Rl) : rws (a ++ b) = rws a ++ rws b := by simp [rws]
theorem rws_take (es : List Rl) (k : Nat) : rws (es.take k) = (rws es).take k := by simp [rws, List.map_take]
theorem rws_drop (es : List Rl) (k : Nat) : rws (es.drop k) = (rws es).drop k := by simp [rws, List.map_drop]
theorem rws_at {es : List Rl} {k : Nat} {e : Rl} (h : es[k]? = some e) : (rws es)[k]? = some e.r := by simp [rws, h]
/-- A slice at A reads as these rows' own four cells each. -/
structure RdG (w : World) (A : Option Addr) (c : Nat) (l : List Rl) : Prop where
  rd : l ≠ [] → ∃ b o, A = some ⟨b, o, none⟩ ∧ b < w.heap.size ∧ ∀ (k : Nat) e, l[k]? = some e → ∀ (j : Nat) u, (rlCells e)[j]? = some u → w.cell? ⟨b, o + k * 4 + j, none⟩ = some u
  cap : l.length ≤ c
  max : c ≤ maxLen
theorem RdG.on {w w' : World} {A : Option Addr} {c : Nat} {l : List Rl} (h : RdG w A c l) (hb : Below w.heap.size w w') : RdG w' A c l := by
  refine ⟨fun hl => ?_, h.cap, h.max⟩
  obtain ⟨b, o, e, hB, hc⟩ := h.rd hl
  exact ⟨b, o, e, Nat.lt_of_lt_of_le hB hb.size, fun k x hx j u hu => (hb.cell (by exact hB)).trans (hc k x hx j u hu)⟩
theorem RdG.nil {w : World} {A : Option Addr} {c : Nat} (hc : c ≤ maxLen) : RdG w A c [] := ⟨fun h => absurd rfl h, Nat.zero_le _, hc⟩
theorem RdG.len {w : World} {A : Option Addr} {c : Nat} {l : List Rl} (h : RdG w A c l) : l.length ≤ maxLen := Nat.le_trans h.cap h.max
theorem RdG.at_ {w : World} {A : Option Addr} {c : Nat} {l : List Rl} {k : Nat} {e : Rl} (h : RdG w A c l) (hx : l[k]? = some e) : ∃ b o, A = some ⟨b, o, none⟩ ∧ b < w.heap.size ∧
    w.cell? ⟨b, o + k * 4, none⟩ = some (.slice e.A e.r.cs.length e.c) ∧ w.cell? ⟨b, o + k * 4 + 1, none⟩ = some (.bool e.r.wrap) ∧ w.cell? ⟨b, o + k * 4 + 2, none⟩ = some (.int .i64 e.r.dir) ∧ w.cell? ⟨b, o + k * 4 + 3, none⟩ = some (.bool e.r.ex) := by
  obtain ⟨b, o, ha, hB, hc⟩ := h.rd (by rintro rfl; simp at hx)
  exact ⟨b, o, ha, hB, hc k e hx 0 _ rfl, hc k e hx 1 _ rfl, hc k e hx 2 _ rfl, hc k e hx 3 _ rfl⟩
theorem RdG.sub {w : World} {A : Option Addr} {c : Nat} {l : List Rl} (h : RdG w A c l) (M : Nat) : RdG w (if c = M then A else A.map (·.add (M * 4))) (c - M) (l.drop M) := by
  have hcap := h.cap
  have hmax := h.max
  refine ⟨fun hl => ?_, by rw [List.length_drop]; omega, by unfold maxLen at hmax ⊢; omega⟩
  have hM : M < l.length := by
    rcases Nat.lt_or_ge M l.length with k | k
    · exact k
    · exact absurd (List.drop_eq_nil_of_le k) hl
  obtain ⟨b, o, ha, hB, hc⟩ := h.rd (by rintro rfl; simp at hM)
  rw [if_neg (by omega), ha]
  refine ⟨b, o + M * 4, by simp [Addr.add], hB, fun k e hk j u hu => ?_⟩
  rw [List.getElem?_drop] at hk
  have := hc (M + k) e hk j u hu
  rw [show o + M * 4 + k * 4 + j = o + (M + k) * 4 + j from by omega]
  exact this
theorem RdG.less {w : World} {A : Option Addr} {c : Nat} {l : List Rl} (h : RdG w A c l) (M : Nat) : RdG w A c (l.take M) := by
  refine ⟨fun hl => ?_, by rw [List.length_take]; have := h.cap; omega, h.max⟩
  obtain ⟨b, o, e, hB, hc⟩ := h.rd (by rintro rfl; simp at hl)
  refine ⟨b, o, e, hB, fun k x hx => hc k x ?_⟩
  rw [List.getElem?_take] at hx
  split at hx
  · exact hx
  · cases hx
/-- A slice of rows, whole: each row's cells read too. -/
structure InG (w : World) (A : Option Addr) (c : Nat) (l : List Rl) : Prop where
  rows : RdG w A c l
  els : ∀ e ∈ l, InC w e.A e.c e.r.cs
theorem InG.on {w w' : World} {A : Option Addr} {c : Nat} {l : List Rl} (h : InG w A c l) (hb : Below w.heap.size w w') : InG w' A c l := ⟨h.rows.on hb, fun e he => (h.els e he).on hb⟩
theorem InG.nil {w : World} {A : Option Addr} {c : Nat} (hc : c ≤ maxLen) : InG w A c [] := ⟨RdG.nil hc, by simp⟩
theorem InG.sub {w : World} {A : Option Addr} {c : Nat} {l : List Rl} (h : InG w A c l) (M : Nat) : InG w (if c = M then A else A.map (·.add (M * 4))) (c - M) (l.drop M) := ⟨h.rows.sub M, fun e he => h.els e (List.mem_of_mem_drop he)⟩
theorem InG.less {w : World} {A : Option Addr} {c : Nat} {l : List Rl} (h : InG w A c l) (M : Nat) : InG w A c (l.take M) := ⟨h.rows.less M, fun e he => h.els e (List.mem_of_mem_take he)⟩
def RsOk (l : List Rw) : Prop := ∀ r ∈ l, RwOk r
/-- Rows are told. -/
def GivesG (l : List Rw) (W : World) (e : Ending) (w' : World) : Prop := ∃ A c es, e = .returned (.slice A (List.length es) c) ∧ InG w' A c es ∧ rws es = l ∧ Below W.heap.size W w'
end Go.Proofs.Ytcadbapccdclaaa
