/- Slices of slices of ints in memory. -/
import Derived.Test.YtcadbapccdclaaaMemR
namespace Go.Proofs.Ytcadbapccdclaaa
open Go Go.RowKit
set_option linter.unusedVariables false
set_option linter.unusedSimpArgs false

/-- An element: where it lies, its capacity, what it reads as. -/
structure El where
  A : Option Addr
  c : Nat
  q : List Int
def elV (e : El) : Value := .slice e.A e.q.length e.c
structure ElOk (w : World) (B : Nat) (e : El) : Prop where
  rd : Rd intV w B e.A e.q
  cap : e.q.length ≤ e.c
  max : e.c ≤ maxLen
def qs (es : List El) : List (List Int) := es.map El.q
theorem qs_length (es : List El) : (qs es).length = es.length := by simp [qs]
theorem qs_append (a b : List El) : qs (a ++ b) = qs a ++ qs b := by simp [qs]
theorem qs_take (es : List El) (k : Nat) : qs (es.take k) = (qs es).take k := by simp [qs, List.map_take]
theorem qs_at {es : List El} {k : Nat} {e : El} (h : es[k]? = some e) : (qs es)[k]? = some e.q := by simp [qs, h]
/-- A slice at A reads as these elements. -/
def Nest (w : World) (B : Nat) (A : Option Addr) (es : List El) : Prop := Rd elV w B A es ∧ ∀ e ∈ es, ElOk w B e
theorem ElOk.below {w w' : World} {B : Nat} {e : El} (h : ElOk w B e) (hb : Below B w w') : ElOk w' B e := ⟨h.rd.below hb, h.cap, h.max⟩
theorem ElOk.more {w : World} {B B' : Nat} {e : El} (h : ElOk w B e) (hb : B ≤ B') : ElOk w B' e := ⟨h.rd.more hb, h.cap, h.max⟩
theorem ElOk.on {w w' : World} {e : El} (h : ElOk w w.heap.size e) (hb : Below w.heap.size w w') : ElOk w' w'.heap.size e := (h.below hb).more hb.size
theorem Nest.nil {w : World} {B : Nat} {A : Option Addr} : Nest w B A [] := ⟨Rd.nil, by simp⟩
theorem Nest.below {w w' : World} {B : Nat} {A : Option Addr} {es : List El} (h : Nest w B A es) (hb : Below B w w') : Nest w' B A es := ⟨h.1.below hb, fun e he => (h.2 e he).below hb⟩
theorem Nest.more {w : World} {B B' : Nat} {A : Option Addr} {es : List El} (h : Nest w B A es) (hb : B ≤ B') : Nest w B' A es := ⟨h.1.more hb, fun e he => (h.2 e he).more hb⟩
theorem Nest.on {w w' : World} {A : Option Addr} {es : List El} (h : Nest w w.heap.size A es) (hb : Below w.heap.size w w') : Nest w' w'.heap.size A es := (h.below hb).more hb.size
theorem Nest.at_ {w : World} {B : Nat} {A : Option Addr} {es : List El} {k : Nat} {e : El} (h : Nest w B A es) (hx : es[k]? = some e) : ∃ b o, A = some ⟨b, o, none⟩ ∧ b < B ∧ w.cell? ⟨b, o + k, none⟩ = some (.slice e.A e.q.length e.c) ∧ ElOk w B e := by
  obtain ⟨b, o, h1, h2, h3⟩ := h.1.at_ hx
  exact ⟨b, o, h1, h2, h3, h.2 e (List.mem_of_getElem? hx)⟩
theorem Nest.of_own {w : World} {base : Nat} {t : TypeId} {A : Option Addr} {n c : Nat} {es : List El} (h : w.ownsRow base t 1 (.slice A n c) n (es.map elV)) (he : ∀ e ∈ es, ElOk w w.heap.size e) : Nest w w.heap.size A es := ⟨Rd.of_own h, he⟩
end Go.Proofs.Ytcadbapccdclaaa
