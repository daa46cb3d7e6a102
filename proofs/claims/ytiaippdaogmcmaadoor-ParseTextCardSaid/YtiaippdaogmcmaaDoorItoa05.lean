/- strconv.Itoa at this program; what is printed, plainly; Print's contract. -/
import Derived.Test.YtiaippdaogmcmaaDoorPar05
import Derived.Test.YtiaippdaogmcmaaDoorPow5
import Derived.Test.YtiaippdaogmcmaaDoorShelf
import Derived.Shelf.Strconv.Itoa3
namespace Go.Proofs.YtiaippdaogmcmaaDoor
open Go Go.RowKit
set_option linter.unusedVariables false
set_option linter.unusedSimpArgs false

theorem below_grow (w : World) (q : Nat) (os : Array Obj) : Below w.heap.size w (Go.Sort.grow (w.drewN q) os) :=
  ⟨rfl, rfl, rfl, by simp [Go.Sort.grow], fun i hi => by
    show ((w.drewN q).heap ++ os)[i]? = _
    rw [Array.getElem?_append_left (by show i < w.heap.size; omega)]
    rfl⟩
theorem itoa_c (n : Int) (hn : I64 n) (h1 : n ≠ -1) (w : World) (hP : Pw w) : Calls Tryd.prog 27 #[.int .i64 n] w fun e w' => e = .returned (.string (strS (numP n))) ∧ Below w.heap.size w w' := by
  rw [strS_num h1]
  refine (Any.strconv_Itoa Tryd.laysM171 n hn.1 hn.2 w hP).mono ?_
  rintro e w' ⟨rfl, k, os, rfl⟩
  exact ⟨rfl, below_grow _ _ _⟩
def preP (l : List (List Int)) : List Nat := if l = [] then [] else printP l ++ [59]
def preO (q : List Int) : List Nat := if q = [] then [] else oneP q ++ [58]
theorem take_ne {α : Type} {l : List α} {k : Nat} (h0 : 0 < k) (h1 : k ≤ l.length) : l.take k ≠ [] := by
  intro h
  have h2 : min k l.length = 0 := by rw [← List.length_take, h]; rfl
  omega
structure SizeP (l : List (List Int)) : Prop where
  few : l.length ≤ 30
  each : ∀ q ∈ l, q.length ≤ 20 ∧ ∀ n ∈ q, I64 n
theorem SizeP.take {l : List (List Int)} (h : SizeP l) (k : Nat) : SizeP (l.take k) := ⟨by rw [List.length_take]; have := h.few; omega, fun q hq => h.each q (List.mem_of_mem_take hq)⟩
theorem SizeP.print {l : List (List Int)} (h : SizeP l) : (printP l).length ≤ 14000 := by
  have h1 := len_print h.each
  have h2 := h.few
  omega
theorem SizeP.pre {l : List (List Int)} (h : SizeP l) : (preP l).length ≤ 14001 := by
  unfold preP
  split
  · simp
  · have := h.print; simp; omega
theorem size_one {q : List Int} (h1 : q.length ≤ 20) (h2 : ∀ n ∈ q, I64 n) : (oneP q).length ≤ 440 := by
  have := len_one h2
  omega
def PrintC : Prop := ∀ (A : Option Addr) (c : Nat) (es : List El) (w : World), InP w A c es → SizeP (qs es) → Pw w →
  Calls Tryd.prog 20 #[.slice A es.length c] w fun e w' => e = .returned (.string (strS (printP (qs es)))) ∧ Below w.heap.size w w'
theorem sane_size {p : Par} (h : SaneP p) : SizeP p.l := ⟨by have := h.few; omega, fun q hq => ⟨by have := (h.each q hq).2.1; omega, fun n hn => by
  have := (h.each q hq).2.2 n hn
  unfold NumOk at this; unfold I64; omega⟩⟩
end Go.Proofs.YtiaippdaogmcmaaDoor
