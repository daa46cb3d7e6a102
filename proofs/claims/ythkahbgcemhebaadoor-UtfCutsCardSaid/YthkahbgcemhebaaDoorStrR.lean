/- string(b) of a slice of bytes. -/
import Derived.Test.YthkahbgcemhebaaDoorUtfE
namespace Go.Proofs.YthkahbgcemhebaaDoor
open Go Go.RowKit
set_option linter.unusedVariables false
set_option linter.unusedSimpArgs false
theorem conv_c (A : Option Addr) (bs : List Nat) (c : Nat) (w : World) (h : Byt w w.heap.size A bs) : (convert 22 9 (.slice A bs.length c)).run Tryd.prog w = .ok (.string (strOfNums (bs.map Int.ofNat))) w := by
  by_cases hne : bs = []
  · subst hne
    cases A with
    | none => exact run_convert_bytes_nil w 22 5 Tryd.underlying22 Tryd.underlying5 0 c 9 Tryd.underlying9
    | some a =>
      have hl : (loadCells a 0).run Tryd.prog w = .ok (([] : List Int).map (Value.int .u8)).toArray w := run_loadCells_list w a [] (fun j v hj => by simp at hj)
      show (convert 22 9 (.slice (some a) 0 c)).run Tryd.prog w = _
      rw [run_convert_bytes_string w 22 9 5 (some a) 0 c Tryd.underlying22 Tryd.underlying5 Tryd.underlying9, run_bytesToString w a 0 c [] hl]
      rfl
  · obtain ⟨b, o, rfl, hb, h0⟩ := h hne
    exact run_convert_bytes_arg w 22 5 Tryd.underlying22 Tryd.underlying5 b o bs.length c (bs.map Int.ofNat) (by simp) (by
      intro i hi
      have hx : bs[i]? = some bs[i] := List.getElem?_eq_getElem hi
      rw [h0 i _ hx]
      simp [List.getD, hx, byteV]) 9 Tryd.underlying9
end Go.Proofs.YthkahbgcemhebaaDoor
