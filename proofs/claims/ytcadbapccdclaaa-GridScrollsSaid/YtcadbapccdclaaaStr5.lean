/- Strings as lists of bytes; how long a printed text is. -/
import Derived.Test.YtcadbapccdclaaaMemN
import Derived.Test.YtcadbapccdclaaaMath05
import Derived.Test.YtcadbapccdclaaaChecked
import Derived.Lib.ItoaLen
namespace Go.Proofs.Ytcadbapccdclaaa
open Go Go.RowKit
set_option linter.unusedVariables false
set_option linter.unusedSimpArgs false

def strS (l : List Nat) : ByteArray := ⟨(l.map UInt8.ofNat).toArray⟩
theorem strS_append (a b : List Nat) : strS (a ++ b) = strS a ++ strS b := by
  apply ByteArray.ext
  simp [strS]
theorem strS_num {n : Int} (h : n ≠ -1) : strS (numP n) = ⟨(Lib.itoa n).toArray⟩ := by
  unfold strS numP
  rw [if_neg h, List.map_map]
  have : (UInt8.ofNat ∘ UInt8.toNat) = id := by funext x; simp
  rw [this, List.map_id]
theorem print_snoc (l : List (List Int)) (q : List Int) : printP (l ++ [q]) = (if l = [] then [] else printP l ++ [59]) ++ oneP q := by
  split
  · rename_i h; subst h; exact join_one _ _ _
  · rename_i h; unfold printP; rw [join_snoc _ _ _ _ h]; simp
theorem one_snoc (q : List Int) (n : Int) : oneP (q ++ [n]) = (if q = [] then [] else oneP q ++ [58]) ++ numP n := by
  split
  · rename_i h; subst h; exact join_one _ _ _
  · rename_i h; unfold oneP; rw [join_snoc _ _ _ _ h]; simp
def I64 (n : Int) : Prop := -9223372036854775808 ≤ n ∧ n ≤ 9223372036854775807
def fewB (l : List (List Int)) : Bool := decide (l.length ≤ 30 ∧ ∀ q ∈ l, q.length ≤ 20)
theorem strS_size (l : List Nat) : (strS l).size = l.length := by simp [strS, ByteArray.size]
theorem len_num {n : Int} (h : I64 n) : (numP n).length ≤ 21 := by
  unfold numP
  split
  · simp
  · rw [List.length_map]; exact Lib.itoa_length_le n h.1 h.2
theorem len_one {q : List Int} (h : ∀ n ∈ q, I64 n) : (oneP q).length ≤ q.length * 22 := by
  cases q with
  | nil => simp [oneP, joinP]
  | cons n q =>
    unfold oneP joinP
    have h1 := len_num (h n (by simp))
    have h2 := flat_len 58 numP 21 q (fun x hx => len_num (h x (by simp [hx])))
    simp only [List.length_append, List.length_cons] at *
    omega
theorem len_print {l : List (List Int)} (h : ∀ q ∈ l, q.length ≤ 20 ∧ ∀ n ∈ q, I64 n) : (printP l).length ≤ l.length * 441 := by
  have h0 : ∀ q ∈ l, (oneP q).length ≤ 440 := fun q hq => by
    have h1 := len_one (h q hq).2
    have h2 := (h q hq).1
    omega
  cases l with
  | nil => simp [printP, joinP]
  | cons q l =>
    unfold printP joinP
    have h1 := h0 q (by simp)
    have h2 := flat_len 59 oneP 440 l (fun x hx => h0 x (by simp [hx]))
    simp only [List.length_append, List.length_cons] at *
    omega
end Go.Proofs.Ytcadbapccdclaaa
