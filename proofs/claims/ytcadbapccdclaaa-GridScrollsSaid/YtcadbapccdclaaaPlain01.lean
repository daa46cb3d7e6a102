/- Tables of ranges, plainly: what a list of rows tells, when it may be a table, how rows are made one. No program here. -/
import Derived.WalkKit
namespace Go.Proofs.Ytcadbapccdclaaa
set_option linter.unusedVariables false
set_option linter.unusedSimpArgs false

structure R3 where
  lo : Int
  hi : Int
  v : Int

def R3.okb (last : Int) (x : R3) : Bool := decide (last < x.lo ∧ x.lo ≤ x.hi ∧ x.hi ≤ 1114111 ∧ 1 ≤ x.v ∧ x.v ≤ 255)
def riseF : Int → List R3 → Bool
  | _, [] => true
  | last, x :: l => R3.okb last x && riseF x.hi l
def glue (x y : R3) : Bool := decide (y.lo = x.hi + 1 ∧ y.v = x.v)
def apartF : List R3 → Bool
  | [] => true
  | x :: l => (match l with | [] => true | y :: _ => !glue x y) && apartF l
def saneF (l : List R3) : Bool := decide (l.length ≤ 4096) && (riseF (-1) l && apartF l)
def inB (r : Int) (x : R3) : Bool := decide (x.lo ≤ r ∧ r ≤ x.hi)
def getF (l : List R3) (r : Int) : Int := ((l.find? (inB r)).map R3.v).getD 0
def totF : List R3 → Int
  | [] => 0
  | x :: l => (x.hi - x.lo + 1) + totF l
def joinStep (out : List R3) (x : R3) : List R3 :=
  match out.getLast? with
  | some y => if glue y x then out.dropLast ++ [⟨y.lo, x.hi, y.v⟩] else out ++ [x]
  | none => [x]
def joinF (l : List R3) : List R3 := l.foldl joinStep []

theorem okb_iff {last : Int} {x : R3} : R3.okb last x = true ↔ (last < x.lo ∧ x.lo ≤ x.hi ∧ x.hi ≤ 1114111 ∧ 1 ≤ x.v ∧ x.v ≤ 255) := by simp [R3.okb]
theorem drop_cons {α : Type} {l : List α} {k : Nat} {x : α} (h : l[k]? = some x) : l.drop k = x :: l.drop (k + 1) := by
  obtain ⟨hk, rfl⟩ := List.getElem?_eq_some_iff.1 h
  exact List.drop_eq_getElem_cons hk
theorem take_snoc {α : Type} {l : List α} {k : Nat} {x : α} (h : l[k]? = some x) : l.take (k + 1) = l.take k ++ [x] := by
  obtain ⟨hk, rfl⟩ := List.getElem?_eq_some_iff.1 h
  rw [List.take_succ_eq_append_getElem hk]
theorem totF_append (a b : List R3) : totF (a ++ b) = totF a + totF b := by
  induction a with
  | nil => simp [totF]
  | cons x l ih => simp [totF, ih]; omega
theorem find_take_none {l : List R3} {r : Int} {k : Nat} (h : ∀ j x, j < k → l[j]? = some x → inB r x = false) : (l.take k).find? (inB r) = none := by
  rw [List.find?_eq_none]
  intro x hx
  obtain ⟨j, hj⟩ := List.mem_iff_getElem?.1 hx
  rw [List.getElem?_take] at hj
  split at hj
  · rename_i hlt; rw [h j x hlt hj]; simp
  · cases hj
theorem getF_hit {l : List R3} {r : Int} {k : Nat} {x : R3} (h : ∀ j x, j < k → l[j]? = some x → inB r x = false) (hx : l[k]? = some x) (hr : inB r x = true) : getF l r = x.v := by
  unfold getF
  rw [← List.take_append_drop k l, List.find?_append, find_take_none h, drop_cons hx]
  simp [hr]
theorem getF_miss {l : List R3} {r : Int} (h : ∀ j x, j < l.length → l[j]? = some x → inB r x = false) : getF l r = 0 := by
  unfold getF
  have := find_take_none h
  rw [List.take_length] at this
  rw [this]; rfl
theorem snoc_ind {α : Type} {p : List α → Prop} (h0 : p []) (h1 : ∀ l x, p l → p (l ++ [x])) (l : List α) : p l := by
  have : ∀ (n : Nat) (l : List α), l.length = n → p l := by
    intro n
    induction n with
    | zero => intro l hl; rw [List.eq_nil_of_length_eq_zero hl]; exact h0
    | succ n ih =>
      intro l hl
      have hne : l ≠ [] := by rintro rfl; simp at hl
      rw [← List.dropLast_concat_getLast hne]
      exact h1 _ _ (ih _ (by simp [hl]))
  exact this _ l rfl
end Go.Proofs.Ytcadbapccdclaaa
