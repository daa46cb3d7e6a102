/- Rows, plainly (chapter 8): cells, when they may be, a mended row, what is put, erased, inserted, deleted; letters. No program here. -/
import Derived.Test.YtcadbapccdclaaaMath07
namespace Go.Proofs.Ytcadbapccdclaaa
set_option linter.unusedVariables false
set_option linter.unusedSimpArgs false

structure Cl where
  r : Int
  m0 : Int
  m1 : Int
  w : Int
  pen : Pn
deriving DecidableEq
structure Rw where
  cs : List Cl
  wrap : Bool
  dir : Int
  ex : Bool
deriving DecidableEq
def blankC (p : Pn) : Cl := ⟨0, 0, 0, 1, p⟩
def halfC (p : Pn) : Cl := ⟨0, 0, 0, 0, p⟩
def LetC (n : Int) : Prop := 0 ≤ n ∧ n ≤ 1114111
instance (n : Int) : Decidable (LetC n) := inferInstanceAs (Decidable (_ ∧ _))
def OneC (c : Cl) : Prop := (0 ≤ c.w ∧ c.w ≤ 2) ∧ (LetC c.r ∧ LetC c.m0 ∧ LetC c.m1) ∧ SaneN c.pen ∧ (c.m0 ≠ 0 ∨ c.m1 = 0) ∧ (c.r ≠ 0 ∨ c.m0 = 0) ∧ (c.w ≠ 0 ∨ c.r = 0) ∧ (c.w ≠ 2 ∨ c.r ≠ 0)
instance (c : Cl) : Decidable (OneC c) := inferInstanceAs (Decidable (_ ∧ _ ∧ _ ∧ _ ∧ _ ∧ _ ∧ _))
theorem blank_one {p : Pn} (h : SaneN p) : OneC (blankC p) := ⟨by simp [blankC], by simp [blankC, LetC], h, by simp [blankC], by simp [blankC], by simp [blankC], by simp [blankC]⟩
theorem half_one {p : Pn} (h : SaneN p) : OneC (halfC p) := ⟨by simp [halfC], by simp [halfC, LetC], h, by simp [halfC], by simp [halfC], by simp [halfC], by simp [halfC]⟩
/-- The width of what stands at a place; 1 where nothing stands. -/
def wAt (l : List Cl) (i : Nat) : Int := ((l[i]?).map Cl.w).getD 1
theorem wAt_some {l : List Cl} {i : Nat} {c : Cl} (h : l[i]? = some c) : wAt l i = c.w := by unfold wAt; rw [h]; rfl
theorem wAt_none {l : List Cl} {i : Nat} (h : l.length ≤ i) : wAt l i = 1 := by unfold wAt; rw [List.getElem?_eq_none h]; rfl
/-- One that is to be mended. -/
def BadAt (l : List Cl) (i : Nat) : Prop := (wAt l i = 2 ∧ wAt l (i + 1) ≠ 0) ∨ (wAt l i = 0 ∧ (i = 0 ∨ wAt l (i - 1) ≠ 2))
instance (l : List Cl) (i : Nat) : Decidable (BadAt l i) := inferInstanceAs (Decidable (_ ∨ _))
def mendL (l : List Cl) : List Cl := l.mapIdx fun i c => if BadAt l i then blankC c.pen else c
theorem mend_len (l : List Cl) : (mendL l).length = l.length := by simp [mendL]
theorem mend_at (l : List Cl) (i : Nat) : (mendL l)[i]? = (l[i]?).map fun c => if BadAt l i then blankC c.pen else c := by simp [mendL, List.getElem?_mapIdx]
theorem mend_good {l : List Cl} {i : Nat} (h : ¬ BadAt l i) : (mendL l)[i]? = l[i]? := by
  rw [mend_at]
  cases l[i]? with
  | none => rfl
  | some c => simp [h]
theorem bad_lt {l : List Cl} {i : Nat} (h : BadAt l i) : i < l.length := by
  rcases Nat.lt_or_ge i l.length with k | k
  · exact k
  · have := wAt_none k
    rcases h with h | h <;> omega
theorem mend_same {l : List Cl} : mendL l = l ↔ ∀ i, ¬ BadAt l i := by
  constructor
  · intro h i hb
    have hi := bad_lt hb
    have h1 := mend_at l i
    rw [h, List.getElem?_eq_getElem hi] at h1
    simp only [Option.map_some, Option.some.injEq, if_pos hb] at h1
    have hw : wAt l i = (l[i]).w := wAt_some (List.getElem?_eq_getElem hi)
    have h2 : (l[i]).w = 1 := by rw [h1]; rfl
    rcases hb with hb | hb <;> omega
  · intro h
    apply List.ext_getElem?
    intro i
    exact mend_good (h i)
/-- A mended row needs no mending. -/
theorem mend_w (l : List Cl) (i : Nat) : wAt (mendL l) i = if BadAt l i then 1 else wAt l i := by
  unfold wAt
  rw [mend_at]
  cases h : l[i]? with
  | none =>
    have : ¬ BadAt l i := fun hb => by have := bad_lt hb; rw [List.getElem?_eq_none_iff] at h; omega
    rw [if_neg this]
    rfl
  | some c =>
    simp only [Option.map_some, Option.getD_some]
    split <;> rfl
theorem mend_twice (l : List Cl) : mendL (mendL l) = mendL l := by
  rw [mend_same]
  intro i hb
  unfold BadAt at hb
  rw [mend_w, mend_w] at hb
  by_cases h0 : BadAt l i
  · rw [if_pos h0] at hb
    rcases hb with hb | hb <;> omega
  · rw [if_neg h0] at hb
    rcases hb with ⟨h2, h3⟩ | ⟨h2, h3⟩
    · have h4 : wAt l (i + 1) = 0 := by
        unfold BadAt at h0
        have := h0
        omega
      have h5 : ¬ BadAt l (i + 1) := by
        intro hb
        rcases hb with hb | hb
        · omega
        · rcases hb.2 with h | h
          · omega
          · simp at h; omega
      rw [if_neg h5] at h3
      omega
    · rcases h3 with h3 | h3
      · unfold BadAt at h0
        exact h0 (.inr ⟨h2, .inl h3⟩)
      · rw [mend_w] at h3
        by_cases hi : i = 0
        · exact h0 (.inr ⟨h2, .inl hi⟩)
        · have h6 : wAt l (i - 1) = 2 := by
            rcases Decidable.em (wAt l (i - 1) = 2) with h | h
            · exact h
            · exact absurd (.inr ⟨h2, .inr h⟩) h0
          have h7 : ¬ BadAt l (i - 1) := by
            intro hb
            rcases hb with hb | hb
            · rw [show i - 1 + 1 = i from by omega] at hb; omega
            · omega
          rw [if_neg h7] at h3
          exact h3 h6
def SaneR (r : Rw) : Prop := (1 ≤ r.cs.length ∧ r.cs.length ≤ 4096) ∧ (∀ c ∈ r.cs, OneC c) ∧ mendL r.cs = r.cs ∧ 0 ≤ r.dir ∧ r.dir ≤ 2
instance (r : Rw) : Decidable (SaneR r) := inferInstanceAs (Decidable (_ ∧ _ ∧ _ ∧ _ ∧ _))
theorem SaneR.one {r : Rw} (h : SaneR r) {i : Nat} {c : Cl} (hc : r.cs[i]? = some c) : OneC c := h.2.1 c (List.mem_of_getElem? hc)
theorem mend_ones {l : List Cl} (h : ∀ c ∈ l, OneC c) : ∀ c ∈ mendL l, OneC c := by
  intro c hc
  obtain ⟨i, hi⟩ := List.mem_iff_getElem?.1 hc
  rw [mend_at] at hi
  obtain ⟨d, hd, rfl⟩ := Option.map_eq_some_iff.1 hi
  have := h d (List.mem_of_getElem? hd)
  split
  · exact blank_one this.2.2.1
  · exact this
/- What is put. -/
def putL (l : List Cl) (k : Nat) (c : Cl) : List Cl := if c.w = 2 then (l.set k c).set (k + 1) (halfC c.pen) else l.set k c
def putR (r : Rw) (k : Int) (c : Cl) : Rw := if SaneR r ∧ OneC c ∧ c.w ≠ 0 ∧ 0 ≤ k ∧ k + c.w ≤ r.cs.length then { r with cs := mendL (putL r.cs k.toNat c) } else r
/- What is erased, inserted, deleted. -/
def eraseL (l : List Cl) (a b : Int) (p : Pn) : List Cl := l.mapIdx fun i c => if a ≤ (i : Int) ∧ (i : Int) < b then blankC p else c
def eraseR (r : Rw) (a b : Int) (p : Pn) : Rw := if SaneR r ∧ SaneN p then { r with cs := mendL (eraseL r.cs a b p) } else r
def insL (l : List Cl) (k n w : Nat) (p : Pn) : List Cl := l.take k ++ (List.replicate n (blankC p) ++ ((l.take (w - n)).drop k ++ l.drop w))
def delL (l : List Cl) (k n w : Nat) (p : Pn) : List Cl := l.take k ++ ((l.take w).drop (k + n) ++ (List.replicate n (blankC p) ++ l.drop w))
def MoveOk (r : Rw) (k w : Int) (p : Pn) : Prop := SaneR r ∧ SaneN p ∧ 0 ≤ k ∧ k < w ∧ w ≤ r.cs.length
instance (r : Rw) (k w : Int) (p : Pn) : Decidable (MoveOk r k w p) := inferInstanceAs (Decidable (_ ∧ _ ∧ _ ∧ _ ∧ _))
def moveN (k n w : Int) : Nat := (max 0 (min n (w - k))).toNat
def insR (r : Rw) (k n w : Int) (p : Pn) : Rw := if MoveOk r k w p then { r with cs := mendL (insL r.cs k.toNat (moveN k n w) w.toNat p) } else r
def delR (r : Rw) (k n w : Int) (p : Pn) : Rw := if MoveOk r k w p then { r with cs := mendL (delL r.cs k.toNat (moveN k n w) w.toNat p) } else r
def newR (w : Int) (p : Pn) : Rw := ⟨List.replicate (max 1 (min w 4096)).toNat (blankC p), false, 0, false⟩
/- Letters. -/
def marksC (c : Cl) : List Int := (if c.m0 ≠ 0 then [c.m0] else []) ++ (if c.m1 ≠ 0 then [c.m1] else [])
def letsC (c : Cl) : List Int := if c.w = 0 then [] else if c.r = 0 then [32] else c.r :: marksC c
def lets (l : List Cl) : List Int := l.flatMap letsC
/-- Places a and b brought to 0 to the width. -/
def fitN (w : Nat) (a : Int) : Nat := (max 0 (min a w)).toNat
def lettersR (r : Rw) (a b : Int) : List Int := if SaneR r then lets ((r.cs.take (fitN r.cs.length b)).drop (fitN r.cs.length a)) else []
/-- Up to the last cell that has a letter, or a pen of its own, with its half; from place i on. -/
def lenL : Nat → List Cl → Nat
  | _, [] => 0
  | i, c :: l => if lenL (i + 1) l = 0 then (if c.r ≠ 0 ∨ c.pen ≠ zeroN then i + max 1 c.w.toNat else 0) else lenL (i + 1) l
def lengthR (r : Rw) : Nat := if SaneR r then lenL 0 r.cs else 0
end Go.Proofs.Ytcadbapccdclaaa
