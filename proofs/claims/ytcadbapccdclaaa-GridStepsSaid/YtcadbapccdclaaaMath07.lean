/- Pens, plainly (chapter 7): colours, flags, what parameters make of a pen, a pen as parameters; what the statements say of that. No program here. -/
import Derived.WalkKit
namespace Go.Proofs.Ytcadbapccdclaaa
set_option linter.unusedVariables false
set_option linter.unusedSimpArgs false

structure Pn where
  fg : Int
  bg : Int
  fl : Int
deriving DecidableEq
def zeroN : Pn := ⟨0, 0, 0⟩
def ColOk (c : Int) : Prop := c = 0 ∨ (1 ≤ c ∧ c ≤ 256) ∨ (16777216 ≤ c ∧ c < 33554432)
instance (c : Int) : Decidable (ColOk c) := inferInstanceAs (Decidable (_ ∨ _ ∨ _))
def SaneN (p : Pn) : Prop := ColOk p.fg ∧ ColOk p.bg ∧ 0 ≤ p.fl ∧ p.fl ≤ 511
instance (p : Pn) : Decidable (SaneN p) := inferInstanceAs (Decidable (_ ∧ _ ∧ _ ∧ _))
theorem zeroN_sane : SaneN zeroN := by decide
def clampN (x : Int) : Int := max 0 (min x 255)
def rgbN (r g b : Int) : Int := 16777216 + clampN r * 65536 + clampN g * 256 + clampN b
/-- Of what a colour is. -/
def partsN (c : Int) : Int × Int × Int × Int :=
  if c = 0 then (0, 0, 0, 0) else if 1 ≤ c ∧ c ≤ 256 then (1, c - 1, 0, 0) else if 16777216 ≤ c ∧ c < 33554432 then (2, c / 65536 % 256, c / 256 % 256, c % 256) else (3, 0, 0, 0)
def hasN (f b : Int) : Bool := decide (f / b % 2 = 1)
def offN (f b : Int) : Int := if hasN f b then f - b else f
def onN (f b : Int) : Int := offN f b + b
def underN (f b : Int) : Int := if 0 < b then onN (offN (offN f 8) 256) b else offN (offN f 8) 256
/-- What the numbers 1 to 29 do to the flags; s: the second number. -/
def flagN (f n : Int) (s : Option Int) : Int :=
  if (n = 4 ∧ s = some 0) ∨ n = 24 then underN f 0
  else if n = 21 ∨ (n = 4 ∧ s = some 2) then underN f 256
  else if n = 4 then underN f 8
  else if n = 1 then onN f 1 else if n = 2 then onN f 2 else if n = 3 then onN f 4 else if n = 5 then onN f 16 else if n = 7 then onN f 32 else if n = 8 then onN f 64 else if n = 9 then onN f 128
  else if n = 22 then offN (offN f 1) 2
  else if n = 23 then offN f 4 else if n = 25 then offN f 16 else if n = 27 then offN f 32 else if n = 28 then offN f 64 else if n = 29 then offN f 128
  else f
def secN (q : List Int) : Option Int := q[1]?
/-- What a number does that is none of 38 and 48. -/
def oneN (p : Pn) (n : Int) (q : List Int) : Pn :=
  if n = 0 ∨ n = -1 then zeroN
  else if 1 ≤ n ∧ n ≤ 29 then { p with fl := flagN p.fl n (secN q) }
  else if 30 ≤ n ∧ n ≤ 37 then { p with fg := n - 29 }
  else if n = 39 then { p with fg := 0 }
  else if 40 ≤ n ∧ n ≤ 47 then { p with bg := n - 39 }
  else if n = 49 then { p with bg := 0 }
  else if 90 ≤ n ∧ n ≤ 97 then { p with fg := n - 81 }
  else if 100 ≤ n ∧ n ≤ 107 then { p with bg := n - 91 }
  else p
def atN (l : List Int) (k : Nat) : Int := l.getD k (-2)
def partB (n : Int) : Bool := decide (0 ≤ n ∧ n ≤ 255)
/-- A colour by numbers, and how many of them. -/
def colourN (l : List Int) (own : Bool) : Option (Int × Nat) :=
  if atN l 0 = 5 ∧ partB (atN l 1) = true then some (atN l 1 + 1, 2)
  else
    let k := if own = true ∧ 5 ≤ l.length then 2 else 1
    if atN l 0 = 2 ∧ partB (atN l k) = true ∧ partB (atN l (k + 1)) = true ∧ partB (atN l (k + 2)) = true then some (rgbN (atN l k) (atN l (k + 1)) (atN l (k + 2)), 4) else none
def firstN (q : List Int) : Int := atN q 0
def putN (p : Pn) (n c : Int) : Pn := if n = 48 then { p with bg := c } else { p with fg := c }
def goN (p : Pn) (l : List (List Int)) : Pn :=
  match l with
  | [] => p
  | q :: l =>
    if firstN q = 38 ∨ firstN q = 48 then
      (if 1 < q.length then
        (match colourN q.tail true with
        | some (c, _) => goN (putN p (firstN q) c) l
        | none => goN p l)
      else
        (match colourN (l.map firstN) false with
        | some (c, k) => goN (putN p (firstN q) c) (l.drop k)
        | none => p))
    else goN (oneN p (firstN q) q) l
termination_by l.length
decreasing_by all_goals (simp only [List.length_drop, List.length_cons]; omega)
def applyN (p : Pn) (l : List (List Int)) : Pn := if SaneN p ∧ l ≠ [] then goN p l else zeroN
def bitsN : List (Int × Int) := [(1, 1), (2, 2), (4, 3), (8, 4), (16, 5), (32, 7), (64, 8), (128, 9), (256, 21)]
def flagsN (f : Int) : List (List Int) := (bitsN.filter fun x => hasN f x.1).map fun x => [x.2]
def shadeN (c back : Int) : List (List Int) :=
  if 1 ≤ c ∧ c ≤ 8 then [[29 + back + c]] else if 9 ≤ c ∧ c ≤ 16 then [[81 + back + c]] else if 17 ≤ c ∧ c ≤ 256 then [[38 + back], [5], [c - 1]]
  else if 16777216 ≤ c ∧ c < 33554432 then [[38 + back], [2], [c / 65536 % 256], [c / 256 % 256], [c % 256]] else []
def printN (p : Pn) : List (List Int) := if SaneN p then [0] :: flagsN p.fl ++ shadeN p.fg 0 ++ shadeN p.bg 10 else []

theorem goN_nil (p : Pn) : goN p [] = p := by rw [goN]
theorem goN_plain (p : Pn) (q : List Int) (l : List (List Int)) (h : ¬ (firstN q = 38 ∨ firstN q = 48)) : goN p (q :: l) = goN (oneN p (firstN q) q) l := by
  rw [goN, if_neg h]
/- Sane pens stay so. -/
def Fl (f : Int) : Prop := 0 ≤ f ∧ f ≤ 511
def allF (P : Int → Bool) : Bool := (List.range 512).all fun k => P (k : Int)
theorem allF_spec {P : Int → Bool} (h : allF P = true) {f : Int} (hf : Fl f) : P f = true := by
  unfold Fl at hf
  unfold allF at h
  rw [List.all_eq_true] at h
  have := h f.toNat (List.mem_range.2 (by omega))
  rwa [show ((f.toNat : Nat) : Int) = f from by omega] at this
def flB (f : Int) : Bool := decide (0 ≤ f ∧ f ≤ 511)
theorem flB_iff {f : Int} : flB f = true ↔ Fl f := by simp [flB, Fl]
def numsN : List Int := [1, 2, 3, 4, 5, 6, 7, 8, 9, 10, 11, 12, 13, 14, 15, 16, 17, 18, 19, 20, 21, 22, 23, 24, 25, 26, 27, 28, 29]
theorem flag_some (f n : Int) (s : Option Int) : flagN f n s = flagN f n none ∨ flagN f n s = flagN f n (some 0) ∨ flagN f n s = flagN f n (some 2) := by
  by_cases h0 : s = some 0
  · subst h0; exact .inr (.inl rfl)
  · by_cases h2 : s = some 2
    · subst h2; exact .inr (.inr rfl)
    · refine .inl ?_
      unfold flagN
      simp [h0, h2]
theorem flag_all : allF (fun f => numsN.all fun n => flB (flagN f n none) && (flB (flagN f n (some 0)) && flB (flagN f n (some 2)))) = true := by decide +kernel
theorem flag_ok {f n : Int} (s : Option Int) (hf : Fl f) (hn : 1 ≤ n ∧ n ≤ 29) : Fl (flagN f n s) := by
  have h := allF_spec flag_all hf
  rw [List.all_eq_true] at h
  have hm : n ∈ numsN := by
    simp only [numsN, List.mem_cons, List.not_mem_nil, or_false]; omega
  have := h n hm
  simp only [Bool.and_eq_true, flB_iff] at this
  rcases flag_some f n s with e | e | e <;> rw [e]
  · exact this.1
  · exact this.2.1
  · exact this.2.2
theorem one_ok {p : Pn} (h : SaneN p) (n : Int) (q : List Int) : SaneN (oneN p n q) := by
  obtain ⟨h1, h2, h3, h4⟩ := h
  have hz := zeroN_sane
  unfold oneN
  split
  · exact hz
  split
  · rename_i hn; exact ⟨h1, h2, flag_ok _ ⟨h3, h4⟩ hn⟩
  split
  · exact ⟨by unfold ColOk; simp only; omega, h2, h3, h4⟩
  split
  · exact ⟨.inl rfl, h2, h3, h4⟩
  split
  · exact ⟨h1, by unfold ColOk; simp only; omega, h3, h4⟩
  split
  · exact ⟨h1, .inl rfl, h3, h4⟩
  split
  · exact ⟨by unfold ColOk; simp only; omega, h2, h3, h4⟩
  split
  · exact ⟨h1, by unfold ColOk; simp only; omega, h3, h4⟩
  · exact ⟨h1, h2, h3, h4⟩
theorem rgb_ok (r g b : Int) : ColOk (rgbN r g b) := by
  unfold ColOk rgbN clampN; omega
theorem colour_ok {l : List Int} {own : Bool} {c : Int} {k : Nat} (h : colourN l own = some (c, k)) : ColOk c := by
  unfold colourN at h
  split at h
  · rename_i hh
    simp only [Option.some.injEq, Prod.mk.injEq] at h
    have := hh.2
    simp only [partB, decide_eq_true_eq] at this
    unfold ColOk; omega
  · dsimp only at h
    split at h <;> split at h
    all_goals first
      | (simp only [Option.some.injEq, Prod.mk.injEq] at h; rw [← h.1]; exact rgb_ok _ _ _)
      | cases h
theorem put_ok {p : Pn} (h : SaneN p) (n : Int) {c : Int} (hc : ColOk c) : SaneN (putN p n c) := by
  obtain ⟨h1, h2, h3, h4⟩ := h
  unfold putN
  split
  · exact ⟨h1, hc, h3, h4⟩
  · exact ⟨hc, h2, h3, h4⟩
theorem go_ok : ∀ (n : Nat) (l : List (List Int)) (p : Pn), l.length ≤ n → SaneN p → SaneN (goN p l) := by
  intro n
  induction n with
  | zero =>
    intro l p hl h
    rw [List.eq_nil_of_length_eq_zero (by omega : l.length = 0), goN_nil]; exact h
  | succ n ih =>
    intro l p hl h
    cases l with
    | nil => rw [goN_nil]; exact h
    | cons q l =>
      simp only [List.length_cons] at hl
      rw [goN]
      split
      · split
        · split
          · rename_i c k hc
            exact ih l _ (by omega) (put_ok h _ (colour_ok hc))
          · exact ih l _ (by omega) h
        · split
          · rename_i c k hc
            exact ih _ _ (by simp only [List.length_drop]; omega) (put_ok h _ (colour_ok hc))
          · exact h
      · exact ih l _ (by omega) (one_ok h _ _)
theorem apply_ok (p : Pn) (l : List (List Int)) : SaneN (applyN p l) := by
  unfold applyN
  split
  · rename_i h; exact go_ok _ l p (Nat.le_refl _) h.1
  · exact zeroN_sane
/- One lot behind the other. -/
theorem go_app (l m : List (List Int)) (p : Pn) (h : ∀ q ∈ l, ¬ (firstN q = 38 ∨ firstN q = 48)) : goN p (l ++ m) = goN (goN p l) m := by
  induction l generalizing p with
  | nil => rw [List.nil_append, goN_nil]
  | cons q l ih =>
    rw [List.cons_append, goN_plain p q _ (h q (by simp)), goN_plain p q _ (h q (by simp)), ih _ (fun x hx => h x (by simp [hx]))]
end Go.Proofs.Ytcadbapccdclaaa
