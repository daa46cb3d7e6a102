/- Rows that move, plainly: up, down and cleared are one thing. No program here. -/
import Derived.Test.YtcadbapccdclaaaMath09
namespace Go.Proofs.Ytcadbapccdclaaa
set_option linter.unusedVariables false
set_option linter.unusedSimpArgs false

/-- What stands at i where the rows from t on, below b, come up by n. -/
def movAt (g : List Rw) (t b : Nat) (n : Int) (B : Rw) (i : Nat) : Option Rw :=
  if i < t then g[i]? else if i < b then (if 0 ≤ (i : Int) - t + n ∧ (i : Int) - t + n < (b : Int) - t then g[((i : Int) + n).toNat]? else some B) else g[i]?
theorem upL_mov {g : List Rw} {t b k : Nat} {B : Rw} (h1 : t + k ≤ b) (h2 : b ≤ g.length) {l : List Rw} (h : ∀ i, l[i]? = movAt g t b k B i) : l = upL g t b k B := by
  apply List.ext_getElem?
  intro i
  rw [h, upL_at h1 h2]
  unfold movAt
  by_cases c1 : i < t
  · rw [if_pos c1, if_pos c1]
  · rw [if_neg c1, if_neg c1]
    by_cases c2 : i < b - k
    · rw [if_pos c2, if_pos (by omega), if_pos (by omega)]
      congr 1
    · rw [if_neg c2]
      by_cases c3 : i < b
      · rw [if_pos c3, if_pos c3, if_neg (by omega)]
      · rw [if_neg c3, if_neg c3]
theorem downL_mov {g : List Rw} {t b k : Nat} {B : Rw} (h1 : t + k ≤ b) (h2 : b ≤ g.length) {l : List Rw} (h : ∀ i, l[i]? = movAt g t b (-(k : Int)) B i) : l = downL g t b k B := by
  apply List.ext_getElem?
  intro i
  rw [h, downL_at h1 h2]
  unfold movAt
  by_cases c1 : i < t
  · rw [if_pos c1, if_pos c1]
  · rw [if_neg c1, if_neg c1]
    by_cases c2 : i < t + k
    · rw [if_pos c2, if_pos (by omega), if_neg (by omega)]
    · rw [if_neg c2]
      by_cases c3 : i < b
      · rw [if_pos c3, if_pos c3, if_pos (by omega)]
        congr 1
        omega
      · rw [if_neg c3, if_neg c3]
theorem clearL_mov {g : List Rw} {t b : Nat} {B : Rw} (h1 : t ≤ b) (h2 : b ≤ g.length) {l : List Rw} (h : ∀ i, l[i]? = movAt g t b ((b : Int) - t) B i) : l = clearL g t b B := by
  apply List.ext_getElem?
  intro i
  rw [h, clearL_at]
  unfold movAt
  by_cases c1 : i < t
  · rw [if_pos c1]
    cases g[i]? with
    | none => rfl
    | some r => simp only [Option.map_some]; rw [if_neg (by omega)]
  · rw [if_neg c1]
    by_cases c3 : i < b
    · rw [if_pos c3, if_neg (by omega), List.getElem?_eq_getElem (by omega)]
      simp only [Option.map_some]; rw [if_pos (by omega)]
    · rw [if_neg c3]
      cases g[i]? with
      | none => rfl
      | some r => simp only [Option.map_some]; rw [if_neg (by omega)]
/-- Bounds out of range say what those brought to it say. -/
theorem clearL_fit (g : List Rw) (a b : Int) (B : Rw) : clearL g a b B = clearL g (max 0 (min a g.length)) (max 0 (min b g.length)) B := by
  apply List.ext_getElem?
  intro i
  rw [clearL_at, clearL_at]
  by_cases hi : i < g.length
  · rw [List.getElem?_eq_getElem hi]
    simp only [Option.map_some]
    by_cases c : a ≤ i ∧ (i : Int) < b
    · rw [if_pos c, if_pos (by omega)]
    · rw [if_neg c, if_neg (by omega)]
  · rw [List.getElem?_eq_none (by omega)]; rfl
theorem clearL_none {g : List Rw} {a b : Int} {B : Rw} (h : b ≤ a) : clearL g a b B = g := by
  apply List.ext_getElem?
  intro i
  rw [clearL_at]
  cases g[i]? with
  | none => rfl
  | some r => simp only [Option.map_some]; rw [if_neg (by omega)]
theorem mov_none {g : List Rw} {t b : Nat} {n : Int} {B : Rw} {i : Nat} (h : i < t ∨ b ≤ i) : movAt g t b n B i = g[i]? := by
  unfold movAt
  by_cases c1 : i < t
  · rw [if_pos c1]
  · rw [if_neg c1, if_neg (by omega)]
theorem new1_sane (p : Pn) : SaneR (newR 1 p) ↔ SaneN p := by
  constructor
  · intro h
    have := (h.2.1 (blankC p) (List.mem_replicate.2 ⟨by decide, rfl⟩))
    exact this.2.2.1
  · intro h; exact (new_saneR (n := 1) (by omega) (by omega) h).1
end Go.Proofs.Ytcadbapccdclaaa
