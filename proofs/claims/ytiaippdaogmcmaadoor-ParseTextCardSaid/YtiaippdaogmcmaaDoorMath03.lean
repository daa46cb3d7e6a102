/- Letters out of bytes, plainly (chapter 3): what stands at the beginning of bytes; all letters, and what is left; letters as bytes. No program here. -/
import Derived.WalkKit
namespace Go.Proofs.YtiaippdaogmcmaaDoor
set_option linter.unusedVariables false
set_option linter.unusedSimpArgs false

/-- How many bytes a letter has that begins with c; 0: none does. -/
def longF (c : Nat) : Nat := if c < 128 then 1 else if 194 ≤ c ∧ c ≤ 223 then 2 else if 224 ≤ c ∧ c ≤ 239 then 3 else if 240 ≤ c ∧ c ≤ 244 then 4 else 0
def secB (f c : Nat) : Bool :=
  if f = 224 then decide (160 ≤ c ∧ c ≤ 191) else if f = 237 then decide (128 ≤ c ∧ c ≤ 159) else if f = 240 then decide (144 ≤ c ∧ c ≤ 191) else if f = 244 then decide (128 ≤ c ∧ c ≤ 143) else decide (128 ≤ c ∧ c ≤ 191)
def conB (c : Nat) : Bool := decide (128 ≤ c ∧ c ≤ 191)
/-- How many of the first bytes are a letter's, or a beginning of one; are they a whole one? -/
def runF : List Nat → Nat × Bool
  | [] => (0, false)
  | [a] => if longF a = 0 then (0, false) else (1, decide (longF a = 1))
  | [a, b] => if longF a = 0 then (0, false) else if longF a = 1 then (1, true) else if secB a b then (2, decide (longF a = 2)) else (1, false)
  | [a, b, c] => if longF a = 0 then (0, false) else if longF a = 1 then (1, true) else if secB a b then (if longF a = 2 then (2, true) else if conB c then (3, decide (longF a = 3)) else (2, false)) else (1, false)
  | a :: b :: c :: d :: _ => if longF a = 0 then (0, false) else if longF a = 1 then (1, true) else if secB a b then (if longF a = 2 then (2, true) else if conB c then (if longF a = 3 then (3, true) else if conB d then (4, true) else (3, false)) else (2, false)) else (1, false)
/-- The letter of its bytes. -/
def valF : List Nat → Int
  | [a] => a
  | [a, b] => ((a % 32 * 64 + b % 64 : Nat) : Int)
  | [a, b, c] => (((a % 16 * 64 + b % 64) * 64 + c % 64 : Nat) : Int)
  | [a, b, c, d] => ((((a % 8 * 64 + b % 64) * 64 + c % 64) * 64 + d % 64 : Nat) : Int)
  | _ => 0
/-- Is it a beginning that goes up to the end? -/
def opnB (l : List Nat) : Bool := !(runF l).2 && decide (0 < (runF l).1 ∧ (runF l).1 = l.length)
def headF (l : List Nat) : Int := if (runF l).2 then valF (l.take (runF l).1) else 65533
def feedG : Nat → List Nat → List Int × List Nat
  | 0, _ => ([], [])
  | f + 1, l => if l = [] then ([], []) else if opnB l then ([], l) else (headF l :: (feedG f (l.drop (max (runF l).1 1))).1, (feedG f (l.drop (max (runF l).1 1))).2)
def feedF (l : List Nat) : List Int × List Nat := feedG l.length l
def endF (l : List Nat) : List Int := if l = [] then [] else [65533]
def allF (l : List Nat) : List Int := (feedF l).1 ++ endF (feedF l).2

theorem longF_le (c : Nat) : longF c ≤ 4 := by unfold longF; (repeat' split) <;> omega
theorem run_le (l : List Nat) : (runF l).1 ≤ l.length := by
  unfold runF
  split <;> (repeat' split) <;> simp
theorem run_le4 (l : List Nat) : (runF l).1 ≤ 4 := by
  unfold runF
  split <;> (repeat' split) <;> simp
theorem run_whole {l : List Nat} (h : (runF l).2 = true) : 1 ≤ (runF l).1 := by
  revert h
  unfold runF
  split <;> (repeat' split) <;> simp
theorem run_cons_ne {l : List Nat} (h : l ≠ []) : 1 ≤ max (runF l).1 1 ∧ max (runF l).1 1 ≤ l.length := by
  have := run_le l
  have : 0 < l.length := List.length_pos_iff.2 h
  omega
theorem opn_iff {l : List Nat} : opnB l = true ↔ (runF l).2 = false ∧ 0 < (runF l).1 ∧ (runF l).1 = l.length := by
  unfold opnB
  simp
theorem opn_short {l : List Nat} (h : opnB l = true) : l.length ≤ 3 ∧ l ≠ [] := by
  obtain ⟨h1, h2, h3⟩ := opn_iff.1 h
  refine ⟨?_, by rintro rfl; simp at h3; omega⟩
  match l, h1, h3 with
  | [], _, _ => simp
  | [_], _, _ => simp
  | [_, _], _, _ => simp
  | [_, _, _], _, _ => simp
  | a :: b :: c :: d :: t, h1, h3 =>
    have h4 := run_le4 (a :: b :: c :: d :: t)
    exfalso
    revert h1 h3
    unfold runF
    (repeat' split) <;> simp <;> omega
/-- What is no beginning up to the end is told by its own bytes alone. -/
theorem run_append {a : List Nat} (b : List Nat) (hne : a ≠ []) (h : opnB a = false) : runF (a ++ b) = runF a := by
  match a, hne, h with
  | [x], _, h =>
    cases b with
    | nil => rfl
    | cons y b =>
      simp only [opnB, runF] at h
      by_cases h0 : longF x = 0
      · cases b with
        | nil => simp [runF, h0]
        | cons z b => cases b <;> simp [runF, h0]
      · by_cases h1 : longF x = 1
        · cases b with
          | nil => simp [runF, h1]
          | cons z b => cases b <;> simp [runF, h1]
        · simp [h0, h1] at h
  | [x, y], _, h =>
    simp only [opnB, runF] at h
    cases b with
    | nil => rfl
    | cons z b =>
      have key : runF ([x, y] ++ z :: b) = runF [x, y] := by
        by_cases h0 : longF x = 0
        · cases b <;> simp [runF, h0]
        · by_cases h1 : longF x = 1
          · cases b <;> simp [runF, h1]
          · by_cases h2 : secB x y = true
            · by_cases h3 : longF x = 2
              · cases b <;> simp [runF, h2, h3]
              · simp [h0, h1, h2, h3] at h
            · cases b <;> simp [runF, h0, h1, h2]
      exact key
  | [x, y, z], _, h =>
    simp only [opnB, runF] at h
    cases b with
    | nil => rfl
    | cons u b =>
      by_cases h0 : longF x = 0
      · simp [runF, h0]
      · by_cases h1 : longF x = 1
        · simp [runF, h1]
        · by_cases h2 : secB x y = true
          · by_cases h3 : longF x = 2
            · simp [runF, h2, h3]
            · by_cases h4 : conB z = true
              · by_cases h5 : longF x = 3
                · simp [runF, h2, h4, h5]
                · simp [h0, h1, h2, h3, h4, h5] at h
              · simp [runF, h0, h1, h2, h3, h4]
          · simp [runF, h0, h1, h2]
  | x :: y :: z :: u :: t, _, h => simp [runF]

theorem feedG_fuel : ∀ (f g : Nat) (l : List Nat), l.length ≤ f → l.length ≤ g → feedG f l = feedG g l
  | 0, 0, _, _, _ => rfl
  | 0, g + 1, l, h, _ => by
    have : l = [] := List.eq_nil_of_length_eq_zero (by omega)
    subst this; rfl
  | f + 1, 0, l, _, h => by
    have : l = [] := List.eq_nil_of_length_eq_zero (by omega)
    subst this; rfl
  | f + 1, g + 1, l, h1, h2 => by
    unfold feedG
    by_cases hl : l = []
    · simp [hl]
    · have hm := run_cons_ne hl
      rw [if_neg hl, if_neg hl, feedG_fuel f g (l.drop (max (runF l).1 1)) (by rw [List.length_drop]; omega) (by rw [List.length_drop]; omega)]
theorem feed_nil : feedF [] = ([], []) := rfl
theorem feed_opn {l : List Nat} (h : opnB l = true) : feedF l = ([], l) := by
  have hl := (opn_short h).2
  unfold feedF
  cases hn : l.length with
  | zero => exact absurd (List.eq_nil_of_length_eq_zero hn) hl
  | succ n => rw [feedG, if_neg hl, if_pos h]
theorem feed_step {l : List Nat} (hl : l ≠ []) (h : opnB l = false) : feedF l = (headF l :: (feedF (l.drop (max (runF l).1 1))).1, (feedF (l.drop (max (runF l).1 1))).2) := by
  unfold feedF
  cases hn : l.length with
  | zero => exact absurd (List.eq_nil_of_length_eq_zero hn) hl
  | succ n =>
    have hm := run_cons_ne hl
    rw [feedG, if_neg hl, if_neg (by simp [h]), feedG_fuel n (l.drop (max (runF l).1 1)).length _ (by rw [List.length_drop]; omega) (Nat.le_refl _)]
theorem opn_append {a : List Nat} (b : List Nat) (hne : a ≠ []) (h : opnB a = false) : opnB (a ++ b) = false := by
  have hr := run_append b hne h
  cases hq : opnB (a ++ b)
  · rfl
  · obtain ⟨h1, h2, h3⟩ := opn_iff.1 hq
    rw [hr] at h1 h2 h3
    have hle := run_le a
    have : opnB a = true := opn_iff.2 ⟨h1, h2, by simp at h3; omega⟩
    rw [this] at h; cases h
theorem head_append {a : List Nat} (b : List Nat) (hne : a ≠ []) (h : opnB a = false) : headF (a ++ b) = headF a := by
  unfold headF
  rw [run_append b hne h, List.take_append_of_le_length (run_le a)]
/-- HOWEVER IT IS CUT. -/
theorem feed_cut (a b : List Nat) : feedF (a ++ b) = ((feedF a).1 ++ (feedF ((feedF a).2 ++ b)).1, (feedF ((feedF a).2 ++ b)).2) := by
  have key : ∀ (n : Nat) (a : List Nat), a.length ≤ n → feedF (a ++ b) = ((feedF a).1 ++ (feedF ((feedF a).2 ++ b)).1, (feedF ((feedF a).2 ++ b)).2) := by
    intro n
    induction n with
    | zero =>
      intro a h
      have : a = [] := List.eq_nil_of_length_eq_zero (by omega)
      subst this; simp [feed_nil]
    | succ n ih =>
      intro a h
      by_cases ha : a = []
      · subst ha; simp [feed_nil]
      · cases ho : opnB a
        · have hm := run_cons_ne ha
          rw [feed_step (by simp [ha]) (opn_append b ha ho), feed_step ha ho, head_append b ha ho, run_append b ha ho, List.drop_append_of_le_length hm.2]
          rw [ih (a.drop (max (runF a).1 1)) (by rw [List.length_drop]; omega)]
          simp
        · rw [feed_opn ho]; simp
  exact key a.length a (Nat.le_refl _)
/-- What is left is nothing, or a beginning. -/
theorem feed_left (l : List Nat) : (feedF l).2 = [] ∨ opnB (feedF l).2 = true := by
  have key : ∀ (n : Nat) (l : List Nat), l.length ≤ n → (feedF l).2 = [] ∨ opnB (feedF l).2 = true := by
    intro n
    induction n with
    | zero =>
      intro l h
      have : l = [] := List.eq_nil_of_length_eq_zero (by omega)
      subst this; exact .inl rfl
    | succ n ih =>
      intro l h
      by_cases hl : l = []
      · subst hl; exact .inl rfl
      · cases ho : opnB l
        · have hm := run_cons_ne hl
          rw [feed_step hl ho]
          exact ih _ (by rw [List.length_drop]; omega)
        · rw [feed_opn ho]; exact .inr ho
  exact key l.length l (Nat.le_refl _)
theorem feed_count (l : List Nat) : (feedF l).1.length + (feedF l).2.length ≤ l.length := by
  have key : ∀ (n : Nat) (l : List Nat), l.length ≤ n → (feedF l).1.length + (feedF l).2.length ≤ l.length := by
    intro n
    induction n with
    | zero =>
      intro l h
      have : l = [] := List.eq_nil_of_length_eq_zero (by omega)
      subst this; simp [feed_nil]
    | succ n ih =>
      intro l h
      by_cases hl : l = []
      · subst hl; simp [feed_nil]
      · cases ho : opnB l
        · have hm := run_cons_ne hl
          have := ih (l.drop (max (runF l).1 1)) (by rw [List.length_drop]; omega)
          rw [feed_step hl ho]
          simp only [List.length_cons, List.length_drop] at this ⊢
          omega
        · rw [feed_opn ho]; simp
  exact key l.length l (Nat.le_refl _)
theorem end_count (l : List Nat) : (endF l).length ≤ l.length := by
  unfold endF
  split
  · simp
  · rename_i h
    have := List.length_pos_iff.2 h
    simp; omega
theorem all_count (l : List Nat) : (allF l).length ≤ l.length := by
  have h1 := feed_count l
  have h2 := end_count (feedF l).2
  unfold allF
  rw [List.length_append]
  omega
end Go.Proofs.YtiaippdaogmcmaaDoor
