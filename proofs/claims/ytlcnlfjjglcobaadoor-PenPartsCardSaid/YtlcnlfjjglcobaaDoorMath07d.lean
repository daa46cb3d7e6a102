/- What the code of package pen computes, step by step, and that it is what chapter 7 says. No program here. -/
import Derived.Test.YtlcnlfjjglcobaaDoorMath07c
namespace Go.Proofs.YtlcnlfjjglcobaaDoor
open Go Go.RowKit
set_option linter.unusedVariables false
set_option linter.unusedSimpArgs false

/- Flags. -/
def withC (f b : Int) : Int := bits .or .i64 (if bits .and .i64 b 264 = 0 then f else bits .andNot .i64 f 264) b
def rowsT : List (Int × Int × Int) := [(1, 1, 22), (2, 2, 22), (4, 3, 23), (8, 4, 24), (16, 5, 25), (32, 7, 27), (64, 8, 28), (128, 9, 29), (256, 21, 24)]
/-- Flags by a number, row by row. -/
def swC : List (Int × Int × Int) → Int → Int → Int
  | [], f, _ => f
  | x :: l, f, n => if n = x.2.1 then withC f x.1 else if n = x.2.2 then swC l (bits .andNot .i64 f x.1) n else swC l f n
def underC (f s : Int) : Int := if s = 0 then bits .andNot .i64 f 264 else if s = 2 then withC f 256 else withC f 8
theorem sw_all : allF (fun f => numsN.all fun n => decide (swC rowsT f n = flagN f n none)) = true := by decide +kernel
theorem with_all : allF (fun f => decide (withC f 256 = flagN f 4 (some 2)) && (decide (withC f 8 = flagN f 4 none) && decide (bits .andNot .i64 f 264 = flagN f 4 (some 0)))) = true := by decide +kernel
theorem sw_in {f n : Int} (hf : Fl f) (hn : 1 ≤ n ∧ n ≤ 29) : swC rowsT f n = flagN f n none := by
  have h := allF_spec sw_all hf
  rw [List.all_eq_true] at h
  have hm : n ∈ numsN := by
    simp only [numsN, List.mem_cons, List.not_mem_nil, or_false]; omega
  exact of_decide_eq_true (h n hm)
theorem sw_out {f n : Int} (hn : n < 1 ∨ 29 < n) : swC rowsT f n = f := by
  have : ∀ l : List (Int × Int × Int), (∀ x ∈ l, (1 ≤ x.2.1 ∧ x.2.1 ≤ 29) ∧ 1 ≤ x.2.2 ∧ x.2.2 ≤ 29) → swC l f n = f := by
    intro l
    induction l with
    | nil => intro _; rfl
    | cons x l ih =>
      intro h
      have hx := h x (by simp)
      rw [swC, if_neg (by omega), if_neg (by omega)]
      exact ih fun y hy => h y (by simp [hy])
  exact this rowsT (by decide)
theorem under_is {f : Int} (hf : Fl f) (s : Int) : underC f s = flagN f 4 (some s) := by
  have h := allF_spec with_all hf
  simp only [Bool.and_eq_true, decide_eq_true_eq] at h
  unfold underC
  by_cases h0 : s = 0
  · subst h0; rw [if_pos rfl]; exact h.2.2
  · rw [if_neg h0]
    by_cases h2 : s = 2
    · subst h2; rw [if_pos rfl]; exact h.1
    · rw [if_neg h2, h.2.1]
      unfold flagN
      simp [h0, h2]
/- Colours by one number. -/
def ground7B (n : Int) : Bool := decide ((40 ≤ n ∧ n ≤ 49) ∨ (100 ≤ n ∧ n < 108))
def paintC (p : Pn) (n c : Int) : Pn := if ground7B n = true then { p with bg := c } else { p with fg := c }
def baseC (n : Int) : Int := if ground7B n = true then n - 10 else n
def plainC (n : Int) : Int × Bool :=
  if 30 ≤ baseC n ∧ baseC n < 38 then (baseC n - 29, true) else if 90 ≤ baseC n ∧ baseC n < 98 then (baseC n - 81, true) else (0, decide (baseC n = 39))
/-- A parameter that is none of 38 and 48, by its first number. -/
def oneC (p : Pn) (q : List Int) (n : Int) : Pn :=
  if n = 0 then zeroN
  else if n = 4 ∧ 1 < q.length then { p with fl := underC p.fl (q.getD 1 0) }
  else if (plainC n).2 = true then paintC p n (plainC n).1
  else { p with fl := swC rowsT p.fl n }
def getC (q : List Int) (usual : Int) : Int := match q with | n :: _ => if n = -1 then usual else n | [] => usual
theorem one_zero (p : Pn) {n : Int} (q : List Int) (h : n = 0 ∨ n = -1) : oneN p n q = zeroN := by unfold oneN; rw [if_pos h]
theorem one_flag (p : Pn) {n : Int} (q : List Int) (h : 1 ≤ n ∧ n ≤ 29) : oneN p n q = { p with fl := flagN p.fl n (secN q) } := by unfold oneN; rw [if_neg (by omega), if_pos h]
theorem one_high (p : Pn) {n : Int} (q : List Int) (h0 : ¬ (n = 0 ∨ n = -1)) (h1 : ¬ (1 ≤ n ∧ n ≤ 29)) (h2 : ¬ (n = 38 ∨ n = 48)) :
    oneN p n q = if (plainC n).2 = true then paintC p n (plainC n).1 else p := by
  have eg : ground7B n = decide ((40 ≤ n ∧ n ≤ 49) ∨ (100 ≤ n ∧ n < 108)) := rfl
  have key : ∀ (c : Int) (b : Bool), baseC n = (if ground7B n = true then n - 10 else n) := fun _ _ => rfl
  by_cases g : ground7B n = true
  · have g' := g
    rw [eg, decide_eq_true_eq] at g'
    have e2 : baseC n = n - 10 := by unfold baseC; rw [if_pos g]
    have ep : ∀ c, paintC p n c = { p with bg := c } := fun c => by unfold paintC; rw [if_pos g]
    by_cases k1 : 40 ≤ n ∧ n ≤ 47
    · have e3 : plainC n = (n - 39, true) := by unfold plainC; rw [e2, if_pos (by omega)]; simp only [Prod.mk.injEq, and_true]; omega
      rw [e3, if_pos rfl, ep]
      unfold oneN
      rw [if_neg (by omega), if_neg (by omega), if_neg (by omega), if_neg (by omega), if_pos k1]
    by_cases k2 : n = 49
    · subst k2
      rw [show plainC 49 = (0, true) from by decide, if_pos rfl, ep]
      rfl
    · have e3 : plainC n = (n - 91, true) := by unfold plainC; rw [e2, if_neg (by omega), if_pos (by omega)]; simp only [Prod.mk.injEq, and_true]; omega
      rw [e3, if_pos rfl, ep]
      unfold oneN
      rw [if_neg (by omega), if_neg (by omega), if_neg (by omega), if_neg (by omega), if_neg (by omega), if_neg (by omega), if_neg (by omega), if_pos (by omega)]
  · have g' := g
    rw [eg, decide_eq_true_eq] at g'
    have e2 : baseC n = n := by unfold baseC; rw [if_neg g]
    have ep : ∀ c, paintC p n c = { p with fg := c } := fun c => by unfold paintC; rw [if_neg g]
    by_cases k1 : 30 ≤ n ∧ n ≤ 37
    · have e3 : plainC n = (n - 29, true) := by unfold plainC; rw [e2, if_pos (by omega)]
      rw [e3, if_pos rfl, ep]
      unfold oneN
      rw [if_neg (by omega), if_neg (by omega), if_pos k1]
    by_cases k2 : n = 39
    · subst k2
      rw [show plainC 39 = (0, true) from by decide, if_pos rfl, ep]
      rfl
    by_cases k3 : 90 ≤ n ∧ n ≤ 97
    · have e3 : plainC n = (n - 81, true) := by unfold plainC; rw [e2, if_neg (by omega), if_pos (by omega)]
      rw [e3, if_pos rfl, ep]
      unfold oneN
      rw [if_neg (by omega), if_neg (by omega), if_neg (by omega), if_neg (by omega), if_neg (by omega), if_neg (by omega), if_pos k3]
    · have e3 : plainC n = (0, false) := by unfold plainC; rw [e2, if_neg (by omega), if_neg (by omega), decide_eq_false k2]
      rw [e3, if_neg (by simp)]
      unfold oneN
      rw [if_neg (by omega), if_neg (by omega), if_neg (by omega), if_neg (by omega), if_neg (by omega), if_neg (by omega), if_neg (by omega), if_neg (by omega)]
theorem plain_low {n : Int} (h : 1 ≤ n ∧ n ≤ 29) : (plainC n).2 = false := by
  have e1 : ground7B n = false := by unfold ground7B; exact decide_eq_false (by omega)
  have e2 : baseC n = n := by unfold baseC; rw [e1]; rfl
  unfold plainC; rw [e2, if_neg (by omega), if_neg (by omega)]; exact decide_eq_false (by omega)
theorem oneC_two (p : Pn) (q : List Int) {n : Int} (h0 : ¬ n = 0) (h1 : ¬ (n = 4 ∧ 1 < q.length)) : oneC p q n = if (plainC n).2 = true then paintC p n (plainC n).1 else { p with fl := swC rowsT p.fl n } := by
  unfold oneC; rw [if_neg h0, if_neg h1]
theorem one_is {p : Pn} (hp : SaneN p) {n : Int} {t : List Int} (h : ¬ (n = 38 ∨ n = 48)) : oneC p (n :: t) (getC (n :: t) 0) = oneN p n (n :: t) := by
  have hf : Fl p.fl := ⟨hp.2.2.1, hp.2.2.2⟩
  unfold getC
  dsimp only
  by_cases h1 : n = -1
  · subst h1
    rw [if_pos rfl, one_zero _ _ (.inr rfl)]
    rfl
  rw [if_neg h1]
  by_cases h0 : n = 0
  · subst h0
    rw [one_zero _ _ (.inl rfl)]
    rfl
  by_cases h3 : 1 ≤ n ∧ n ≤ 29
  · rw [one_flag _ _ h3]
    by_cases h2 : n = 4 ∧ 1 < (n :: t).length
    · obtain ⟨rfl, h4⟩ := h2
      match t, h4 with
      | s :: t, h4 =>
        unfold oneC
        rw [if_neg (by omega), if_pos ⟨rfl, h4⟩, under_is hf]
        rfl
    · rw [oneC_two p _ h0 h2, plain_low h3, if_neg (by simp), sw_in hf h3]
      congr 1
      by_cases h4 : n = 4
      · subst h4
        have : t = [] := by
          cases t with
          | nil => rfl
          | cons a t => exact absurd ⟨rfl, by simp⟩ h2
        subst this
        rfl
      · unfold flagN
        simp [h4]
  · rw [one_high _ _ (by omega) h3 h, oneC_two p _ h0 (by omega), sw_out (by omega)]
/- Colours by several numbers. -/
def beginB (l : List Int) (first : Int) (needs : Nat) : Bool := decide (needs ≤ l.length) && (decide (l.getD 0 0 = first) && ((l.take needs).tail.all fun n => decide (n = clampN n)))
def byC (l : List Int) : Int × Int := if beginB l 5 2 = true then (l.getD 1 0 + 1, 2) else if beginB l 2 4 = true then (rgbN (l.getD 1 0) (l.getD 2 0) (l.getD 3 0), 4) else (0, 0)
def spaceC (l : List Int) : List Int := if l.getD 0 0 ≠ 2 ∨ l.length ≤ 4 then l else 2 :: (l.drop 2).take 3
def firstsC (l : List (List Int)) : List Int := (l.take 4).map fun q => getC q (-1)
def optC (o : Option (Int × Nat)) : Int × Int := match o with | some (c, k) => (c, (k : Int)) | none => (0, 0)
theorem clamp_iff (n : Int) : (n = clampN n) ↔ (0 ≤ n ∧ n ≤ 255) := by unfold clampN; omega
theorem part_iff (n : Int) : (decide (n = clampN n)) = partB n := by unfold partB; exact decide_eq_decide.2 (clamp_iff n)
theorem begin_two (l : List Int) : beginB l 5 2 = decide (atN l 0 = 5 ∧ partB (atN l 1) = true) := by
  unfold beginB atN
  match l with
  | [] => rfl
  | [a] => simp [partB]
  | a :: b :: t => simp [part_iff, Bool.decide_and]
theorem begin_four (l : List Int) : beginB l 2 4 = decide (atN l 0 = 2 ∧ partB (atN l 1) = true ∧ partB (atN l 2) = true ∧ partB (atN l 3) = true) := by
  unfold beginB atN
  match l with
  | [] => rfl
  | [a] => simp [partB]
  | [a, b] => simp [partB]
  | [a, b, c] => simp [partB]
  | a :: b :: c :: d :: t => simp [part_iff, Bool.decide_and]
theorem by_plain (l : List Int) : byC l = optC (colourN l false) := by
  unfold byC colourN
  rw [begin_two, begin_four]
  simp only [decide_eq_true_eq]
  match l with
  | [] => rfl
  | [a] => simp [atN, partB, optC]
  | [a, b] =>
    simp only [atN, List.getD_cons_zero, List.getD_cons_succ, List.getD_nil]
    split
    · rfl
    · simp [partB, optC]
  | [a, b, c] =>
    simp only [atN, List.getD_cons_zero, List.getD_cons_succ, List.getD_nil]
    split
    · rfl
    · simp [partB, optC]
  | a :: b :: c :: d :: t =>
    simp only [atN, List.getD_cons_zero, List.getD_cons_succ]
    split
    · rfl
    · simp only [Bool.false_eq_true, false_and, if_false, Nat.reduceAdd, List.getD_cons_zero, List.getD_cons_succ]
      split <;> rfl
theorem own_by {l : List Int} (hl : l ≠ []) : byC (spaceC l) = optC (colourN l true) := by
  by_cases h : l.getD 0 0 ≠ 2 ∨ l.length ≤ 4
  · have e : spaceC l = l := by unfold spaceC; rw [if_pos h]
    rw [e, by_plain]
    congr 1
    unfold colourN
    split
    · rfl
    · rename_i h5
      dsimp only
      rw [if_neg (by simp : ¬ (false = true ∧ 5 ≤ l.length))]
      rcases h with h | h
      · have h0 : ¬ atN l 0 = 2 := by
          cases l with
          | nil => exact absurd rfl hl
          | cons a t => exact h
        simp [h0]
      · rw [if_neg (show ¬ (true = true ∧ 5 ≤ l.length) by omega)]
  · have h1 : l.getD 0 0 = 2 := by
      by_cases k : l.getD 0 0 = 2
      · exact k
      · exact absurd (.inl k) h
    have h2 : 5 ≤ l.length := by
      rcases Nat.lt_or_ge l.length 5 with k | k
      · exact absurd (.inr (by omega)) h
      · exact k
    have e : spaceC l = 2 :: (l.drop 2).take 3 := by unfold spaceC; rw [if_neg h]
    rw [e, by_plain]
    congr 1
    match l, h2 with
    | a :: b :: c :: d :: f :: t, _ =>
      simp only [List.getD_cons_zero] at h1
      subst h1
      unfold colourN
      simp [atN]
theorem firsts_by (l : List (List Int)) : byC (firstsC l) = optC (colourN (l.map firstN) false) := by
  rw [by_plain]
  congr 1
  have hp : ∀ q : List Int, partB (getC q (-1)) = partB (firstN q) := by
    intro q
    cases q with
    | nil => simp [getC, firstN, atN, partB]
    | cons n t =>
      simp only [getC, firstN, atN, List.getD_cons_zero]
      split
      · rename_i h; subst h; rfl
      · rfl
  have hv : ∀ q : List Int, partB (firstN q) = true → getC q (-1) = firstN q := by
    intro q h
    cases q with
    | nil => simp [firstN, atN, partB] at h
    | cons n t =>
      simp only [getC, firstN, atN, List.getD_cons_zero]
      split
      · rename_i h; subst h; rfl
      · rfl
  have he : ∀ (q : List Int) (k : Int), 0 ≤ k → ((getC q (-1) = k) ↔ (firstN q = k)) := by
    intro q k hk
    cases q with
    | nil => simp only [getC, firstN, atN, List.getD_nil]; omega
    | cons n t =>
      simp only [getC, firstN, atN, List.getD_cons_zero]
      split <;> omega
  have hd : partB (-2) = false := by decide
  unfold firstsC colourN
  match l with
  | [] => rfl
  | [a] => simp [atN, hd]
  | [a, b] =>
    simp only [List.take_succ_cons, List.take_nil, List.map_cons, List.map_nil, atN, List.getD_cons_zero, List.getD_cons_succ, List.getD_nil, hp, he _ 5 (by omega), Bool.false_eq_true, false_and, if_false, Nat.reduceAdd, hd, and_false]
    split
    · rename_i h; rw [hv _ h.2]
    · rfl
  | [a, b, c] =>
    simp only [List.take_succ_cons, List.take_nil, List.map_cons, List.map_nil, atN, List.getD_cons_zero, List.getD_cons_succ, List.getD_nil, hp, he _ 5 (by omega), Bool.false_eq_true, false_and, if_false, Nat.reduceAdd, hd, and_false]
    split
    · rename_i h; rw [hv _ h.2]
    · rfl
  | a :: b :: c :: d :: t =>
    simp only [List.take_succ_cons, List.take_zero, List.map_cons, List.map_nil, atN, List.getD_cons_zero, List.getD_cons_succ, List.getD_nil, hp, he _ 5 (by omega), he _ 2 (by omega), Bool.false_eq_true, false_and, if_false, Nat.reduceAdd]
    split
    · rename_i h; rw [hv _ h.2]
    · split
      · rename_i h; rw [hv _ h.2.1, hv _ h.2.2.1, hv _ h.2.2.2]
      · rfl
/- Step by step. -/
def extC (p : Pn) (n : Int) (own : List Int) (rest : List (List Int)) : Pn × List (List Int) :=
  if own ≠ [] then (if 0 < (byC (spaceC own)).2 then paintC p n (byC (spaceC own)).1 else p, rest)
  else if (byC (firstsC rest)).2 = 0 then (p, []) else (paintC p n (byC (firstsC rest)).1, rest.drop (byC (firstsC rest)).2.toNat)
def stepC (p : Pn) (q : List Int) (rest : List (List Int)) : Pn × List (List Int) :=
  if q = [] then (p, rest)
  else if getC q 0 = 38 ∨ getC q 0 = 48 then extC p (getC q 0) q.tail rest
  else (oneC p q (getC q 0), rest)
theorem paint_put {p : Pn} {n c : Int} (h : n = 38 ∨ n = 48) : paintC p n c = putN p n c := by
  unfold paintC putN ground7B
  rcases h with rfl | rfl
  · rw [if_neg (by decide), if_neg (by decide)]
  · rw [if_pos (by decide), if_pos rfl]
theorem colour_two {l : List Int} {own : Bool} {c : Int} {k : Nat} (h : colourN l own = some (c, k)) : k = 2 ∨ k = 4 := by
  unfold colourN at h
  split at h
  · simp only [Option.some.injEq, Prod.mk.injEq] at h; exact .inl h.2.symm
  · dsimp only at h
    split at h <;> split at h
    all_goals first
      | (simp only [Option.some.injEq, Prod.mk.injEq] at h; exact .inr h.2.symm)
      | cases h
theorem get_first {n : Int} {t : List Int} {k : Int} (hk : 1 ≤ k) : getC (n :: t) 0 = k ↔ n = k := by
  unfold getC
  dsimp only
  split <;> omega
theorem ext_own (p : Pn) (n : Int) {own : List Int} (rest : List (List Int)) (h : own ≠ []) : extC p n own rest = (if 0 < (byC (spaceC own)).2 then paintC p n (byC (spaceC own)).1 else p, rest) := by unfold extC; rw [if_pos h]
theorem ext_next (p : Pn) (n : Int) (rest : List (List Int)) : extC p n [] rest = if (byC (firstsC rest)).2 = 0 then (p, []) else (paintC p n (byC (firstsC rest)).1, rest.drop (byC (firstsC rest)).2.toNat) := by unfold extC; rw [if_neg (by simp)]
theorem step_ext (p : Pn) {q : List Int} (rest : List (List Int)) (h : q ≠ []) (h2 : getC q 0 = 38 ∨ getC q 0 = 48) : stepC p q rest = extC p (getC q 0) q.tail rest := by unfold stepC; rw [if_neg h, if_pos h2]
theorem step_one (p : Pn) {q : List Int} (rest : List (List Int)) (h : q ≠ []) (h2 : ¬ (getC q 0 = 38 ∨ getC q 0 = 48)) : stepC p q rest = (oneC p q (getC q 0), rest) := by unfold stepC; rw [if_neg h, if_neg h2]
theorem go_next (p : Pn) {n : Int} (l : List (List Int)) (h : n = 38 ∨ n = 48) : goN p ([n] :: l) = match colourN (l.map firstN) false with
    | some (c, k) => goN (putN p n c) (l.drop k)
    | none => p := by
  have e1 : firstN [n] = n := rfl
  rw [goN, e1, if_pos h, if_neg (by simp)]; rfl
theorem go_own2 (p : Pn) {n : Int} {t : List Int} (l : List (List Int)) (h : n = 38 ∨ n = 48) (ht : t ≠ []) : goN p ((n :: t) :: l) = match colourN t true with
    | some (c, _) => goN (putN p n c) l
    | none => goN p l := by
  have e1 : firstN (n :: t) = n := rfl
  rw [goN, e1, if_pos h, if_pos (by cases t with | nil => exact absurd rfl ht | cons a t => simp)]; rfl
/-- One step of the code is one step of the document. -/
theorem step_is {p : Pn} (hp : SaneN p) (q : List Int) (rest : List (List Int)) : goN (stepC p q rest).1 (stepC p q rest).2 = goN p (q :: rest) ∧ SaneN (stepC p q rest).1 := by
  cases q with
  | nil =>
    have e : stepC p [] rest = (p, rest) := by unfold stepC; rw [if_pos rfl]
    have e2 : oneN p (firstN []) [] = p := by
      unfold oneN
      rw [if_neg (by decide), if_neg (by decide), if_neg (by decide), if_neg (by decide), if_neg (by decide), if_neg (by decide), if_neg (by decide), if_neg (by decide)]
    rw [e, goN_plain _ _ _ (by decide), e2]
    exact ⟨rfl, hp⟩
  | cons n t =>
    by_cases h : n = 38 ∨ n = 48
    · have hg : getC (n :: t) 0 = n := by
        rcases h with rfl | rfl
        · exact (get_first (by omega)).2 rfl
        · exact (get_first (by omega)).2 rfl
      rw [step_ext p rest (by simp) (by rw [hg]; exact h), hg, List.tail_cons]
      by_cases ht : t = []
      · subst ht
        rw [ext_next, firsts_by, go_next p rest h]
        cases hc : colourN (rest.map firstN) false with
        | none => exact ⟨goN_nil p, hp⟩
        | some ck =>
          obtain ⟨c, k⟩ := ck
          have hk := colour_two hc
          have e : (optC (some (c, k))).2 = (k : Int) := rfl
          have e2 : (optC (some (c, k))).1 = c := rfl
          rw [e, e2, if_neg (by omega), Int.toNat_natCast, paint_put h]
          exact ⟨rfl, put_ok hp n (colour_ok hc)⟩
      · rw [ext_own p n rest ht, own_by ht, go_own2 p rest h ht]
        cases hc : colourN t true with
        | none => exact ⟨rfl, hp⟩
        | some ck =>
          obtain ⟨c, k⟩ := ck
          have hk := colour_two hc
          have e : (optC (some (c, k))).2 = (k : Int) := rfl
          have e2 : (optC (some (c, k))).1 = c := rfl
          rw [e, e2, if_pos (by omega), paint_put h]
          exact ⟨rfl, put_ok hp n (colour_ok hc)⟩
    · have hg : ¬ (getC (n :: t) 0 = 38 ∨ getC (n :: t) 0 = 48) := by
        rw [get_first (by omega), get_first (by omega)]; exact h
      have e1 : firstN (n :: t) = n := rfl
      rw [step_one p rest (by simp) hg, goN_plain _ _ _ (by rw [e1]; exact h), e1, one_is hp h]
      exact ⟨rfl, one_ok hp _ _⟩
/- A pen as parameters. -/
def numC (c more : Int) : List Int :=
  if (partsN c).1 = 0 then [] else if (partsN c).1 = 2 then [38 + more, 2, (partsN c).2.1, (partsN c).2.2.1, (partsN c).2.2.2]
  else if (partsN c).2.1 < 8 then [30 + more + (partsN c).2.1] else if (partsN c).2.1 < 16 then [90 + more + (partsN c).2.1 - 8] else [38 + more, 5, (partsN c).2.1]
theorem num_is {c : Int} (hc : ColOk c) (more : Int) : (numC c more).map (fun n => [n]) = shadeN c more := by
  unfold ColOk at hc
  unfold numC shadeN
  rcases hc with rfl | h | h
  · rfl
  · have e : partsN c = (1, c - 1, 0, 0) := by unfold partsN; rw [if_neg (by omega), if_pos h]
    rw [e]
    simp only
    rw [if_neg (show ¬ ((1 : Int) = 0) by omega), if_neg (show ¬ ((1 : Int) = 2) by omega)]
    by_cases h1 : c ≤ 8
    · rw [if_pos (show c - 1 < 8 by omega), if_pos (show 1 ≤ c ∧ c ≤ 8 by omega)]
      simp only [List.map_cons, List.map_nil, List.cons.injEq, and_true]; omega
    · rw [if_neg (show ¬ c - 1 < 8 by omega), if_neg (show ¬ (1 ≤ c ∧ c ≤ 8) by omega)]
      by_cases h2 : c ≤ 16
      · rw [if_pos (show c - 1 < 16 by omega), if_pos (show 9 ≤ c ∧ c ≤ 16 by omega)]
        simp only [List.map_cons, List.map_nil, List.cons.injEq, and_true]; omega
      · rw [if_neg (show ¬ c - 1 < 16 by omega), if_neg (show ¬ (9 ≤ c ∧ c ≤ 16) by omega), if_pos (show 17 ≤ c ∧ c ≤ 256 by omega)]
        rfl
  · have e : partsN c = (2, c / 65536 % 256, c / 256 % 256, c % 256) := by unfold partsN; rw [if_neg (by omega), if_neg (by omega), if_pos h]
    rw [e]
    simp only
    rw [if_neg (show ¬ ((2 : Int) = 0) by omega), if_pos trivial, if_neg (show ¬ (1 ≤ c ∧ c ≤ 8) by omega), if_neg (show ¬ (9 ≤ c ∧ c ≤ 16) by omega), if_neg (show ¬ (17 ≤ c ∧ c ≤ 256) by omega), if_pos h]
    rfl
def flC (f : Int) (l : List (Int × Int × Int)) : List (List Int) := (l.filter fun x => !(bits .and .i64 f x.1 == 0)).map fun x => [x.2.1]
theorem fl_all : allF (fun f => decide (flC f rowsT = flagsN f)) = true := by decide +kernel
theorem fl_is {f : Int} (hf : Fl f) : flC f rowsT = flagsN f := of_decide_eq_true (allF_spec fl_all hf)
end Go.Proofs.YtlcnlfjjglcobaaDoor
