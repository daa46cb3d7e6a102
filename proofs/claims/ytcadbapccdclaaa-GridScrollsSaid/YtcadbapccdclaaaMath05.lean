/- Parameters, plainly: what a digit, a semicolon and a colon make of them, what a text makes, how they are printed; what is printed is parsed. No program here. -/
import Derived.WalkKit
import Derived.Lib.ItoaNum
namespace Go.Proofs.Ytcadbapccdclaaa
set_option linter.unusedVariables false
set_option linter.unusedSimpArgs false
open Go

structure Par where
  l : List (List Int)
  o : Bool
theorem Par.ext' {p q : Par} (h1 : p.l = q.l) (h2 : p.o = q.o) : p = q := by cases p; cases q; simp_all

def NumOk (n : Int) : Prop := -1 ≤ n ∧ n ≤ 65535
def OneOk (q : List Int) : Prop := 1 ≤ q.length ∧ q.length ≤ 6 ∧ ∀ n ∈ q, NumOk n
structure SaneP (p : Par) : Prop where
  few : p.l.length ≤ 16
  each : ∀ q ∈ p.l, OneOk q
  shut : p.l = [] → p.o = false
instance (n : Int) : Decidable (NumOk n) := inferInstanceAs (Decidable (_ ∧ _))
instance (q : List Int) : Decidable (OneOk q) := inferInstanceAs (Decidable (_ ∧ _ ∧ _))
instance (p : Par) : Decidable (SaneP p) :=
  if h : p.l.length ≤ 16 ∧ (∀ q ∈ p.l, OneOk q) ∧ (p.l = [] → p.o = false) then isTrue ⟨h.1, h.2.1, h.2.2⟩ else isFalse fun k => h ⟨k.few, k.each, k.shut⟩

def lastMod {α : Type} (f : α → α) (l : List α) : List α := match l.getLast? with
  | none => []
  | some x => l.dropLast ++ [f x]
theorem lastMod_nil {α : Type} (f : α → α) : lastMod f [] = [] := rfl
theorem lastMod_snoc {α : Type} (f : α → α) (l : List α) (x : α) : lastMod f (l ++ [x]) = l ++ [f x] := by simp [lastMod]
theorem snoc_of {α : Type} {l : List α} (h : l ≠ []) : ∃ a x, l = a ++ [x] := ⟨l.dropLast, l.getLast h, (List.dropLast_concat_getLast h).symm⟩
theorem lastMod_length {α : Type} (f : α → α) (l : List α) : (lastMod f l).length = l.length := by
  by_cases h : l = []
  · subst h; rfl
  · obtain ⟨a, x, rfl⟩ := snoc_of h
    rw [lastMod_snoc]; simp

/-- What a step begins with. -/
def beginP (p : Par) : Par := if p.l = [] then ⟨[[-1]], true⟩ else p
def digN (c : Nat) (n : Int) : Int := min 65535 (max n 0 * 10 + ((c : Int) - 48))
def isDig (c : Nat) : Prop := 48 ≤ c ∧ c ≤ 57
instance (c : Nat) : Decidable (isDig c) := inferInstanceAs (Decidable (_ ∧ _))
def rDigit (c : Nat) (p : Par) : Par := if (beginP p).o then ⟨lastMod (lastMod (digN c)) (beginP p).l, true⟩ else beginP p
def rNext (p : Par) : Par := if 16 ≤ (beginP p).l.length then ⟨(beginP p).l, false⟩ else ⟨(beginP p).l ++ [[-1]], true⟩
def lastLen (l : List (List Int)) : Nat := (l.getLast?.map List.length).getD 0
def rSub (p : Par) : Par := if (beginP p).o = true ∧ lastLen (beginP p).l < 6 then ⟨lastMod (fun q => q ++ [-1]) (beginP p).l, true⟩ else ⟨(beginP p).l, false⟩
def zeroP : Par := ⟨[], false⟩
def digitP (c : Nat) (p : Par) : Par := if SaneP p then (if isDig c then rDigit c p else p) else zeroP
def nextP (p : Par) : Par := if SaneP p then rNext p else zeroP
def subP (p : Par) : Par := if SaneP p then rSub p else zeroP
/-- A byte of a text. -/
def isByte (c : Nat) : Prop := isDig c ∨ c = 58 ∨ c = 59
instance (c : Nat) : Decidable (isByte c) := inferInstanceAs (Decidable (_ ∨ _ ∨ _))
def stepP (p : Par) (c : Nat) : Par := if c = 59 then nextP p else if c = 58 then subP p else digitP c p
def rStep (p : Par) (c : Nat) : Par := if c = 59 then rNext p else if c = 58 then rSub p else if isDig c then rDigit c p else p
def runP (p : Par) (s : List Nat) : Par := s.foldl stepP p
def parseP (s : List Nat) : Option (List (List Int)) := if (∀ c ∈ s, isByte c) then some (runP zeroP s).l else none

theorem digN_ok {c : Nat} {n : Int} (h : isDig c) : NumOk (digN c n) := by
  unfold isDig at h; unfold NumOk digN; omega
theorem zero_sane : SaneP zeroP := ⟨by decide, by simp [zeroP], fun _ => rfl⟩
theorem begin_ne (p : Par) : (beginP p).l ≠ [] := by
  unfold beginP; split
  · simp
  · rename_i h; exact h
theorem begin_sane {p : Par} (h : SaneP p) : SaneP (beginP p) := by
  unfold beginP; split
  · refine ⟨by simp, ?_, by simp⟩
    intro q hq; simp at hq; subst hq; exact ⟨by simp, by simp, by intro n hn; simp at hn; subst hn; unfold NumOk; omega⟩
  · exact h
theorem sane_last {l : List (List Int)} {q : List Int} {o : Bool} (h : SaneP ⟨l ++ [q], o⟩) (q' : List Int) (h' : OneOk q') (o' : Bool) : SaneP ⟨l ++ [q'], o'⟩ := by
  refine ⟨by have := h.few; simp at this ⊢; omega, ?_, by simp⟩
  intro x hx
  rcases List.mem_append.1 hx with hx | hx
  · exact h.each x (List.mem_append_left _ hx)
  · simp at hx; subst hx; exact h'
theorem one_last {q : List Int} {n n' : Int} (h : OneOk (q ++ [n])) (h' : NumOk n') : OneOk (q ++ [n']) := by
  refine ⟨by simp, by have := h.2.1; simp at this ⊢; omega, ?_⟩
  intro x hx
  rcases List.mem_append.1 hx with hx | hx
  · exact h.2.2 x (List.mem_append_left _ hx)
  · simp at hx; subst hx; exact h'
theorem one_ne {q : List Int} (h : OneOk q) : q ≠ [] := by
  rintro rfl
  have := h.1
  simp at this
theorem rDigit_sane {c : Nat} {p : Par} (h : SaneP p) (hc : isDig c) : SaneP (rDigit c p) := by
  unfold rDigit
  have hb := begin_sane h
  obtain ⟨a, q, e⟩ := snoc_of (begin_ne p)
  generalize beginP p = b at *
  split
  · cases b with
    | mk l o =>
      simp only at e
      subst e
      have hq := hb.each q (by simp)
      obtain ⟨x, n, rfl⟩ := snoc_of (one_ne hq)
      simp only [lastMod_snoc]
      exact sane_last hb _ (one_last hq (digN_ok hc)) true
  · exact hb
theorem rNext_sane {p : Par} (h : SaneP p) : SaneP (rNext p) := by
  unfold rNext
  have hb := begin_sane h
  have hn := begin_ne p
  generalize beginP p = b at *
  split
  · exact ⟨hb.few, hb.each, fun k => absurd k hn⟩
  · refine ⟨by simp; omega, ?_, by simp⟩
    intro x hx
    rcases List.mem_append.1 hx with hx | hx
    · exact hb.each x hx
    · simp at hx; subst hx; exact ⟨by simp, by simp, by intro n hn; simp at hn; subst hn; unfold NumOk; omega⟩
theorem rSub_sane {p : Par} (h : SaneP p) : SaneP (rSub p) := by
  unfold rSub
  have hb := begin_sane h
  have hn := begin_ne p
  obtain ⟨a, q, e⟩ := snoc_of hn
  generalize beginP p = b at *
  split
  · rename_i hc
    cases b with
    | mk l o =>
      simp only at e
      subst e
      have hq := hb.each q (by simp)
      rw [lastMod_snoc]
      refine sane_last hb _ ⟨by simp, ?_, ?_⟩ true
      · have := hc.2; simp [lastLen] at this ⊢; omega
      · intro n hn
        rcases List.mem_append.1 hn with hn | hn
        · exact hq.2.2 n hn
        · simp at hn; subst hn; unfold NumOk; omega
  · exact ⟨hb.few, hb.each, fun k => absurd k hn⟩
theorem digit_sane {c : Nat} {p : Par} : SaneP (digitP c p) := by
  unfold digitP; split
  · rename_i h; split
    · rename_i hc; exact rDigit_sane h hc
    · exact h
  · exact zero_sane
theorem next_sane {p : Par} : SaneP (nextP p) := by
  unfold nextP; split
  · rename_i h; exact rNext_sane h
  · exact zero_sane
theorem sub_sane {p : Par} : SaneP (subP p) := by
  unfold subP; split
  · rename_i h; exact rSub_sane h
  · exact zero_sane
theorem step_sane {p : Par} {c : Nat} : SaneP (stepP p c) := by
  unfold stepP; split
  · exact next_sane
  · split
    · exact sub_sane
    · exact digit_sane
theorem run_sane {p : Par} (h : SaneP p) (s : List Nat) : SaneP (runP p s) := by
  induction s generalizing p with
  | nil => exact h
  | cons c s ih => exact ih step_sane
theorem step_raw {p : Par} (h : SaneP p) (c : Nat) : stepP p c = rStep p c := by
  unfold stepP rStep nextP subP digitP
  simp only [h, if_true]
theorem run_raw {p : Par} (h : SaneP p) (s : List Nat) : runP p s = s.foldl rStep p := by
  induction s generalizing p with
  | nil => rfl
  | cons c s ih =>
    show runP (stepP p c) s = s.foldl rStep (rStep p c)
    rw [ih step_sane, step_raw h]
theorem run_snoc (p : Par) (s : List Nat) (c : Nat) : runP p (s ++ [c]) = stepP (runP p s) c := by simp [runP]

/- Printing. -/
def numP (n : Int) : List Nat := if n = -1 then [] else (Lib.itoa n).map UInt8.toNat
def joinP {α : Type} (sep : Nat) (f : α → List Nat) : List α → List Nat
  | [] => []
  | x :: l => f x ++ l.flatMap fun y => sep :: f y
def oneP (q : List Int) : List Nat := joinP 58 numP q
def printP (l : List (List Int)) : List Nat := joinP 59 oneP l
theorem join_snoc {α : Type} (sep : Nat) (f : α → List Nat) (l : List α) (x : α) (h : l ≠ []) : joinP sep f (l ++ [x]) = joinP sep f l ++ sep :: f x := by
  cases l with
  | nil => exact absurd rfl h
  | cons y l => simp [joinP]
theorem join_one {α : Type} (sep : Nat) (f : α → List Nat) (x : α) : joinP sep f [x] = f x := by simp [joinP]

theorem dec_digits (u : Nat) : ∀ c ∈ (Lib.decDigits u).map UInt8.toNat, isDig c := by
  induction u using Nat.strongRecOn with
  | _ u ih =>
    rw [Lib.decDigits]
    by_cases h : u < 10
    · rw [dif_pos h]
      intro c hc
      simp only [List.map_cons, List.map_nil, List.mem_singleton] at hc
      subst hc
      rw [UInt8.toNat_ofNat']; unfold isDig; omega
    · rw [dif_neg h, List.map_append]
      intro c hc
      rcases List.mem_append.1 hc with hc | hc
      · exact ih (u / 10) (by omega) c hc
      · simp only [List.map_cons, List.map_nil, List.mem_singleton] at hc
        subst hc
        rw [UInt8.toNat_ofNat']; unfold isDig; omega
theorem dec_fold (u : Nat) (hu : u ≤ 65535) : ((Lib.decDigits u).map UInt8.toNat).foldl (fun n c => digN c n) (-1) = (u : Int) := by
  induction u using Nat.strongRecOn with
  | _ u ih =>
    rw [Lib.decDigits]
    by_cases h : u < 10
    · rw [dif_pos h]
      simp only [List.map_cons, List.map_nil, List.foldl_cons, List.foldl_nil]
      rw [UInt8.toNat_ofNat']
      unfold digN; omega
    · rw [dif_neg h, List.map_append, List.foldl_append, ih (u / 10) (by omega) (by omega)]
      simp only [List.map_cons, List.map_nil, List.foldl_cons, List.foldl_nil]
      rw [UInt8.toNat_ofNat']
      unfold digN; omega
theorem dec_ne (u : Nat) : Lib.decDigits u ≠ [] := by
  intro h
  have := Lib.decDigits_length u
  rw [h] at this
  have := Lib.nDigits_pos u
  simp at *
  omega
theorem num_ne {n : Int} (h : n ≠ -1) : numP n ≠ [] := by
  unfold numP Lib.itoa
  rw [if_neg h]
  split
  · simp
  · simp [dec_ne]
theorem num_nat (u : Nat) : numP (u : Int) = (Lib.decDigits u).map UInt8.toNat := by
  unfold numP Lib.itoa
  rw [if_neg (by omega), if_neg (by omega)]
  simp
theorem num_digits {n : Int} (h : NumOk n) : ∀ c ∈ numP n, isDig c := by
  by_cases h1 : n = -1
  · subst h1; simp [numP]
  · obtain ⟨u, rfl⟩ : ∃ u : Nat, n = (u : Int) := ⟨n.toNat, by unfold NumOk at h; omega⟩
    rw [num_nat]; exact dec_digits u
theorem num_fold {n : Int} (h : NumOk n) : (numP n).foldl (fun n c => digN c n) (-1) = n := by
  by_cases h1 : n = -1
  · subst h1; simp [numP]
  · obtain ⟨u, rfl⟩ : ∃ u : Nat, n = (u : Int) := ⟨n.toNat, by unfold NumOk at h; omega⟩
    rw [num_nat]; exact dec_fold u (by unfold NumOk at h; omega)

theorem begin_some {l : List (List Int)} {q : List Int} {o : Bool} : beginP ⟨l ++ [q], o⟩ = ⟨l ++ [q], o⟩ := by simp [beginP]
theorem raw_digits (ds : List Nat) (hd : ∀ c ∈ ds, isDig c) (ps : List (List Int)) (q : List Int) (n : Int) :
    ds.foldl rStep ⟨ps ++ [q ++ [n]], true⟩ = ⟨ps ++ [q ++ [ds.foldl (fun n c => digN c n) n]], true⟩ := by
  induction ds generalizing n with
  | nil => rfl
  | cons c ds ih =>
    have hc := hd c (by simp)
    have e : rStep ⟨ps ++ [q ++ [n]], true⟩ c = ⟨ps ++ [q ++ [digN c n]], true⟩ := by
      have hc' := hc
      unfold isDig at hc'
      unfold rStep
      rw [if_neg (by omega), if_neg (by omega), if_pos hc]
      unfold rDigit
      rw [begin_some]
      simp [lastMod_snoc]
    rw [List.foldl_cons, e, ih (fun x hx => hd x (by simp [hx]))]
    rfl
theorem raw_num {n : Int} (h : NumOk n) (ps : List (List Int)) (q : List Int) : (numP n).foldl rStep ⟨ps ++ [q ++ [-1]], true⟩ = ⟨ps ++ [q ++ [n]], true⟩ := by
  rw [raw_digits _ (num_digits h), num_fold h]
theorem raw_more (q' : List Int) (hq : ∀ n ∈ q', NumOk n) (ps : List (List Int)) (q : List Int) (hl : q.length + q'.length ≤ 6) :
    (q'.flatMap fun n => 58 :: numP n).foldl rStep ⟨ps ++ [q], true⟩ = ⟨ps ++ [q ++ q'], true⟩ := by
  induction q' generalizing q with
  | nil => simp
  | cons n q' ih =>
    have e : rStep ⟨ps ++ [q], true⟩ 58 = ⟨ps ++ [q ++ [-1]], true⟩ := by
      unfold rStep
      rw [if_neg (by omega), if_pos rfl]
      unfold rSub
      rw [begin_some, if_pos ⟨rfl, by simp [lastLen] at hl ⊢; omega⟩]
      simp [lastMod_snoc]
    rw [List.flatMap_cons, List.foldl_append, List.foldl_cons, e, raw_num (hq n (by simp)), ih (fun x hx => hq x (by simp [hx])) _ (by simp at hl ⊢; omega)]
    simp
theorem raw_one {q : List Int} (h : OneOk q) (ps : List (List Int)) : (oneP q).foldl rStep ⟨ps ++ [[-1]], true⟩ = ⟨ps ++ [q], true⟩ := by
  cases q with
  | nil => exact absurd rfl (one_ne h)
  | cons n q =>
    unfold oneP joinP
    have e := raw_num (h.2.2 n (by simp)) ps []
    simp only [List.nil_append] at e
    rw [List.foldl_append, e, raw_more q (fun x hx => h.2.2 x (by simp [hx])) ps [n] (by have := h.2.1; simp at this ⊢; omega)]
    simp
theorem raw_ones (l : List (List Int)) (hl : ∀ q ∈ l, OneOk q) (ps : List (List Int)) (q : List Int) (hn : ps.length + 1 + l.length ≤ 16) :
    (l.flatMap fun q => 59 :: oneP q).foldl rStep ⟨ps ++ [q], true⟩ = ⟨ps ++ q :: l, true⟩ := by
  induction l generalizing ps q with
  | nil => simp
  | cons x l ih =>
    have e : rStep ⟨ps ++ [q], true⟩ 59 = ⟨(ps ++ [q]) ++ [[-1]], true⟩ := by
      unfold rStep
      rw [if_pos rfl]
      unfold rNext
      rw [begin_some, if_neg (by simp at hn ⊢; omega)]
    rw [List.flatMap_cons, List.foldl_append, List.foldl_cons, e, raw_one (hl x (by simp)), ih (fun y hy => hl y (by simp [hy])) _ _ (by simp at hn ⊢; omega)]
    simp
theorem raw_print {l : List (List Int)} (h : SaneP ⟨l, true⟩) : (printP l).foldl rStep ⟨[[-1]], true⟩ = ⟨l, true⟩ := by
  cases l with
  | nil => exact absurd (h.shut rfl) (by simp)
  | cons q l =>
    unfold printP joinP
    have e := raw_one (h.each q (by simp)) []
    simp only [List.nil_append] at e
    have e2 := raw_ones l (fun x hx => h.each x (by simp [hx])) [] q (by have := h.few; simp at this ⊢; omega)
    simp only [List.nil_append] at e2
    rw [List.foldl_append, e, e2]
theorem one_bytes {q : List Int} (h : ∀ n ∈ q, NumOk n) : ∀ c ∈ oneP q, isByte c := by
  cases q with
  | nil => simp [oneP, joinP]
  | cons n q =>
    intro c hc
    unfold oneP joinP at hc
    rcases List.mem_append.1 hc with hc | hc
    · exact .inl (num_digits (h n (by simp)) c hc)
    · obtain ⟨x, hx, hc⟩ := List.mem_flatMap.1 hc
      rcases List.mem_cons.1 hc with rfl | hc
      · exact .inr (.inl rfl)
      · exact .inl (num_digits (h x (by simp [hx])) c hc)
theorem print_bytes {l : List (List Int)} (h : ∀ q ∈ l, OneOk q) : ∀ c ∈ printP l, isByte c := by
  cases l with
  | nil => simp [printP, joinP]
  | cons q l =>
    intro c hc
    unfold printP joinP at hc
    rcases List.mem_append.1 hc with hc | hc
    · exact one_bytes (h q (by simp)).2.2 c hc
    · obtain ⟨x, hx, hc⟩ := List.mem_flatMap.1 hc
      rcases List.mem_cons.1 hc with rfl | hc
      · exact .inr (.inr rfl)
      · exact one_bytes (h x (by simp [hx])).2.2 c hc
theorem one_nil {q : List Int} (h : oneP q = []) (hq : OneOk q) : q = [-1] := by
  cases q with
  | nil => exact absurd rfl (one_ne hq)
  | cons n q =>
    unfold oneP joinP at h
    obtain ⟨h1, h2⟩ := List.append_eq_nil_iff.1 h
    have hn : n = -1 := by
      by_cases k : n = -1
      · exact k
      · exact absurd h1 (num_ne k)
    cases q with
    | nil => rw [hn]
    | cons m q => simp at h2
theorem print_nil {l : List (List Int)} (h : printP l = []) (hl : ∀ q ∈ l, OneOk q) : l = [] ∨ l = [[-1]] := by
  cases l with
  | nil => exact .inl rfl
  | cons q l =>
    unfold printP joinP at h
    obtain ⟨h1, h2⟩ := List.append_eq_nil_iff.1 h
    cases l with
    | nil => rw [one_nil h1 (hl q (by simp))]; exact .inr rfl
    | cons m l => simp at h2
theorem begin_zero (c : Nat) : rStep zeroP c = rStep ⟨[[-1]], true⟩ c ∨ ¬ isByte c := by
  by_cases h : isByte c
  · refine .inl ?_
    have e1 : beginP zeroP = ⟨[[-1]], true⟩ := rfl
    have e2 : beginP ⟨[[-1]], true⟩ = ⟨[[-1]], true⟩ := rfl
    unfold rStep
    split
    · unfold rNext; rw [e1, e2]
    · split
      · unfold rSub; rw [e1, e2]
      · split
        · unfold rDigit; rw [e1, e2]
        · rename_i h1 h2 h3
          rcases h with h | h | h
          · exact absurd h h3
          · exact absurd h h2
          · exact absurd h h1
  · exact .inr h
/-- What is printed is parsed. -/
theorem parse_print {l : List (List Int)} (h : SaneP ⟨l, false⟩) : parseP (printP l) = some (if l = [[-1]] then [] else l) := by
  unfold parseP
  rw [if_pos (print_bytes h.each), run_raw zero_sane]
  by_cases hn : printP l = []
  · rw [hn]
    rcases print_nil hn h.each with rfl | rfl
    · rfl
    · rfl
  · have hl : l ≠ [] := by rintro rfl; exact hn rfl
    have hl1 : l ≠ [[-1]] := by rintro rfl; exact hn rfl
    rw [if_neg hl1]
    have hs : SaneP ⟨l, true⟩ := ⟨h.few, h.each, fun k => absurd k hl⟩
    have e := raw_print hs
    have hb := print_bytes h.each
    generalize printP l = t at *
    cases t with
    | nil => exact absurd rfl hn
    | cons c t =>
      rcases begin_zero c with k | k
      · rw [List.foldl_cons, k, ← List.foldl_cons, e]
      · exact absurd (hb c (by simp)) k
theorem num_len {n : Int} (h : NumOk n) : (numP n).length ≤ 5 := by
  by_cases h1 : n = -1
  · subst h1; simp [numP]
  · obtain ⟨u, rfl⟩ : ∃ u : Nat, n = (u : Int) := ⟨n.toNat, by unfold NumOk at h; omega⟩
    rw [num_nat, List.length_map, Lib.decDigits_length]
    have hu : u ≤ 65535 := by unfold NumOk at h; omega
    by_cases h5 : u < 10000
    · by_cases a1 : u < 10
      · rw [Lib.nDigits_small a1]; omega
      · rw [Lib.nDigits_big a1]
        by_cases a2 : u / 10 < 10
        · rw [Lib.nDigits_small a2]; omega
        · rw [Lib.nDigits_big a2]
          by_cases a3 : u / 10 / 10 < 10
          · rw [Lib.nDigits_small a3]; omega
          · rw [Lib.nDigits_big a3, Lib.nDigits_small (by omega)]; omega
    · rw [Lib.nDigits_unique 4 u (by omega) (by omega)]; omega
theorem flat_len {α : Type} (sep : Nat) (f : α → List Nat) (k : Nat) (l : List α) (h : ∀ x ∈ l, (f x).length ≤ k) : (l.flatMap fun y => sep :: f y).length ≤ l.length * (k + 1) := by
  induction l with
  | nil => simp
  | cons x l ih =>
    have h1 := h x (by simp)
    have h2 := ih (fun y hy => h y (by simp [hy]))
    simp only [List.flatMap_cons, List.length_append, List.length_cons, Nat.add_mul, Nat.one_mul] at *
    omega
theorem one_len {q : List Int} (h : OneOk q) : (oneP q).length ≤ 35 := by
  cases q with
  | nil => simp [oneP, joinP]
  | cons n q =>
    unfold oneP joinP
    have h1 := num_len (h.2.2 n (by simp))
    have h2 := flat_len 58 numP 5 q (fun x hx => num_len (h.2.2 x (by simp [hx])))
    have h3 := h.2.1
    simp only [List.length_append, List.length_cons] at *
    omega
theorem print_len {l : List (List Int)} {o : Bool} (h : SaneP ⟨l, o⟩) : (printP l).length ≤ 575 := by
  cases l with
  | nil => simp [printP, joinP]
  | cons q l =>
    unfold printP joinP
    have h1 := one_len (h.each q (by simp))
    have h2 := flat_len 59 oneP 35 l (fun x hx => one_len (h.each x (by simp [hx])))
    have h3 := h.few
    simp only [List.length_append, List.length_cons] at *
    omega
end Go.Proofs.Ytcadbapccdclaaa
