/- Pieces and words of a text of bytes below 128, as lists of bytes: what can be reckoned. -/
import Derived.Test.YthlkpcfpapiigaaDoorWords
import Derived.Laws.RangeString
namespace Go.Proofs.YthlkpcfpapiigaaDoor
open Go Go.RowKit
set_option linter.unusedVariables false
set_option linter.unusedSimpArgs false

def consHead (b : UInt8) : List (List UInt8) → List (List UInt8)
  | h :: t => (b :: h) :: t
  | [] => [[b]]
def cutL : List UInt8 → List (List UInt8)
  | [] => [[]]
  | b :: l => if b = 44 then [] :: cutL l else consHead b (cutL l)
theorem splitK_cons_ne (b : UInt8) (l : List UInt8) (hb : b ≠ 44) (k : Nat) : Lib.splitK [44] 0 k (b :: l) = consHead b (Lib.splitK [44] 0 k l) := by
  cases k with
  | zero => rfl
  | succ k =>
    have hp : List.isPrefixOf [44] (b :: l) = false := by
      have : ¬ (44 : UInt8) = b := fun e => hb e.symm
      simp [List.isPrefixOf, this]
    have hi : Lib.index (b :: l) [44] = if Lib.index l [44] == -1 then -1 else Lib.index l [44] + 1 := by
      rw [Lib.index, hp]; rfl
    have hge := Lib.index_ge l [44]
    unfold Lib.splitK
    rw [hi]
    by_cases h1 : Lib.index l [44] = -1
    · simp [h1, consHead]
    · obtain ⟨i, hi⟩ : ∃ i : Nat, Lib.index l [44] = i := ⟨(Lib.index l [44]).toNat, by omega⟩
      have e1 : ((i : Int) == -1) = false := beq_eq_false_iff_ne.2 (by omega)
      have e2 : ((i : Int) + 1 == -1) = false := beq_eq_false_iff_ne.2 (by omega)
      have e3 : ((i : Int) + 1).toNat = i + 1 := by omega
      simp [hi, e1, e2, e3, consHead]
theorem splitK_cut (l : List UInt8) : Lib.splitK [44] 0 (Lib.count l [44]) l = cutL l := by
  rw [Lib.count_one]
  induction l with
  | nil => rfl
  | cons b l ih =>
    by_cases hb : b = 44
    · subst hb
      have hp : List.isPrefixOf [44] ((44 : UInt8) :: l) = true := by simp [List.isPrefixOf]
      rw [List.count_cons_self, cutL, if_pos rfl, Lib.splitK]
      have hi : Lib.index (44 :: l) [44] = 0 := by rw [Lib.index, hp]; rfl
      rw [hi]
      simpa using ih
    · rw [List.count_cons_of_ne (by simpa using hb), splitK_cons_ne b l hb, ih, cutL, if_neg hb]
theorem pieces_cut (s : ByteArray) : (piecesF s).map (·.data.toList) = cutL s.data.toList := by
  unfold piecesF
  rw [Lib.splitB_data]
  exact splitK_cut _

def wordsL (p : Nat → Bool) : List UInt8 → List UInt8 → List (List UInt8)
  | cur, [] => if cur.isEmpty then [] else [cur]
  | cur, b :: l => if p b.toNat then (if cur.isEmpty then wordsL p [] l else cur :: wordsL p [] l) else wordsL p (cur ++ [b]) l

def curOf (L : List UInt8) (st : Option Nat) (pos : Nat) : List UInt8 :=
  match st with
  | some a => (L.drop a).take (pos - a)
  | none => []
theorem curOf_step (L : List UInt8) (a pos : Nat) (ha : a ≤ pos) (hp : pos < L.length) : (L.drop a).take (pos + 1 - a) = (L.drop a).take (pos - a) ++ [L[pos]] := by
  have e : pos + 1 - a = (pos - a) + 1 := by omega
  rw [e, List.take_succ_eq_append_getElem (by simp; omega)]
  congr 2
  simp
  congr 1
  omega
theorem sp_none (p : Nat → Bool) (s : ByteArray) (f pos : Nat) (acc : List (Nat × Nat)) : Lib.spansFromP p s (f + 1) pos none acc = if pos < s.size then (if p (Utf8.decode s pos).1 then Lib.spansFromP p s f (pos + (Utf8.decode s pos).2) none acc else Lib.spansFromP p s f (pos + (Utf8.decode s pos).2) (some pos) acc) else (acc, none) := rfl
theorem sp_some (p : Nat → Bool) (s : ByteArray) (f pos a : Nat) (acc : List (Nat × Nat)) : Lib.spansFromP p s (f + 1) pos (some a) acc = if pos < s.size then (if p (Utf8.decode s pos).1 then Lib.spansFromP p s f (pos + (Utf8.decode s pos).2) none (acc ++ [(a, pos)]) else Lib.spansFromP p s f (pos + (Utf8.decode s pos).2) (some a) acc) else (acc, some a) := rfl
theorem spans_words (p : Nat → Bool) (s : ByteArray) (hs : ∀ b ∈ s.data.toList, b.toNat < 128) : ∀ (f pos : Nat) (st : Option Nat) (acc : List (Nat × Nat)), s.size ≤ pos + f → pos ≤ s.size → (∀ a, st = some a → a < pos) →
    (Lib.closeSpans s (Lib.spansFromP p s f pos st acc)).map (fun x => (s.data.toList.drop x.1).take (x.2 - x.1)) = acc.map (fun x => (s.data.toList.drop x.1).take (x.2 - x.1)) ++ wordsL p (curOf s.data.toList st pos) (s.data.toList.drop pos)
  | 0, pos, st, acc, h, hp, hst => by
    obtain rfl : pos = s.size := by omega
    have hsz := Lib.size_eq s
    have hd : s.data.toList.drop s.size = [] := List.drop_eq_nil_of_le (by omega)
    rw [hd, Lib.spansFromP]
    cases st with
    | none => simp [Lib.closeSpans, curOf, wordsL]
    | some a =>
      have ha := hst a rfl
      have hne : (curOf s.data.toList (some a) s.size).isEmpty = false := by
        rw [List.isEmpty_eq_false_iff]
        intro e
        have := congrArg List.length e
        simp only [curOf, List.length_take, List.length_drop, List.length_nil] at this
        omega
      rw [wordsL, hne]
      simp [Lib.closeSpans, curOf]
  | f + 1, pos, st, acc, h, hp, hst => by
    have hsz := Lib.size_eq s
    by_cases hlt : pos < s.size
    · have hdrop : s.data.toList.drop pos = s.data.toList[pos]'(by omega) :: s.data.toList.drop (pos + 1) := List.drop_eq_getElem_cons (by omega)
      have hb := hs (s.data.toList[pos]'(by omega)) (List.getElem_mem _)
      have hdec := decode_ascii s pos hlt hb
      have hsp : (s[pos]'hlt) = s.data.toList[pos]'(by omega) := rfl
      rw [hsp] at hdec
      rw [hdrop, wordsL]
      have ih := spans_words p s hs f (pos + 1)
      cases st with
      | none =>
        rw [sp_none, if_pos hlt, hdec]
        by_cases hpb : p (s.data.toList[pos]'(by omega)).toNat = true
        · rw [if_pos hpb, if_pos hpb]
          have := ih none acc (by omega) (by omega) (by simp)
          simpa [curOf] using this
        · rw [if_neg hpb, if_neg hpb]
          have := ih (some pos) acc (by omega) (by omega) (by intro a e; injection e with e; omega)
          have e1 : curOf s.data.toList (some pos) (pos + 1) = [s.data.toList[pos]'(by omega)] := by
            have := curOf_step s.data.toList pos pos (Nat.le_refl _) (by omega)
            simpa [curOf] using this
          rw [e1] at this
          simpa [curOf] using this
      | some a =>
        have ha := hst a rfl
        rw [sp_some, if_pos hlt, hdec]
        by_cases hpb : p (s.data.toList[pos]'(by omega)).toNat = true
        · rw [if_pos hpb, if_pos hpb]
          have hne : (curOf s.data.toList (some a) pos).isEmpty = false := by
            rw [List.isEmpty_eq_false_iff]
            intro e
            have := congrArg List.length e
            simp only [curOf, List.length_take, List.length_drop, List.length_nil] at this
            omega
          have := ih none (acc ++ [(a, pos)]) (by omega) (by omega) (by simp)
          rw [hne]
          simpa [curOf] using this
        · rw [if_neg hpb, if_neg hpb]
          have := ih (some a) acc (by omega) (by omega) (by intro a' e; injection e with e; omega)
          have e1 : curOf s.data.toList (some a) (pos + 1) = curOf s.data.toList (some a) pos ++ [s.data.toList[pos]'(by omega)] := curOf_step s.data.toList a pos (by omega) (by omega)
          rw [e1] at this
          exact this
    · obtain rfl : pos = s.size := by omega
      have hd : s.data.toList.drop s.size = [] := List.drop_eq_nil_of_le (by omega)
      have := spans_words p s hs 0 s.size st acc (by omega) (by omega) hst
      have e0 : Lib.spansFromP p s 0 s.size st acc = (acc, st) := by cases st <;> rfl
      rw [e0] at this
      cases st with
      | none => rw [sp_none, if_neg hlt]; exact this
      | some a => rw [sp_some, if_neg hlt]; exact this
theorem words_cut (s : ByteArray) (hs : ∀ b ∈ s.data.toList, b.toNat < 128) : (wordsF s).map (·.data.toList) = wordsL btwB [] s.data.toList := by
  have h := spans_words btwB s hs s.size 0 none [] (by omega) (by omega) (by simp)
  unfold wordsF Lib.goFieldsP Lib.spansOfP
  rw [List.map_map]
  simpa [Lib.extract_data, Function.comp_def, curOf] using h

def toBA (l : List UInt8) : ByteArray := ⟨l.toArray⟩
theorem toBA_data (s : ByteArray) : toBA s.data.toList = s := rfl
theorem words_cut' (s : ByteArray) (hs : ∀ b ∈ s.data.toList, b.toNat < 128) : wordsF s = (wordsL btwB [] s.data.toList).map toBA := by
  rw [← words_cut s hs, List.map_map]
  simp [Function.comp_def, toBA]
def entL (l : List UInt8) : List (List (List UInt8)) := (cutL l).map (wordsL btwB [])
theorem cutL_sub (l : List UInt8) : ∀ q ∈ cutL l, ∀ b ∈ q, b ∈ l := by
  induction l with
  | nil => intro q hq; simp [cutL] at hq; subst hq; simp
  | cons c l ih =>
    intro q hq b hb
    unfold cutL at hq
    split at hq
    · simp only [List.mem_cons] at hq
      rcases hq with rfl | hq
      · simp at hb
      · exact List.mem_cons_of_mem _ (ih q hq b hb)
    · cases hc : cutL l with
      | nil => rw [hc] at hq; simp [consHead] at hq; subst hq; simp at hb; simp [hb]
      | cons h t =>
        rw [hc] at hq ih
        simp only [consHead, List.mem_cons] at hq
        rcases hq with rfl | hq
        · simp only [List.mem_cons] at hb ⊢
          rcases hb with rfl | hb
          · exact .inl rfl
          · exact .inr (ih h (by simp) b hb)
        · exact List.mem_cons_of_mem _ (ih q (by simp [hq]) b hb)
theorem ent_cut (s : ByteArray) (hs : ∀ b ∈ s.data.toList, b.toNat < 128) : entF s = (entL s.data.toList).map (·.map toBA) := by
  unfold entF entL
  rw [← pieces_cut, List.map_map, List.map_map]
  apply List.map_congr_left
  intro q hq
  have h1 : q.data.toList ∈ cutL s.data.toList := by rw [← pieces_cut]; exact List.mem_map.2 ⟨q, hq, rfl⟩
  exact words_cut' q (fun b hb => hs b (cutL_sub _ _ h1 b hb))
theorem pieces_size (s : ByteArray) : ∀ q ∈ piecesF s, q.size ≤ s.size := by
  intro q hq
  have key : ∀ (l : List UInt8), ∀ q ∈ cutL l, q.length ≤ l.length := by
    intro l
    induction l with
    | nil => intro q hq; simp [cutL] at hq; subst hq; simp
    | cons c l ih =>
      intro q hq
      unfold cutL at hq
      split at hq
      · simp only [List.mem_cons] at hq
        rcases hq with rfl | hq
        · simp
        · have := ih q hq; simp; omega
      · cases hc : cutL l with
        | nil => rw [hc] at hq; simp [consHead] at hq; subst hq; simp
        | cons h t =>
          rw [hc] at hq ih
          simp only [consHead, List.mem_cons] at hq
          rcases hq with rfl | hq
          · have := ih h (by simp); simp; omega
          · have := ih q (by simp [hq]); simp; omega
  have h1 : q.data.toList ∈ cutL s.data.toList := by rw [← pieces_cut]; exact List.mem_map.2 ⟨q, hq, rfl⟩
  have := key _ _ h1
  rw [Lib.size_eq, Lib.size_eq]; exact this
theorem pieces_len (s : ByteArray) : (piecesF s).length = (cutL s.data.toList).length := by rw [← pieces_cut, List.length_map]
end Go.Proofs.YthlkpcfpapiigaaDoor
