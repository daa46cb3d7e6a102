/- A table as bytes, plainly. -/
import Derived.Test.YtgmcpmhpafcihaaMath01d
namespace Go.Proofs.Ytgmcpmhpafcihaa
set_option linter.unusedVariables false
set_option linter.unusedSimpArgs false

/-- A number at the beginning of bytes, from its byte number k on, n being told so far: the number, how many bytes, the error. -/
def numGo : Nat → Nat → List Nat → Nat × Nat × Nat
  | _, _, [] => (0, 0, 5)
  | k, n, c :: t => if 128 ≤ c ∧ k + 1 < 4 then numGo (k + 1) (n + c % 128 * 128 ^ k) t else if 128 ≤ c ∨ (c = 0 ∧ 0 < k) then (0, 0, 2) else (n + c % 128 * 128 ^ k, k + 1, 0)
/-- A row behind one that ends with last: the row, how many bytes, the error. -/
def rowGo (last : Int) (bs : List Nat) : R3 × Nat × Nat :=
  if (numGo 0 0 bs).2.2 ≠ 0 then (⟨0, 0, 0⟩, 0, (numGo 0 0 bs).2.2) else
  let b1 := bs.drop (numGo 0 0 bs).2.1
  if (numGo 0 0 b1).2.2 ≠ 0 then (⟨0, 0, 0⟩, 0, (numGo 0 0 b1).2.2) else
  let b2 := b1.drop (numGo 0 0 b1).2.1
  if (numGo 0 0 b2).2.2 ≠ 0 then (⟨0, 0, 0⟩, 0, (numGo 0 0 b2).2.2) else
  (⟨last + (numGo 0 0 bs).1, last + (numGo 0 0 bs).1 + (numGo 0 0 b1).1, (numGo 0 0 b2).1⟩, (numGo 0 0 bs).2.1 + (numGo 0 0 b1).2.1 + (numGo 0 0 b2).2.1, 0)
def unpGo : Nat → Int → List Nat → List R3 × Nat
  | 0, _, _ => ([], 0)
  | f + 1, last, bs =>
    match bs with
    | [] => ([], 0)
    | _ :: _ =>
      if (rowGo last bs).2.2 ≠ 0 then ([], (rowGo last bs).2.2) else
      if (unpGo f (rowGo last bs).1.hi (bs.drop (rowGo last bs).2.1)).2 ≠ 0 then ([], (unpGo f (rowGo last bs).1.hi (bs.drop (rowGo last bs).2.1)).2) else
      ((rowGo last bs).1 :: (unpGo f (rowGo last bs).1.hi (bs.drop (rowGo last bs).2.1)).1, 0)
def num (n : Nat) : List Nat :=
  if n < 128 then [n] else if n < 16384 then [n % 128 + 128, n / 128] else [n % 128 + 128, n / 128 % 128 + 128, n / 16384]
def packRow (last : Int) (x : R3) : List Nat := num (x.lo - last).toNat ++ (num (x.hi - x.lo).toNat ++ num x.v.toNat)
def packF : Int → List R3 → List Nat
  | _, [] => []
  | last, x :: l => packRow last x ++ packF x.hi l

theorem numGo_bd (bs : List Nat) : ∀ k n, k < 4 → n < 128 ^ k → (numGo k n bs).1 < 128 ^ 4 ∧ (numGo k n bs).2.1 ≤ k + bs.length ∧ ((numGo k n bs).2.2 = 0 → k < (numGo k n bs).2.1) := by
  induction bs with
  | nil => intro k n _ _; simp [numGo]
  | cons c t ih =>
    intro k n hk hn
    have hp : (128 : Nat) ^ (k + 1) = 128 ^ k * 128 := Nat.pow_succ 128 k
    have hc : c % 128 < 128 := Nat.mod_lt _ (by omega)
    have hm : c % 128 * 128 ^ k ≤ 127 * 128 ^ k := Nat.mul_le_mul_right _ (by omega)
    have hlt : n + c % 128 * 128 ^ k < 128 ^ (k + 1) := by omega
    unfold numGo
    split
    · rename_i h
      have := ih (k + 1) _ h.2 hlt
      simp only [List.length_cons]
      omega
    · split
      · simp
      · have : (128 : Nat) ^ (k + 1) ≤ 128 ^ 4 := Nat.pow_le_pow_right (by omega) (by omega)
        simp only [List.length_cons]
        omega
theorem numGo_size {bs : List Nat} (h : (numGo 0 0 bs).2.2 = 0) : 0 < (numGo 0 0 bs).2.1 ∧ (numGo 0 0 bs).2.1 ≤ bs.length := by
  have := numGo_bd bs 0 0 (by omega) (by omega)
  omega
/-- A number told is read, whatever stands behind it. -/
theorem numGo_num {n : Nat} (h : n < 2097152) (t : List Nat) : numGo 0 0 (num n ++ t) = (n, (num n).length, 0) := by
  unfold num
  split
  · simp only [List.cons_append, List.nil_append, numGo]
    rw [if_neg (by omega), if_neg (by omega)]
    simp; omega
  · split
    · simp only [List.cons_append, List.nil_append, numGo]
      rw [if_pos (by omega), if_neg (by omega), if_neg (by omega)]
      simp; omega
    · simp only [List.cons_append, List.nil_append, numGo]
      rw [if_pos (by omega), if_pos (by omega), if_neg (by omega), if_neg (by omega)]
      simp; omega
theorem num_len (n : Nat) : 1 ≤ (num n).length ∧ (num n).length ≤ 3 := by unfold num; split <;> (try split) <;> simp
theorem num_step {n : Nat} (h : 128 ≤ n) (h2 : n < 2097152) : num n = (n % 128 + 128) :: num (n / 128) := by
  unfold num
  rw [if_neg (by omega)]
  by_cases h3 : n < 16384
  · rw [if_pos h3, if_pos (by omega)]
  · rw [if_neg h3, if_neg (by omega), if_pos (by omega), Nat.div_div_eq_div_mul]
theorem num_small {n : Nat} (h : n < 128) : num n = [n] := by unfold num; rw [if_pos h]
theorem num_byte {n : Nat} (h : n < 2097152) : ∀ c ∈ num n, c < 256 := by
  unfold num
  intro c hc
  split at hc
  · simp at hc; omega
  · split at hc
    · simp at hc; omega
    · simp at hc; omega
theorem rowGo_pack {last : Int} {x : R3} (h0 : 0 ≤ last) (h1 : last ≤ x.lo) (h2 : x.lo ≤ x.hi) (h3 : x.hi ≤ 1114111) (h4 : 1 ≤ x.v) (h5 : x.v ≤ 255) (t : List Nat) : rowGo last (packRow last x ++ t) = (x, (packRow last x).length, 0) := by
  unfold rowGo packRow
  simp only [List.append_assoc]
  rw [numGo_num (by omega)]
  simp only [ne_eq, not_true_eq_false, if_false, List.drop_left]
  rw [numGo_num (by omega)]
  simp only [ne_eq, not_true_eq_false, if_false, List.drop_left]
  rw [numGo_num (by omega)]
  simp only [ne_eq, not_true_eq_false, if_false, List.length_append]
  refine Prod.ext ?_ (Prod.ext (by simp only []; omega) rfl)
  cases x
  simp only [] at *
  congr <;> omega
theorem rowGo_size {last : Int} {bs : List Nat} (h : (rowGo last bs).2.2 = 0) : 0 < (rowGo last bs).2.1 ∧ (rowGo last bs).2.1 ≤ bs.length := by
  unfold rowGo at h ⊢
  by_cases e0 : (numGo 0 0 bs).2.2 = 0
  · simp only [e0, ne_eq, not_true_eq_false, if_false] at h ⊢
    have s0 := numGo_size e0
    by_cases e1 : (numGo 0 0 (bs.drop (numGo 0 0 bs).2.1)).2.2 = 0
    · simp only [e1, ne_eq, not_true_eq_false, if_false] at h ⊢
      have s1 := numGo_size e1
      by_cases e2 : (numGo 0 0 ((bs.drop (numGo 0 0 bs).2.1).drop (numGo 0 0 (bs.drop (numGo 0 0 bs).2.1)).2.1)).2.2 = 0
      · simp only [e2, ne_eq, not_true_eq_false, if_false] at h ⊢
        have s2 := numGo_size e2
        simp only [List.length_drop] at s1 s2
        omega
      · simp only [e2, ne_eq, not_false_eq_true, if_true] at h
    · simp only [e1, ne_eq, not_false_eq_true, if_true] at h
  · simp only [e0, ne_eq, not_false_eq_true, if_true] at h
theorem packRow_len (last : Int) (x : R3) : 3 ≤ (packRow last x).length ∧ (packRow last x).length ≤ 9 := by
  have h1 := num_len (x.lo - last).toNat
  have h2 := num_len (x.hi - x.lo).toNat
  have h3 := num_len x.v.toNat
  unfold packRow
  simp only [List.length_append]
  omega
theorem packF_len (last : Int) (l : List R3) : (packF last l).length ≤ l.length * 9 := by
  induction l generalizing last with
  | nil => simp [packF]
  | cons x l ih =>
    have h1 := (packRow_len last x).2
    have h2 := ih x.hi
    simp only [packF, List.length_append, List.length_cons]
    omega
theorem packF_snoc (last : Int) (l : List R3) (x : R3) : packF last (l ++ [x]) = packF last l ++ packRow (lastHi last l) x := by
  induction l generalizing last with
  | nil => simp [packF, lastHi]
  | cons y l ih => simp only [List.cons_append, packF, ih, lastHi_cons, List.append_assoc]
/-- What is packed is unpacked. -/
theorem unp_pack {l : List R3} : ∀ (last : Int) (f : Nat), 0 ≤ last → riseF (last - 1) l = true → (packF last l).length ≤ f → unpGo f last (packF last l) = (l, 0) := by
  induction l with
  | nil =>
    intro last f _ _ _
    cases f <;> rfl
  | cons x l ih =>
    intro last f h0 hr hf
    simp only [riseF, Bool.and_eq_true, okb_iff] at hr
    obtain ⟨⟨h1, h2, h3, h4, h5⟩, hr⟩ := hr
    have hg := rowGo_pack h0 (by omega) h2 h3 h4 h5 (packF x.hi l)
    have hl := packRow_len last x
    have hne : packF last (x :: l) = packRow last x ++ packF x.hi l := rfl
    rw [hne] at hf ⊢
    rw [List.length_append] at hf
    cases f with
    | zero => omega
    | succ f =>
      have hi := ih x.hi f (by omega) (rise_le hr (by omega)) (by omega)
      cases hq : packRow last x ++ packF x.hi l with
      | nil =>
        have := congrArg List.length hq
        simp only [List.length_append, List.length_nil] at this
        omega
      | cons c t =>
        rw [hq] at hg
        simp only [unpGo, hg]
        rw [← hq, List.drop_left, hi]
        simp

/-- A number that is read, and is not too great, is told as it was. -/
theorem num_numGo {bs : List Nat} (hb : ∀ c ∈ bs, c < 256) (h : (numGo 0 0 bs).2.2 = 0) (hn : (numGo 0 0 bs).1 < 2097152) : num (numGo 0 0 bs).1 = bs.take (numGo 0 0 bs).2.1 := by
  cases bs with
  | nil => simp [numGo] at h
  | cons c0 t =>
    have b0 := hb c0 (by simp)
    by_cases h0 : 128 ≤ c0
    · cases t with
      | nil => simp only [numGo, h0, true_and] at h; simp at h
      | cons c1 t =>
        have b1 := hb c1 (by simp)
        by_cases h1 : 128 ≤ c1
        · cases t with
          | nil => simp only [numGo, h0, h1, true_and] at h; simp at h
          | cons c2 t =>
            have b2 := hb c2 (by simp)
            by_cases h2 : 128 ≤ c2
            · cases t with
              | nil => simp only [numGo, h0, h1, h2, true_and] at h; simp at h
              | cons c3 t =>
                have b3 := hb c3 (by simp)
                exfalso
                simp only [numGo] at h hn
                rw [if_pos (by omega), if_pos (by omega), if_pos (by omega), if_neg (by omega)] at h hn
                by_cases h3 : 128 ≤ c3 ∨ (c3 = 0 ∧ 0 < 0 + 1 + 1 + 1)
                · rw [if_pos h3] at h; simp at h
                · rw [if_neg h3] at hn
                  simp only [] at hn
                  omega
            · simp only [numGo] at h hn ⊢
              rw [if_pos (by omega), if_pos (by omega), if_neg (by omega)] at h hn ⊢
              by_cases h3 : 128 ≤ c2 ∨ (c2 = 0 ∧ 0 < 0 + 1 + 1)
              · rw [if_pos h3] at h; simp at h
              · rw [if_neg h3] at hn ⊢
                simp only [] at hn ⊢
                unfold num
                rw [if_neg (by omega), if_neg (by omega)]
                simp
                omega
        · simp only [numGo] at h hn ⊢
          rw [if_pos (by omega), if_neg (by omega)] at h hn ⊢
          by_cases h3 : 128 ≤ c1 ∨ (c1 = 0 ∧ 0 < 0 + 1)
          · rw [if_pos h3] at h; simp at h
          · rw [if_neg h3] at hn ⊢
            simp only [] at hn ⊢
            unfold num
            rw [if_neg (by omega), if_pos (by omega)]
            simp
            omega
    · simp only [numGo] at h hn ⊢
      rw [if_neg (by omega), if_neg (by omega)] at h hn ⊢
      simp only [] at hn ⊢
      unfold num
      rw [if_pos (by omega)]
      simp
      omega
theorem drop_bytes {bs : List Nat} (hb : ∀ c ∈ bs, c < 256) (n : Nat) : ∀ c ∈ bs.drop n, c < 256 := fun c hc => hb c (List.mem_of_mem_drop hc)
/-- A row that is read, and may be, is told as it was. -/
theorem pack_rowGo {last : Int} {bs : List Nat} (hb : ∀ c ∈ bs, c < 256) (h : (rowGo last bs).2.2 = 0) (h0 : 0 ≤ last) (h2 : (rowGo last bs).1.lo ≤ (rowGo last bs).1.hi) (h3 : (rowGo last bs).1.hi ≤ 1114111) (h5 : (rowGo last bs).1.v ≤ 255) :
    packRow last (rowGo last bs).1 = bs.take (rowGo last bs).2.1 := by
  unfold rowGo at *
  by_cases e0 : (numGo 0 0 bs).2.2 = 0
  · simp only [e0, ne_eq, not_true_eq_false, if_false] at h h2 h3 h5 ⊢
    by_cases e1 : (numGo 0 0 (bs.drop (numGo 0 0 bs).2.1)).2.2 = 0
    · simp only [e1, ne_eq, not_true_eq_false, if_false] at h h2 h3 h5 ⊢
      by_cases e2 : (numGo 0 0 ((bs.drop (numGo 0 0 bs).2.1).drop (numGo 0 0 (bs.drop (numGo 0 0 bs).2.1)).2.1)).2.2 = 0
      · simp only [e2, ne_eq, not_true_eq_false, if_false] at h h2 h3 h5 ⊢
        have q0 := num_numGo hb e0 (by omega)
        have q1 := num_numGo (drop_bytes hb _) e1 (by omega)
        have q2 := num_numGo (drop_bytes (drop_bytes hb _) _) e2 (by omega)
        unfold packRow
        simp only []
        rw [show (last + ((numGo 0 0 bs).1 : Int) - last).toNat = (numGo 0 0 bs).1 by omega, show (last + ((numGo 0 0 bs).1 : Int) + ((numGo 0 0 (bs.drop (numGo 0 0 bs).2.1)).1 : Int) - (last + ((numGo 0 0 bs).1 : Int))).toNat = (numGo 0 0 (bs.drop (numGo 0 0 bs).2.1)).1 by omega, Int.toNat_natCast, q0, q1, q2]
        rw [List.take_add, List.take_add, List.append_assoc, List.drop_drop]
      · simp only [e2, ne_eq, not_false_eq_true, if_true] at h
    · simp only [e1, ne_eq, not_false_eq_true, if_true] at h
  · simp only [e0, ne_eq, not_false_eq_true, if_true] at h
theorem rise_hi {last : Int} {x : R3} {l : List R3} (h : riseF last (x :: l) = true) : last < x.lo ∧ x.lo ≤ x.hi ∧ x.hi ≤ 1114111 ∧ 1 ≤ x.v ∧ x.v ≤ 255 ∧ riseF x.hi l = true := by
  simp only [riseF, Bool.and_eq_true, okb_iff] at h
  exact ⟨h.1.1, h.1.2.1, h.1.2.2.1, h.1.2.2.2.1, h.1.2.2.2.2, h.2⟩
/-- What is unpacked, and may be, is packed as it was. -/
theorem pack_unp : ∀ (f : Nat) (last : Int) (bs : List Nat), bs.length ≤ f → (∀ c ∈ bs, c < 256) → 0 ≤ last → (unpGo f last bs).2 = 0 → riseF (last - 1) (unpGo f last bs).1 = true → packF last (unpGo f last bs).1 = bs
  | 0, last, bs, hf, _, _, _, _ => by
    have : bs = [] := List.eq_nil_of_length_eq_zero (by omega)
    subst this; rfl
  | f + 1, last, [], hf, _, _, _, _ => rfl
  | f + 1, last, c :: t, hf, hb, h0, h, hr => by
    simp only [unpGo] at h hr ⊢
    by_cases e : (rowGo last (c :: t)).2.2 = 0
    · simp only [e, ne_eq, not_true_eq_false, if_false] at h hr ⊢
      by_cases e2 : (unpGo f (rowGo last (c :: t)).1.hi ((c :: t).drop (rowGo last (c :: t)).2.1)).2 = 0
      · simp only [e2, ne_eq, not_true_eq_false, if_false] at h hr ⊢
        obtain ⟨r1, r2, r3, r4, r5, r6⟩ := rise_hi hr
        have hs := rowGo_size e
        have hp := pack_rowGo hb e h0 r2 r3 r5
        have ih := pack_unp f (rowGo last (c :: t)).1.hi ((c :: t).drop (rowGo last (c :: t)).2.1) (by rw [List.length_drop]; omega) (drop_bytes hb _) (by omega) e2 (rise_le r6 (by omega))
        show packRow last (rowGo last (c :: t)).1 ++ packF (rowGo last (c :: t)).1.hi (unpGo f (rowGo last (c :: t)).1.hi ((c :: t).drop (rowGo last (c :: t)).2.1)).1 = c :: t
        rw [hp, ih, List.take_append_drop]
      · simp only [e2, ne_eq, not_false_eq_true, if_true] at h
    · simp only [e, ne_eq, not_false_eq_true, if_true] at h

theorem num_cut {n : Nat} (h : n < 16384) : (numGo 0 0 (num n).dropLast).2.2 = 5 := by
  unfold num
  split
  · rfl
  · simp only [List.dropLast_cons_cons, List.dropLast_singleton, numGo]
    rw [if_pos (by omega)]
theorem row_cut {last : Int} {x : R3} (h0 : 0 ≤ last) (h1 : last ≤ x.lo) (h2 : x.lo ≤ x.hi) (h3 : x.hi ≤ 1114111) (h4 : 1 ≤ x.v) (h5 : x.v ≤ 255) : (rowGo last (packRow last x).dropLast).2.2 = 5 := by
  have e : (packRow last x).dropLast = num (x.lo - last).toNat ++ (num (x.hi - x.lo).toNat ++ (num x.v.toNat).dropLast) := by
    unfold packRow
    have n3 := (num_len x.v.toNat).1
    have hne : num x.v.toNat ≠ [] := fun e => by rw [e] at n3; simp at n3
    rw [List.dropLast_append_of_ne_nil (by simp [hne]), List.dropLast_append_of_ne_nil hne]
  rw [e]
  unfold rowGo
  rw [numGo_num (by omega)]
  simp only [ne_eq, not_true_eq_false, if_false, List.drop_left]
  rw [numGo_num (by omega)]
  simp only [ne_eq, not_true_eq_false, if_false, List.drop_left]
  rw [num_cut (by omega)]
  simp
/-- With a byte less it is none. -/
theorem unp_cut {l : List R3} : ∀ (last : Int) (f : Nat), l ≠ [] → 0 ≤ last → riseF (last - 1) l = true → (packF last l).dropLast.length ≤ f → (unpGo f last (packF last l).dropLast).2 ≠ 0 := by
  induction l with
  | nil => intro last f h; exact absurd rfl h
  | cons x l ih =>
    intro last f _ h0 hr hf
    obtain ⟨h1, h2, h3, h4, h5, hr⟩ := rise_hi hr
    have hl := packRow_len last x
    have hne : packF last (x :: l) = packRow last x ++ packF x.hi l := rfl
    rw [hne] at hf ⊢
    by_cases hl0 : l = []
    · subst hl0
      have e : packRow last x ++ packF x.hi [] = packRow last x := by simp [packF]
      rw [e] at hf ⊢
      have hc := row_cut h0 (by omega) h2 h3 h4 h5
      rw [List.length_dropLast] at hf
      cases hq : (packRow last x).dropLast with
      | nil => have := congrArg List.length hq; rw [List.length_dropLast] at this; simp at this; omega
      | cons c t =>
        rw [hq] at hc
        cases f with
        | zero => omega
        | succ f => simp [unpGo, hc]
    · have hpl : packF x.hi l ≠ [] := by
        obtain ⟨y, t, rfl⟩ := List.exists_cons_of_ne_nil hl0
        intro e
        have := congrArg List.length e
        have := packRow_len x.hi y
        simp only [packF, List.length_append, List.length_nil] at *
        omega
      rw [List.dropLast_append_of_ne_nil hpl] at hf ⊢
      rw [List.length_append] at hf
      have hg := rowGo_pack h0 (by omega) h2 h3 h4 h5 (packF x.hi l).dropLast
      cases f with
      | zero => omega
      | succ f =>
        have hi := ih x.hi f hl0 (by omega) (rise_le hr (by omega)) (by omega)
        cases hq : packRow last x ++ (packF x.hi l).dropLast with
        | nil => have := congrArg List.length hq; simp only [List.length_append, List.length_nil] at this; omega
        | cons c t =>
          rw [hq] at hg
          simp only [unpGo, hg]
          rw [← hq, List.drop_left]
          simp [hi]
theorem unp_err {f : Nat} {last : Int} {bs : List Nat} (h : (unpGo f last bs).2 ≠ 0) : (unpGo f last bs).1 = [] := by
  cases f with
  | zero => rfl
  | succ f =>
    cases bs with
    | nil => rfl
    | cons c t =>
      simp only [unpGo] at h ⊢
      split
      · rfl
      · rename_i h1
        rw [if_neg h1] at h
        split
        · rfl
        · rename_i h2
          rw [if_neg h2] at h
          exact absurd rfl h
theorem unp_len : ∀ (f : Nat) (last : Int) (bs : List Nat), (unpGo f last bs).1.length * 3 ≤ bs.length + 2 * bs.length
  | 0, last, bs => by simp [unpGo]
  | f + 1, last, [] => by simp [unpGo]
  | f + 1, last, c :: t => by
    simp only [unpGo]
    split
    · simp
    · rename_i h1
      split
      · simp
      · have hs := rowGo_size (by simpa using h1)
        have := unp_len f (rowGo last (c :: t)).1.hi ((c :: t).drop (rowGo last (c :: t)).2.1)
        rw [List.length_drop] at this
        simp only [List.length_cons] at *
        omega
theorem packF_byte {l : List R3} : ∀ (last : Int), 0 ≤ last → riseF (last - 1) l = true → ∀ c ∈ packF last l, c < 256 := by
  induction l with
  | nil => intro last _ _ c hc; simp [packF] at hc
  | cons x l ih =>
    intro last h0 hr c hc
    obtain ⟨h1, h2, h3, h4, h5, hr⟩ := rise_hi hr
    simp only [packF, packRow, List.mem_append] at hc
    rcases hc with (hc | hc | hc) | hc
    · exact num_byte (by omega) c hc
    · exact num_byte (by omega) c hc
    · exact num_byte (by omega) c hc
    · exact ih x.hi (by omega) (rise_le hr (by omega)) c hc
end Go.Proofs.Ytgmcpmhpafcihaa
