/- Letters as bytes, and read again, plainly (chapter 3). No program here. -/
import Derived.Test.YtiaippdaogmcmaaDoorMath03
namespace Go.Proofs.YtiaippdaogmcmaaDoor
set_option linter.unusedVariables false
set_option linter.unusedSimpArgs false

/-- A letter; FFFD for what is none. -/
def normF (r : Int) : Nat := if r < 0 ∨ 1114111 < r ∨ (55296 ≤ r ∧ r ≤ 57343) then 65533 else r.toNat
def bytesF (n : Nat) : List Nat :=
  if n < 128 then [n] else if n < 2048 then [192 + n / 64, 128 + n % 64] else if n < 65536 then [224 + n / 4096, 128 + n / 64 % 64, 128 + n % 64] else [240 + n / 262144, 128 + n / 4096 % 64, 128 + n / 64 % 64, 128 + n % 64]
def putF (r : Int) : List Nat := bytesF (normF r)
def LetB (n : Nat) : Prop := n ≤ 1114111 ∧ (n < 55296 ∨ 57343 < n)

theorem norm_let (r : Int) : LetB (normF r) := by
  unfold LetB normF
  split
  · decide
  · omega
theorem norm_id {n : Nat} (h : LetB n) : normF (n : Int) = n := by
  unfold LetB at h
  unfold normF
  rw [if_neg (by omega)]; simp
theorem bytes_len (n : Nat) : 1 ≤ (bytesF n).length ∧ (bytesF n).length ≤ 4 := by
  unfold bytesF
  (repeat' split) <;> simp
theorem bytes_lt {n : Nat} (h : LetB n) : ∀ c ∈ bytesF n, c < 256 := by
  unfold LetB at h
  unfold bytesF
  (repeat' split) <;> simp <;> omega
theorem run_prefix {a b : List Nat} (hne : a ≠ []) (h : runF a = (a.length, true)) : runF (a ++ b) = (a.length, true) := by
  rw [run_append b hne (by simp [opnB, h]), h]
theorem run_bytes {n : Nat} (h : LetB n) : runF (bytesF n) = ((bytesF n).length, true) ∧ valF (bytesF n) = n := by
  obtain ⟨h1, h2⟩ := h
  unfold bytesF
  split
  · rename_i h3
    have : longF n = 1 := by simp [longF, h3]
    simp [runF, valF, this]
  · split
    · rename_i h3 h4
      have e1 : longF (192 + n / 64) = 2 := by unfold longF; rw [if_neg (by omega), if_pos (by omega)]
      have e2 : secB (192 + n / 64) (128 + n % 64) = true := by
        unfold secB
        rw [if_neg (by omega), if_neg (by omega), if_neg (by omega), if_neg (by omega)]
        simp; omega
      refine ⟨by simp [runF, e1, e2], ?_⟩
      show (((192 + n / 64) % 32 * 64 + (128 + n % 64) % 64 : Nat) : Int) = n
      omega
    · split
      · rename_i h3 h4 h5
        have e1 : longF (224 + n / 4096) = 3 := by unfold longF; rw [if_neg (by omega), if_neg (by omega), if_pos (by omega)]
        have e2 : secB (224 + n / 4096) (128 + n / 64 % 64) = true := by
          unfold secB
          split
          · simp; omega
          · split
            · simp; omega
            · rw [if_neg (by omega), if_neg (by omega)]; simp; omega
        have e3 : conB (128 + n % 64) = true := by simp [conB]; omega
        refine ⟨by simp [runF, e1, e2, e3], ?_⟩
        show ((((224 + n / 4096) % 16 * 64 + (128 + n / 64 % 64) % 64) * 64 + (128 + n % 64) % 64 : Nat) : Int) = n
        omega
      · rename_i h3 h4 h5
        have e1 : longF (240 + n / 262144) = 4 := by unfold longF; rw [if_neg (by omega), if_neg (by omega), if_neg (by omega), if_pos (by omega)]
        have e2 : secB (240 + n / 262144) (128 + n / 4096 % 64) = true := by
          unfold secB
          rw [if_neg (by omega), if_neg (by omega)]
          split
          · simp; omega
          · split
            · simp; omega
            · simp; omega
        have e3 : conB (128 + n / 64 % 64) = true := by simp [conB]; omega
        have e4 : conB (128 + n % 64) = true := by simp [conB]; omega
        refine ⟨by simp [runF, e1, e2, e3, e4], ?_⟩
        show (((((240 + n / 262144) % 8 * 64 + (128 + n / 4096 % 64) % 64) * 64 + (128 + n / 64 % 64) % 64) * 64 + (128 + n % 64) % 64 : Nat) : Int) = n
        omega
theorem bytes_ne (n : Nat) : bytesF n ≠ [] := by
  have := (bytes_len n).1
  intro e; rw [e] at this; simp at this
/-- WHAT IS PUT IS READ. -/
theorem feed_bytes {n : Nat} (h : LetB n) (b : List Nat) : feedF (bytesF n ++ b) = ((n : Int) :: (feedF b).1, (feedF b).2) := by
  obtain ⟨h1, h2⟩ := run_bytes h
  have hne := bytes_ne n
  have ho : opnB (bytesF n) = false := by simp [opnB, h1]
  rw [feed_step (by simp [hne]) (opn_append b hne ho), head_append b hne ho, run_append b hne ho, h1]
  have hm : max (bytesF n).length 1 = (bytesF n).length := by have := (bytes_len n).1; omega
  rw [hm, List.drop_left]
  have : headF (bytesF n) = n := by simp [headF, h1, h2]
  rw [this]
theorem feed_put (r : Int) (b : List Nat) : feedF (putF r ++ b) = ((normF r : Int) :: (feedF b).1, (feedF b).2) := feed_bytes (norm_let r) b
/-- A beginning of a letter is one. -/
theorem opn_bytes {n : Nat} (h : LetB n) {k : Nat} (h0 : 0 < k) (h1 : k < (bytesF n).length) : opnB ((bytesF n).take k) = true := by
  obtain ⟨hr, _⟩ := run_bytes h
  unfold bytesF at hr h1 ⊢
  split at hr
  · rename_i h3; rw [if_pos h3] at h1; simp at h1; omega
  · rename_i h3
    rw [if_neg h3] at h1 ⊢
    split at hr
    · rename_i h4
      rw [if_pos h4] at h1 ⊢
      obtain rfl : k = 1 := by simp at h1; omega
      simp only [runF] at hr
      by_cases a0 : longF (192 + n / 64) = 0
      · simp [a0] at hr
      · by_cases a1 : longF (192 + n / 64) = 1
        · simp [a1] at hr
        · simp [opnB, runF, a0, a1]
    · rename_i h4
      rw [if_neg h4] at h1 ⊢
      split at hr
      · rename_i h5
        rw [if_pos h5] at h1 ⊢
        simp only [runF] at hr
        by_cases a0 : longF (224 + n / 4096) = 0
        · simp [a0] at hr
        · by_cases a1 : longF (224 + n / 4096) = 1
          · simp [a1] at hr
          · by_cases s : secB (224 + n / 4096) (128 + n / 64 % 64) = true
            · by_cases a2 : longF (224 + n / 4096) = 2
              · simp [s, a2] at hr
              · obtain rfl | rfl : k = 1 ∨ k = 2 := by simp at h1; omega
                · simp [opnB, runF, a0, a1]
                · simp [opnB, runF, a0, a1, s, a2]
            · simp [a0, a1, s] at hr
      · rename_i h5
        rw [if_neg h5] at h1 ⊢
        simp only [runF] at hr
        by_cases a0 : longF (240 + n / 262144) = 0
        · simp [a0] at hr
        · by_cases a1 : longF (240 + n / 262144) = 1
          · simp [a1] at hr
          · by_cases s : secB (240 + n / 262144) (128 + n / 4096 % 64) = true
            · by_cases a2 : longF (240 + n / 262144) = 2
              · simp [s, a2] at hr
              · by_cases c : conB (128 + n / 64 % 64) = true
                · by_cases a3 : longF (240 + n / 262144) = 3
                  · simp [s, a3, c] at hr
                  · obtain rfl | rfl | rfl : k = 1 ∨ k = 2 ∨ k = 3 := by simp at h1; omega
                    · simp [opnB, runF, a0, a1]
                    · simp [opnB, runF, a0, a1, s, a2]
                    · simp [opnB, runF, a0, a1, s, a2, c, a3]
                · simp [a0, a1, s, a2, c] at hr
            · simp [a0, a1, s] at hr
/-- A byte below 80 behind a beginning ends it, and comes out itself. -/
theorem feed_plain {l : List Nat} (h : l = [] ∨ opnB l = true) {k : Nat} (hk : k < 128) : feedF (l ++ [k]) = (endF l ++ [(k : Int)], []) := by
  have hl1 : longF k = 1 := by simp [longF, hk]
  have hone : feedF [k] = ([(k : Int)], []) := by
    have ho : opnB [k] = false := by simp [opnB, runF, hl1]
    rw [feed_step (by simp) ho]
    simp [headF, runF, hl1, valF, feed_nil]
  rcases h with rfl | h
  · simpa [endF] using hone
  · obtain ⟨hlen, hne⟩ := opn_short h
    obtain ⟨h1, h2, h3⟩ := opn_iff.1 h
    have hsec : ∀ a, secB a k = false := by
      intro a
      unfold secB
      (repeat' split) <;> simp <;> omega
    have hcon : conB k = false := by simp [conB]; omega
    have hr : runF (l ++ [k]) = (l.length, false) := by
      match l, hlen, h1, h2, h3 with
      | [], _, _, h2, _ => simp [runF] at h2
      | [a], _, h1, h2, _ =>
        simp only [runF] at h1 h2
        by_cases a0 : longF a = 0
        · simp [a0] at h2
        · by_cases a1 : longF a = 1
          · simp [a1] at h1
          · simp [runF, a0, a1, hsec]
      | [a, b], _, h1, h2, h3 =>
        simp only [runF] at h1 h2 h3
        by_cases a0 : longF a = 0
        · simp [a0] at h2
        · by_cases a1 : longF a = 1
          · simp [a1] at h1
          · by_cases s : secB a b = true
            · by_cases a2 : longF a = 2
              · simp [s, a2] at h1
              · simp [runF, a0, a1, s, a2, hcon]
            · simp [a0, a1, s] at h3
      | [a, b, c], _, h1, h2, h3 =>
        simp only [runF] at h1 h2 h3
        by_cases a0 : longF a = 0
        · simp [a0] at h2
        · by_cases a1 : longF a = 1
          · simp [a1] at h1
          · by_cases s : secB a b = true
            · by_cases a2 : longF a = 2
              · simp [s, a2] at h1
              · by_cases cc : conB c = true
                · by_cases a3 : longF a = 3
                  · simp [s, a3, cc] at h1
                  · simp [runF, a0, a1, s, a2, cc, a3, hcon]
                · simp [a0, a1, s, a2, cc] at h3
            · simp [a0, a1, s] at h3
    have ho : opnB (l ++ [k]) = false := by
      simp [opnB, hr]
    rw [feed_step (by simp) ho]
    have hm : max l.length 1 = l.length := by omega
    have hh : headF (l ++ [k]) = 65533 := by simp [headF, hr]
    rw [hr, hh]
    dsimp only
    rw [hm, List.drop_left, hone]
    simp [endF, hne]
/-- Letters behind bytes that are none come out, whatever these are. -/
theorem all_plain (b : List Nat) {k : Nat} (hk : k < 128) : allF (b ++ [k]) = allF b ++ [(k : Int)] := by
  unfold allF
  rw [feed_cut, feed_plain (feed_left b) hk]
  simp [endF]
theorem val_let {l : List Nat} (h : (runF l).2 = true) : ∃ n, LetB n ∧ valF (l.take (runF l).1) = (n : Int) := by
  unfold LetB
  match l, h with
  | [], h => simp [runF] at h
  | [a], h =>
    simp only [runF] at h ⊢
    by_cases a0 : longF a = 0
    · simp [a0] at h
    · by_cases a1 : longF a = 1
      · have : a < 128 := by unfold longF at a1; (repeat' split at a1) <;> omega
        exact ⟨a, by omega, by simp [a1, valF]⟩
      · simp [a0, a1] at h
  | a :: b :: t, h =>
    by_cases a0 : longF a = 0
    · exfalso; revert h
      rcases t with _ | ⟨c, _ | ⟨d, t⟩⟩ <;> simp [runF, a0]
    · by_cases a1 : longF a = 1
      · have h1 : a < 128 := by unfold longF at a1; (repeat' split at a1) <;> omega
        have hr : runF (a :: b :: t) = (1, true) := by rcases t with _ | ⟨c, _ | ⟨d, t⟩⟩ <;> simp [runF, a1]
        exact ⟨a, by omega, by simp [hr, valF]⟩
      · by_cases s : secB a b = true
        · by_cases a2 : longF a = 2
          · have hr : runF (a :: b :: t) = (2, true) := by rcases t with _ | ⟨c, _ | ⟨d, t⟩⟩ <;> simp [runF, s, a2]
            have h1 : 194 ≤ a ∧ a ≤ 223 := by unfold longF at a2; (repeat' split at a2) <;> omega
            exact ⟨a % 32 * 64 + b % 64, by omega, by simp [hr, valF]⟩
          · rcases t with _ | ⟨c, t⟩
            · simp [runF, a0, a1, s, a2] at h
            · by_cases cc : conB c = true
              · by_cases a3 : longF a = 3
                · have hr : runF (a :: b :: c :: t) = (3, true) := by rcases t with _ | ⟨d, t⟩ <;> simp [runF, s, cc, a3]
                  have h1 : 224 ≤ a ∧ a ≤ 239 := by unfold longF at a3; (repeat' split at a3) <;> omega
                  have h2 : a ≠ 237 ∨ 128 ≤ b ∧ b ≤ 159 := by
                    by_cases e : a = 237
                    · subst e; right; simpa [secB] using s
                    · exact .inl e
                  exact ⟨(a % 16 * 64 + b % 64) * 64 + c % 64, by omega, by simp [hr, valF]⟩
                · rcases t with _ | ⟨d, t⟩
                  · simp [runF, a0, a1, s, a2, cc, a3] at h
                  · by_cases dd : conB d = true
                    · have hr : runF (a :: b :: c :: d :: t) = (4, true) := by simp [runF, a0, a1, s, a2, cc, a3, dd]
                      have h1 : 240 ≤ a ∧ a ≤ 244 := by
                        unfold longF at a0 a1 a2 a3; (repeat' split at a0) <;> simp_all <;> omega
                      have h2 : (a = 240 → 144 ≤ b ∧ b ≤ 191) ∧ (a = 244 → 128 ≤ b ∧ b ≤ 143) ∧ 128 ≤ b ∧ b ≤ 191 := by
                        unfold secB at s
                        (repeat' split at s) <;> simp at s <;> omega
                      refine ⟨((a % 8 * 64 + b % 64) * 64 + c % 64) * 64 + d % 64, ?_, by simp [hr, valF]⟩
                      omega
                    · simp [runF, a0, a1, s, a2, cc, a3, dd] at h
              · exfalso; revert h
                rcases t with _ | ⟨d, t⟩ <;> simp [runF, a0, a1, s, a2, cc]
        · exfalso; revert h
          rcases t with _ | ⟨c, _ | ⟨d, t⟩⟩ <;> simp [runF, a0, a1, s]
theorem head_let (l : List Nat) : ∃ n, LetB n ∧ headF l = (n : Int) := by
  unfold headF
  split
  · rename_i h; exact val_let h
  · exact ⟨65533, by unfold LetB; decide, rfl⟩
/-- All letters are letters. -/
theorem feed_let (l : List Nat) : ∀ x ∈ (feedF l).1, ∃ n, LetB n ∧ x = (n : Int) := by
  have key : ∀ (n : Nat) (l : List Nat), l.length ≤ n → ∀ x ∈ (feedF l).1, ∃ n, LetB n ∧ x = (n : Int) := by
    intro n
    induction n with
    | zero =>
      intro l h
      have : l = [] := List.eq_nil_of_length_eq_zero (by omega)
      subst this; simp [feed_nil]
    | succ n ih =>
      intro l h
      by_cases hl : l = []
      · subst hl; simp [feed_nil]
      · cases ho : opnB l
        · have hm := run_cons_ne hl
          rw [feed_step hl ho]
          intro x hx
          rw [List.mem_cons] at hx
          rcases hx with rfl | hx
          · exact head_let l
          · exact ih _ (by rw [List.length_drop]; omega) x hx
        · rw [feed_opn ho]; simp
  exact key l.length l (Nat.le_refl _)
theorem all_let (l : List Nat) : ∀ x ∈ allF l, ∃ n, LetB n ∧ x = (n : Int) := by
  intro x hx
  unfold allF endF at hx
  rw [List.mem_append] at hx
  rcases hx with hx | hx
  · exact feed_let l x hx
  · split at hx
    · simp at hx
    · simp at hx; subst hx; exact ⟨65533, by unfold LetB; decide, rfl⟩
/-- Bytes below 80 are themselves. -/
theorem feed_ascii (l : List Nat) (h : ∀ c ∈ l, c < 128) : feedF l = (l.map (fun (c : Nat) => (c : Int)), []) := by
  induction l with
  | nil => rfl
  | cons c l ih =>
    have hc := h c (by simp)
    have hb : bytesF c = [c] := by simp [bytesF, hc]
    have := feed_bytes (n := c) (by unfold LetB; omega) l
    rw [hb] at this
    have e : c :: l = [c] ++ l := rfl
    rw [e, this, ih (fun x hx => h x (by simp [hx]))]
    simp
/-- Many letters put one behind the other are read one by one. -/
theorem feed_puts (l : List Int) : feedF (l.flatMap putF) = (l.map (fun r => ((normF r : Nat) : Int)), []) := by
  induction l with
  | nil => rfl
  | cons r l ih => rw [List.flatMap_cons, feed_put, ih]; rfl
end Go.Proofs.YtiaippdaogmcmaaDoor
