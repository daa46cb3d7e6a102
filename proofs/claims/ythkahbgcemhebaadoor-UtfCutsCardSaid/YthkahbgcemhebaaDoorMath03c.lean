/- What the library's decoder tells of bytes, in the words of chapter 3. No program here. -/
import Derived.Test.YthkahbgcemhebaaDoorMath03b
import Derived.Lib.DecodeN
namespace Go.Proofs.YthkahbgcemhebaaDoor
set_option linter.unusedVariables false
set_option linter.unusedSimpArgs false

/-- None, or a beginning. -/
def shortB (l : List Nat) : Bool := decide (l = []) || opnB l
def fullN (n b0 b1 b2 : Nat) : Bool :=
  if n = 0 then false else if Lib.firstT b0 % 8 ≤ n then true else if 1 < n ∧ (b1 < Lib.accLo (Lib.firstT b0 / 16) ∨ Lib.accHi (Lib.firstT b0 / 16) < b1) then true
  else if 2 < n ∧ (b2 < 128 ∨ 191 < b2) then true else false

theorem first_long (a : Nat) : (Lib.firstT a % 8 = longF a ∧ 2 ≤ longF a) ∨ (Lib.firstT a % 8 ≤ 1 ∧ longF a ≤ 1) := by
  unfold Lib.firstT longF
  repeat' split
  all_goals first | (exfalso; omega) | simp
theorem first_sec {a : Nat} (h : 2 ≤ longF a) (b : Nat) : secB a b = decide (Lib.accLo (Lib.firstT a / 16) ≤ b ∧ b ≤ Lib.accHi (Lib.firstT a / 16)) := by
  have h0 : 194 ≤ a ∧ a ≤ 244 := by unfold longF at h; (repeat' split at h) <;> omega
  by_cases c1 : a = 224
  · subst c1; simp [secB, Lib.firstT, Lib.accLo, Lib.accHi]
  by_cases c2 : a = 237
  · subst c2; simp [secB, Lib.firstT, Lib.accLo, Lib.accHi]
  by_cases c3 : a = 240
  · subst c3; simp [secB, Lib.firstT, Lib.accLo, Lib.accHi]
  by_cases c4 : a = 244
  · subst c4; simp [secB, Lib.firstT, Lib.accLo, Lib.accHi]
  have hq : Lib.firstT a / 16 = 0 := by
    unfold Lib.firstT
    repeat' split
    all_goals first | (exfalso; omega) | rfl
  rw [hq]
  simp [secB, c1, c2, c3, c4, Lib.accLo, Lib.accHi]
theorem full_short (l : List Nat) : fullN l.length (l.getD 0 0) (l.getD 1 0) (l.getD 2 0) = !shortB l := by
  match l with
  | [] => simp [fullN, shortB]
  | [a] =>
    rcases first_long a with ⟨h1, h2⟩ | ⟨h1, h2⟩
    · have h3 : ¬ longF a = 0 := by omega
      have h4 : ¬ longF a = 1 := by omega
      have h5 : ¬ longF a ≤ 1 := by omega
      simp [fullN, shortB, opnB, runF, h1, h3, h4, h5]
    · have : longF a = 0 ∨ longF a = 1 := by omega
      rcases this with h | h <;> simp [fullN, shortB, opnB, runF, h1, h]
  | [a, b] =>
    rcases first_long a with ⟨h1, h2⟩ | ⟨h1, h2⟩
    · have h3 : ¬ longF a = 0 := by omega
      have h4 : ¬ longF a = 1 := by omega
      have hs := first_sec h2 b
      by_cases h5 : longF a = 2
      · by_cases s : secB a b = true <;> simp [fullN, shortB, opnB, runF, h1, h3, h4, h5, s]
      · have h6 : ¬ longF a ≤ 2 := by omega
        cases s : secB a b
        · rw [s] at hs
          have : b < Lib.accLo (Lib.firstT a / 16) ∨ Lib.accHi (Lib.firstT a / 16) < b := by
            have := of_decide_eq_false hs.symm; omega
          simp [fullN, shortB, opnB, runF, h1, h3, h4, h5, h6, s, this]
        · rw [s] at hs
          have : ¬ (b < Lib.accLo (Lib.firstT a / 16) ∨ Lib.accHi (Lib.firstT a / 16) < b) := by
            have := of_decide_eq_true hs.symm; omega
          simp [fullN, shortB, opnB, runF, h1, h3, h4, h5, h6, s, this]
    · have : longF a = 0 ∨ longF a = 1 := by omega
      have h0 : Lib.firstT a % 8 ≤ 2 := by omega
      rcases this with h | h <;> simp [fullN, shortB, opnB, runF, h0, h]
  | [a, b, c] =>
    rcases first_long a with ⟨h1, h2⟩ | ⟨h1, h2⟩
    · have h3 : ¬ longF a = 0 := by omega
      have h4 : ¬ longF a = 1 := by omega
      have hs := first_sec h2 b
      by_cases h5 : longF a ≤ 3
      · have h7 : longF a = 2 ∨ longF a = 3 := by omega
        rcases h7 with h7 | h7 <;> (cases s : secB a b) <;> (cases cc : conB c) <;> simp [fullN, shortB, opnB, runF, h1, h7, s, cc]
      · have h7 : longF a = 4 := by have := longF_le a; omega
        have hc : conB c = decide (128 ≤ c ∧ c ≤ 191) := rfl
        cases s : secB a b
        · rw [s] at hs
          have : b < Lib.accLo (Lib.firstT a / 16) ∨ Lib.accHi (Lib.firstT a / 16) < b := by
            have := of_decide_eq_false hs.symm; omega
          simp [fullN, shortB, opnB, runF, h1, h7, s, this]
        · rw [s] at hs
          have : ¬ (b < Lib.accLo (Lib.firstT a / 16) ∨ Lib.accHi (Lib.firstT a / 16) < b) := by
            have := of_decide_eq_true hs.symm; omega
          cases cc : conB c
          · rw [cc] at hc
            have h8 : c < 128 ∨ 191 < c := by have := of_decide_eq_false hc.symm; omega
            simp [fullN, shortB, opnB, runF, h1, h7, s, this, cc, h8]
          · rw [cc] at hc
            have h8 : ¬ (c < 128 ∨ 191 < c) := by have := of_decide_eq_true hc.symm; omega
            simp [fullN, shortB, opnB, runF, h1, h7, s, this, cc, h8]
    · have : longF a = 0 ∨ longF a = 1 := by omega
      have h0 : Lib.firstT a % 8 ≤ 3 := by omega
      rcases this with h | h <;> simp [fullN, shortB, opnB, runF, h0, h]
  | a :: b :: c :: d :: t =>
    have h0 : Lib.firstT a % 8 ≤ 4 := by
      have := longF_le a
      rcases first_long a with ⟨h1, h2⟩ | ⟨h1, h2⟩ <;> omega
    have h1 : opnB (a :: b :: c :: d :: t) = false := by
      cases h : opnB (a :: b :: c :: d :: t)
      · rfl
      · exact absurd (opn_short h).1 (by simp)
    have h2 : Lib.firstT a % 8 ≤ t.length + 1 + 1 + 1 + 1 := by omega
    simp [fullN, shortB, h1, h2]
theorem slow_all {a : Nat} (h : 2 ≤ longF a) (n b c d : Nat) (hn : 1 ≤ n) (h1 : b < 256) (h2 : c < 256) (h3 : d < 256) :
    Lib.decodeN n a b c d = Lib.slowN n a b c d (longF a) (Lib.accLo (Lib.firstT a / 16)) (Lib.accHi (Lib.firstT a / 16)) := by
  have h0 : 194 ≤ a ∧ a ≤ 244 := by unfold longF at h; (repeat' split at h) <;> omega
  have k : (194 ≤ a ∧ a < 224) ∨ a = 224 ∨ ((225 ≤ a ∧ a < 237) ∨ (238 ≤ a ∧ a < 240)) ∨ a = 237 ∨ a = 240 ∨ (241 ≤ a ∧ a < 244) ∨ a = 244 := by omega
  rcases k with k | k | k | k | k | k | k
  · have e1 : longF a = 2 := by unfold longF; rw [if_neg (by omega), if_pos (by omega)]
    have e2 : Lib.firstT a = 2 := by unfold Lib.firstT; rw [if_neg (by omega), if_neg (by omega), if_pos (by omega)]
    rw [e1, e2]; exact (Lib.slow_C2 n a b c d hn h1 h2 h3 k).symm
  · have e1 : longF a = 3 := by subst k; rfl
    have e2 : Lib.firstT a = 19 := by subst k; rfl
    rw [e1, e2]; exact (Lib.slow_E0 n a b c d hn h1 h2 h3 k).symm
  · have e1 : longF a = 3 := by unfold longF; rw [if_neg (by omega), if_neg (by omega), if_pos (by omega)]
    have e2 : Lib.firstT a = 3 := by
      unfold Lib.firstT
      repeat' split
      all_goals first | (exfalso; omega) | rfl
    rw [e1, e2]; exact (Lib.slow_E1 n a b c d hn h1 h2 h3 k).symm
  · have e1 : longF a = 3 := by subst k; rfl
    have e2 : Lib.firstT a = 35 := by subst k; rfl
    rw [e1, e2]; exact (Lib.slow_ED n a b c d hn h1 h2 h3 k).symm
  · have e1 : longF a = 4 := by subst k; rfl
    have e2 : Lib.firstT a = 52 := by subst k; rfl
    rw [e1, e2]; exact (Lib.slow_F0 n a b c d hn h1 h2 h3 k).symm
  · have e1 : longF a = 4 := by unfold longF; rw [if_neg (by omega), if_neg (by omega), if_neg (by omega), if_pos (by omega)]
    have e2 : Lib.firstT a = 4 := by
      unfold Lib.firstT
      repeat' split
      all_goals first | (exfalso; omega) | rfl
    rw [e1, e2]; exact (Lib.slow_F1 n a b c d hn h1 h2 h3 k).symm
  · have e1 : longF a = 4 := by subst k; rfl
    have e2 : Lib.firstT a = 68 := by subst k; rfl
    rw [e1, e2]; exact (Lib.slow_F4 n a b c d hn h1 h2 h3 k).symm
theorem sec_or {a : Nat} (h : 2 ≤ longF a) (b : Nat) : (b < Lib.accLo (Lib.firstT a / 16) ∨ Lib.accHi (Lib.firstT a / 16) < b) ↔ secB a b = false := by
  rw [first_sec h b, decide_eq_false_iff_not]; omega
theorem con_or (b : Nat) : (b < 128 ∨ 191 < b) ↔ conB b = false := by
  unfold conB
  rw [decide_eq_false_iff_not]; omega
/-- What the decoder tells of bytes that are not none: the letter that stands there, or FFFD and one byte. -/
theorem decode_run (l : List Nat) (hl : l ≠ []) (hb : ∀ c ∈ l, c < 256) :
    (((Lib.decodeN l.length (l.getD 0 0) (l.getD 1 0) (l.getD 2 0) (l.getD 3 0)).1 : Nat) : Int) = headF l ∧
    (Lib.decodeN l.length (l.getD 0 0) (l.getD 1 0) (l.getD 2 0) (l.getD 3 0)).2 = if (runF l).2 then (runF l).1 else 1 := by
  obtain ⟨a, t, rfl⟩ := List.exists_cons_of_ne_nil hl
  have hg : ∀ j, (a :: t).getD j 0 < 256 := by
    intro j
    rw [List.getD_eq_getElem?_getD]
    cases h : (a :: t)[j]? with
    | none => decide
    | some x => exact hb x (List.mem_of_getElem? h)
  by_cases h2 : 2 ≤ longF a
  · have e0 : (a :: t).getD 0 0 = a := rfl
    rw [e0, slow_all h2 _ _ _ _ (by simp) (hg 1) (hg 2) (hg 3)]
    unfold Lib.slowN
    simp only [sec_or h2, con_or]
    have h3 : ¬ longF a = 0 := by omega
    have h4 : ¬ longF a = 1 := by omega
    have h5 := longF_le a
    rcases t with _ | ⟨b, _ | ⟨c, _ | ⟨d, t⟩⟩⟩
    · have : 1 < longF a := by omega
      simp [runF, headF, h3, h4, this]
    · have h7 : longF a = 2 ∨ longF a = 3 ∨ longF a = 4 := by omega
      rcases h7 with h7 | h7 | h7 <;> (cases s : secB a b) <;> simp [runF, headF, h7, s, valF]
    · have h7 : longF a = 2 ∨ longF a = 3 ∨ longF a = 4 := by omega
      rcases h7 with h7 | h7 | h7 <;> (cases s : secB a b) <;> (cases cc : conB c) <;> simp [runF, headF, h7, s, cc, valF]
      all_goals omega
    · have h7 : longF a = 2 ∨ longF a = 3 ∨ longF a = 4 := by omega
      have h8 : ¬ t.length + 1 + 1 + 1 + 1 < 2 := by omega
      have h9 : ¬ t.length + 1 + 1 + 1 + 1 < 3 := by omega
      have h10 : ¬ t.length + 1 + 1 + 1 + 1 < 4 := by omega
      rcases h7 with h7 | h7 | h7 <;> (cases s : secB a b) <;> (cases cc : conB c) <;> (cases dd : conB d) <;> simp [runF, headF, h7, s, cc, dd, valF, h8, h9, h10]
      all_goals omega
  · have e0 : (a :: t).getD 0 0 = a := rfl
    have h3 : longF a = 0 ∨ longF a = 1 := by omega
    have hr : runF (a :: t) = if longF a = 0 then (0, false) else (1, true) := by
      rcases t with _ | ⟨b, _ | ⟨c, _ | ⟨d, t⟩⟩⟩ <;> rcases h3 with h3 | h3 <;> simp [runF, h3]
    rw [e0]
    rcases h3 with h3 | h3
    · have ha : 128 ≤ a ∧ a < 194 ∨ 245 ≤ a := by unfold longF at h3; (repeat' split at h3) <;> omega
      have hd : Lib.decodeN (a :: t).length a ((a :: t).getD 1 0) ((a :: t).getD 2 0) ((a :: t).getD 3 0) = (65533, 1) := by
        have g1 := hg 1; have g2 := hg 2; have g3 := hg 3; have g0 := hg 0
        rw [e0] at g0
        generalize (a :: t).getD 1 0 = b at *
        generalize (a :: t).getD 2 0 = c at *
        generalize (a :: t).getD 3 0 = d at *
        unfold Lib.decodeN
        repeat' split
        all_goals first | rfl | (exfalso; omega)
      rw [hd]
      simp [headF, hr, h3]
    · have ha : a < 128 := by unfold longF at h3; (repeat' split at h3) <;> omega
      have hd : Lib.decodeN (a :: t).length a ((a :: t).getD 1 0) ((a :: t).getD 2 0) ((a :: t).getD 3 0) = (a, 1) := by
        unfold Lib.decodeN; rw [if_pos ha]
      rw [hd]
      simp [headF, hr, h3, valF]
/-! ### the longest beginning, byte by byte -/
theorem short_take {l : List Nat} {k : Nat} (hw : (runF l).2 = false) (hk : 0 < k) (h : k ≤ (runF l).1) : shortB (l.take k) = true := by
  have hle := run_le l
  have hl4 := run_le4 l
  rcases l with _ | ⟨a, _ | ⟨b, _ | ⟨c, _ | ⟨d, t⟩⟩⟩⟩
  · simp at hle; omega
  · obtain rfl : k = 1 := by simp at hle; omega
    simp only [runF] at hw h
    by_cases a0 : longF a = 0
    · simp [a0] at h
    · by_cases a1 : longF a = 1
      · simp [a1] at hw
      · simp [shortB, opnB, runF, a0, a1]
  · simp only [runF] at hw h
    by_cases a0 : longF a = 0
    · simp [a0] at h; omega
    · by_cases a1 : longF a = 1
      · simp [a1] at hw
      · cases s : secB a b
        · simp [a0, a1, s] at h
          obtain rfl : k = 1 := by omega
          simp [shortB, opnB, runF, a0, a1]
        · by_cases a2 : longF a = 2
          · simp [s, a2] at hw
          · simp [a0, a1, a2, s] at h
            obtain rfl | rfl : k = 1 ∨ k = 2 := by omega
            · simp [shortB, opnB, runF, a0, a1]
            · simp [shortB, opnB, runF, a0, a1, a2, s]
  · simp only [runF] at hw h
    by_cases a0 : longF a = 0
    · simp [a0] at h; omega
    · by_cases a1 : longF a = 1
      · simp [a1] at hw
      · cases s : secB a b
        · simp [a0, a1, s] at h
          obtain rfl : k = 1 := by omega
          simp [shortB, opnB, runF, a0, a1]
        · by_cases a2 : longF a = 2
          · simp [s, a2] at hw
          · cases cc : conB c
            · simp [a0, a1, a2, s, cc] at h
              obtain rfl | rfl : k = 1 ∨ k = 2 := by omega
              · simp [shortB, opnB, runF, a0, a1]
              · simp [shortB, opnB, runF, a0, a1, a2, s]
            · by_cases a3 : longF a = 3
              · simp [s, a3, cc] at hw
              · simp [a0, a1, a2, a3, s, cc] at h
                obtain rfl | rfl | rfl : k = 1 ∨ k = 2 ∨ k = 3 := by omega
                · simp [shortB, opnB, runF, a0, a1]
                · simp [shortB, opnB, runF, a0, a1, a2, s]
                · simp [shortB, opnB, runF, a0, a1, a2, a3, s, cc]
  · simp only [runF] at hw h
    by_cases a0 : longF a = 0
    · simp [a0] at h; omega
    · by_cases a1 : longF a = 1
      · simp [a1] at hw
      · cases s : secB a b
        · simp [a0, a1, s] at h
          obtain rfl : k = 1 := by omega
          simp [shortB, opnB, runF, a0, a1]
        · by_cases a2 : longF a = 2
          · simp [s, a2] at hw
          · cases cc : conB c
            · simp [a0, a1, a2, s, cc] at h
              obtain rfl | rfl : k = 1 ∨ k = 2 := by omega
              · simp [shortB, opnB, runF, a0, a1]
              · simp [shortB, opnB, runF, a0, a1, a2, s]
            · by_cases a3 : longF a = 3
              · simp [s, a3, cc] at hw
              · cases dd : conB d
                · simp [a0, a1, a2, a3, s, cc, dd] at h
                  obtain rfl | rfl | rfl : k = 1 ∨ k = 2 ∨ k = 3 := by omega
                  · simp [shortB, opnB, runF, a0, a1]
                  · simp [shortB, opnB, runF, a0, a1, a2, s]
                  · simp [shortB, opnB, runF, a0, a1, a2, a3, s, cc]
                · simp [a0, a1, a2, a3, s, cc, dd] at hw
theorem run_take {l : List Nat} {k : Nat} (h : (runF l).1 < k) : runF (l.take k) = runF l := by
  by_cases hk : l.length ≤ k
  · rw [List.take_of_length_le hk]
  · have hne : l ≠ [] := by rintro rfl; simp at hk
    -- what is taken is no beginning up to its end
    have key : ∀ m, runF (l.take k) = m → m = runF l := by
      intro m hm
      by_cases ho : opnB (l.take k) = true
      · exfalso
        obtain ⟨h1, h2, h3⟩ := opn_iff.1 ho
        have hlen : (l.take k).length = k := by rw [List.length_take]; omega
        have hs := opn_short ho
        rw [hlen] at hs h3
        rcases l with _ | ⟨a, _ | ⟨b, _ | ⟨c, _ | ⟨d, t⟩⟩⟩⟩
        · exact hne rfl
        · simp at hk; omega
        all_goals
          obtain rfl | rfl | rfl : k = 1 ∨ k = 2 ∨ k = 3 := by omega
          all_goals
            first
              | (exfalso; simp at hk; done)
              | (revert h h1 h2 h3
                 by_cases a0 : longF a = 0
                 · simp [runF, a0]
                 · by_cases a1 : longF a = 1
                   · simp [runF, a1]
                   · cases s : secB a b
                     · simp [runF, a0, a1, s]
                     · by_cases a2 : longF a = 2
                       · simp [runF, a2, s]
                       · first
                           | (simp [runF, a0, a1, a2, s]; done)
                           | (cases cc : conB c
                              · simp [runF, a0, a1, a2, s, cc]
                              · by_cases a3 : longF a = 3
                                · simp [runF, a3, s, cc]
                                · first
                                    | (simp [runF, a0, a1, a2, a3, s, cc]; done)
                                    | (cases dd : conB d <;> simp [runF, a0, a1, a2, a3, s, cc, dd])))
      · have := run_append (l.drop k) (a := l.take k) (by intro e; have h5 := congrArg List.length e; have h6 : 0 < l.length := List.length_pos_iff.2 hne; rw [List.length_take, List.length_nil] at h5; omega) (by simpa using ho)
        rw [List.take_append_drop] at this
        rw [← hm, this]
    exact key _ rfl
theorem short_past {l : List Nat} {k : Nat} (h : (runF l).1 < k) (hl : (runF l).1 < l.length) (hk : 0 < k) : shortB (l.take k) = false := by
  have hr := run_take h
  have hne : l.take k ≠ [] := by intro e; have h5 := congrArg List.length e; rw [List.length_take, List.length_nil] at h5; omega
  unfold shortB opnB
  rw [hr, List.length_take]
  simp [hne]
  intro _ h1; omega
theorem run_past {l : List Nat} (hl : l ≠ []) (ho : opnB l = false) (hw : (runF l).2 = false) : (runF l).1 < l.length := by
  have hle := run_le l
  have h0 : 0 < l.length := List.length_pos_iff.2 hl
  rcases Nat.lt_or_ge (runF l).1 l.length with h | h
  · exact h
  · have : opnB l = true := opn_iff.2 ⟨hw, by omega, by omega⟩
    rw [this] at ho; cases ho
/-- Is one byte more still a beginning? -/
theorem short_next {l : List Nat} (hl : l ≠ []) (ho : opnB l = false) {k : Nat} (h1 : (if (runF l).2 then (runF l).1 else 1) ≤ k) (h2 : k ≤ max (runF l).1 1) (h3 : k < l.length) :
    shortB (l.take (k + 1)) = decide (k < max (runF l).1 1) := by
  cases hw : (runF l).2
  · rw [hw] at h1
    simp at h1
    have hp := run_past hl ho hw
    rcases Nat.lt_or_ge k (max (runF l).1 1) with h | h
    · rw [decide_eq_true h]
      exact short_take hw (by omega) (by omega)
    · rw [decide_eq_false (by omega)]
      exact short_past (by omega) hp (by omega)
  · rw [hw] at h1
    simp at h1
    have h4 := run_whole hw
    rw [decide_eq_false (by omega)]
    exact short_past (by omega) (by omega) (by omega)
end Go.Proofs.YthkahbgcemhebaaDoor
