/- What the statements of chapter 7 say of pens, plainly: what is printed makes the pen, both lines below letters, a colour however it is written, a colour's parts, flags. No program here. -/
import Derived.Test.YtcadbapccdclaaaMath07
namespace Go.Proofs.Ytcadbapccdclaaa
set_option linter.unusedVariables false
set_option linter.unusedSimpArgs false

def bothN (f : Int) : Bool := hasN f 8 && hasN f 256
theorem both_zero : bothN zeroN.fl = false := by decide
theorem both_all : allF (fun f => numsN.all fun n => (!bothN (flagN f n none) || bothN f) && ((!bothN (flagN f n (some 0)) || bothN f) && (!bothN (flagN f n (some 2)) || bothN f))) = true := by decide +kernel
theorem both_flag {f n : Int} (s : Option Int) (hf : Fl f) (hn : 1 ≤ n ∧ n ≤ 29) (h : bothN (flagN f n s) = true) : bothN f = true := by
  have ha := allF_spec both_all hf
  rw [List.all_eq_true] at ha
  have hm : n ∈ numsN := by
    simp only [numsN, List.mem_cons, List.not_mem_nil, or_false]; omega
  have := ha n hm
  simp only [Bool.and_eq_true, Bool.or_eq_true, Bool.not_eq_true'] at this
  rcases flag_some f n s with e | e | e <;> rw [e] at h <;> simp_all
theorem both_one {p : Pn} (hp : SaneN p) (n : Int) (q : List Int) (h : bothN (oneN p n q).fl = true) : bothN p.fl = true := by
  unfold oneN at h
  split at h
  · rw [both_zero] at h; cases h
  split at h
  · rename_i hn; exact both_flag _ ⟨hp.2.2.1, hp.2.2.2⟩ hn h
  split at h
  · exact h
  split at h
  · exact h
  split at h
  · exact h
  split at h
  · exact h
  split at h
  · exact h
  split at h
  · exact h
  · exact h
theorem put_fl (p : Pn) (n c : Int) : (putN p n c).fl = p.fl := by
  unfold putN; split <;> rfl
theorem both_go : ∀ (n : Nat) (l : List (List Int)) (p : Pn), l.length ≤ n → SaneN p → bothN (goN p l).fl = true → bothN p.fl = true := by
  intro n
  induction n with
  | zero =>
    intro l p hl h hb
    rw [List.eq_nil_of_length_eq_zero (by omega : l.length = 0), goN_nil] at hb; exact hb
  | succ n ih =>
    intro l p hl h hb
    cases l with
    | nil => rw [goN_nil] at hb; exact hb
    | cons q l =>
      simp only [List.length_cons] at hl
      rw [goN] at hb
      split at hb
      · split at hb
        · split at hb
          · rename_i c k hc
            have := ih l _ (by omega) (put_ok h _ (colour_ok hc)) hb
            rwa [put_fl] at this
          · exact ih l _ (by omega) h hb
        · split at hb
          · rename_i c k hc
            have := ih _ _ (by simp only [List.length_drop]; omega) (put_ok h _ (colour_ok hc)) hb
            rwa [put_fl] at this
          · exact hb
      · exact both_one h _ _ (ih l _ (by omega) (one_ok h _ _) hb)
/- What is printed makes the pen. -/
def dropN (p : Pn) : Pn := if bothN p.fl = true then { p with fl := p.fl - 8 } else p
def dropF (f : Int) : Int := if bothN f = true then f - 8 else f
theorem go_flags (l : List (Int × Int)) (h : ∀ x ∈ l, 1 ≤ x.2 ∧ x.2 ≤ 29) (a b f : Int) (m : List (List Int)) :
    goN ⟨a, b, f⟩ ((l.map fun x => [x.2]) ++ m) = goN ⟨a, b, l.foldl (fun f x => flagN f x.2 none) f⟩ m := by
  induction l generalizing f with
  | nil => rfl
  | cons x l ih =>
    have hx := h x (by simp)
    have e1 : firstN [x.2] = x.2 := rfl
    rw [List.map_cons, List.cons_append, goN_plain _ _ _ (by rw [e1]; omega), List.foldl_cons, ← ih (fun y hy => h y (by simp [hy]))]
    congr 1
    unfold oneN
    rw [e1, if_neg (by omega), if_pos hx]
    rfl
theorem flags_all : allF (fun f => decide ((bitsN.filter fun x => hasN f x.1).foldl (fun f x => flagN f x.2 none) 0 = dropF f)) = true := by decide +kernel
theorem bits_nums : ∀ x ∈ bitsN, 1 ≤ x.2 ∧ x.2 ≤ 29 := by decide
theorem go_shade {p : Pn} {c : Int} (hc : ColOk c) (back : Int) (hb : back = 0 ∧ p.fg = 0 ∨ back = 10 ∧ p.bg = 0) (m : List (List Int)) :
    goN p (shadeN c back ++ m) = goN (if back = 10 then { p with bg := c } else { p with fg := c }) m := by
  obtain ⟨fg, bg, fl⟩ := p
  simp only at hb ⊢
  have e1 : ∀ n : Int, firstN [n] = n := fun _ => rfl
  unfold ColOk at hc
  unfold shadeN
  split
  · rename_i h1
    rw [List.cons_append, List.nil_append, goN_plain _ _ _ (by rw [e1]; omega), e1]
    congr 1
    unfold oneN
    rcases hb with ⟨rfl, rfl⟩ | ⟨rfl, rfl⟩
    · rw [if_neg (by omega), if_neg (by omega), if_pos (by omega), if_neg (by omega)]
      simp only [Pn.mk.injEq, and_true]; omega
    · rw [if_neg (by omega), if_neg (by omega), if_neg (by omega), if_neg (by omega), if_pos (by omega), if_pos rfl]
      simp only [Pn.mk.injEq, and_true, true_and]; omega
  split
  · rename_i h1 h2
    rw [List.cons_append, List.nil_append, goN_plain _ _ _ (by rw [e1]; omega), e1]
    congr 1
    unfold oneN
    rcases hb with ⟨rfl, rfl⟩ | ⟨rfl, rfl⟩
    · rw [if_neg (by omega), if_neg (by omega), if_neg (by omega), if_neg (by omega), if_neg (by omega), if_neg (by omega), if_pos (by omega), if_neg (by omega)]
      simp only [Pn.mk.injEq, and_true]; omega
    · rw [if_neg (by omega), if_neg (by omega), if_neg (by omega), if_neg (by omega), if_neg (by omega), if_neg (by omega), if_neg (by omega), if_pos (by omega), if_pos rfl]
      simp only [Pn.mk.injEq, and_true, true_and]; omega
  have hput : ∀ x : Int, putN ⟨fg, bg, fl⟩ (38 + back) x = (if back = 10 then ⟨fg, x, fl⟩ else ⟨x, bg, fl⟩) := by
    intro x
    unfold putN
    rcases hb with ⟨rfl, _⟩ | ⟨rfl, _⟩ <;> rfl
  split
  · rename_i h1 h2 h3
    rw [List.cons_append, goN, if_pos (by rw [e1]; omega), if_neg (by simp)]
    have hcol : colourN ((([[5], [c - 1]] : List (List Int)) ++ m).map firstN) false = some (c, 2) := by
      unfold colourN
      rw [if_pos ⟨rfl, by simp only [partB, atN, List.map_append, List.map_cons, List.cons_append, List.getD_cons_succ, List.getD_cons_zero, e1, decide_eq_true_eq]; omega⟩]
      simp only [atN, List.map_cons, List.cons_append, List.getD_cons_succ, List.getD_cons_zero, e1, Option.some.injEq, Prod.mk.injEq, and_true]
      omega
    rw [hcol]
    show goN (putN _ (firstN [38 + back]) c) (([[5], [c - 1]] ++ m).drop 2) = _
    rw [e1, hput]
    rfl
  split
  · rename_i h1 h2 h3 h4
    rw [List.cons_append, goN, if_pos (by rw [e1]; omega), if_neg (by simp)]
    have hcol : colourN ((([[2], [c / 65536 % 256], [c / 256 % 256], [c % 256]] : List (List Int)) ++ m).map firstN) false = some (c, 4) := by
      unfold colourN
      rw [if_neg (by intro h; exact absurd h.1 (by show ¬ ((2 : Int) = 5); omega))]
      dsimp only
      rw [if_neg (by simp : ¬ (false = true ∧ _))]
      simp only [atN, List.map_cons, List.cons_append, List.getD_cons_succ, List.getD_cons_zero, e1, Nat.reduceAdd, partB, decide_eq_true_eq]
      rw [if_pos ⟨trivial, by omega, by omega, by omega⟩]
      simp only [Option.some.injEq, Prod.mk.injEq, and_true]
      unfold rgbN clampN
      omega
    rw [hcol]
    show goN (putN _ (firstN [38 + back]) c) (([[2], [c / 65536 % 256], [c / 256 % 256], [c % 256]] ++ m).drop 4) = _
    rw [e1, hput]
    rfl
  · rename_i h1 h2 h3 h4
    rw [List.nil_append]
    congr 1
    rcases hb with ⟨rfl, rfl⟩ | ⟨rfl, rfl⟩
    · rw [if_neg (by omega)]; simp only [Pn.mk.injEq, and_true]; omega
    · rw [if_pos rfl]; simp only [Pn.mk.injEq, and_true, true_and]; omega
theorem go_print {p : Pn} (hp : SaneN p) (q : Pn) : goN q (printN p) = dropN p := by
  have hf := allF_spec flags_all ⟨hp.2.2.1, hp.2.2.2⟩
  rw [decide_eq_true_eq] at hf
  unfold printN
  rw [if_pos hp, List.cons_append, List.cons_append, goN_plain _ _ _ (by decide)]
  have h0 : oneN q (firstN [0]) [0] = ⟨0, 0, 0⟩ := by
    unfold oneN; rw [if_pos (.inl rfl)]; rfl
  rw [h0]
  unfold flagsN
  rw [List.append_assoc, go_flags _ (fun x hx => bits_nums x (List.mem_filter.1 hx |>.1)), hf,
    go_shade hp.1 0 (.inl ⟨rfl, rfl⟩), if_neg (by omega)]
  have := go_shade (p := ⟨p.fg, 0, dropF p.fl⟩) hp.2.1 10 (.inr ⟨rfl, rfl⟩) []
  rw [List.append_nil, goN_nil, if_pos rfl] at this
  rw [this]
  unfold dropN dropF
  split <;> rfl
theorem print_pos {p : Pn} (hp : SaneN p) : 1 ≤ (printN p).length := by
  unfold printN; rw [if_pos hp]; simp only [List.cons_append, List.length_cons]; omega
theorem apply_print {p q : Pn} (hp : SaneN p) (hq : SaneN q) : applyN q (printN p) = dropN p := by
  unfold applyN
  rw [if_pos ⟨hq, fun h => by have := print_pos hp; rw [h] at this; simp at this⟩, go_print hp]
/- One lot behind the other. -/
theorem apply_app {p : Pn} {l m : List (List Int)} (hp : SaneN p) (hl : l ≠ []) (hm : m ≠ []) (h : ∀ q ∈ l, ¬ (firstN q = 38 ∨ firstN q = 48)) :
    applyN p (l ++ m) = applyN (applyN p l) m := by
  have h1 : applyN p l = goN p l := by unfold applyN; rw [if_pos ⟨hp, hl⟩]
  rw [h1]
  unfold applyN
  rw [if_pos ⟨hp, by simp [hl]⟩, if_pos ⟨go_ok _ l p (Nat.le_refl _) hp, hm⟩, go_app l m p h]
theorem apply_both {p : Pn} {l : List (List Int)} (hp : SaneN p) (hl : l ≠ []) (h : bothN (applyN p l).fl = true) : bothN p.fl = true := by
  unfold applyN at h
  rw [if_pos ⟨hp, hl⟩] at h
  exact both_go _ l p (Nat.le_refl _) hp h
/- A colour however it is written. -/
def Byt8 (x : Int) : Prop := 0 ≤ x ∧ x ≤ 255
theorem apply_one {p : Pn} (hp : SaneN p) (l : List (List Int)) (hl : l ≠ []) : applyN p l = goN p l := by
  unfold applyN; rw [if_pos ⟨hp, hl⟩]
theorem go_five {p : Pn} {n x y z : Int} (hn : n = 38 ∨ n = 48) (hx : Byt8 x) (hy : Byt8 y) (hz : Byt8 z) : goN p [[n], [2], [x], [y], [z]] = putN p n (rgbN x y z) := by
  have e1 : ∀ n : Int, firstN [n] = n := fun _ => rfl
  unfold Byt8 at hx hy hz
  rw [goN, if_pos (by rw [e1]; exact hn), if_neg (by simp)]
  have hcol : colourN (([[2], [x], [y], [z]] : List (List Int)).map firstN) false = some (rgbN x y z, 4) := by
    unfold colourN
    rw [if_neg (by intro h; exact absurd h.1 (by show ¬ ((2 : Int) = 5); omega))]
    dsimp only
    rw [if_neg (by simp : ¬ (false = true ∧ _))]
    simp only [atN, List.map_cons, List.map_nil, List.getD_cons_succ, List.getD_cons_zero, e1, Nat.reduceAdd, partB, decide_eq_true_eq]
    rw [if_pos ⟨trivial, by omega, by omega, by omega⟩]
  rw [hcol]
  show goN (putN p (firstN [n]) _) [] = _
  rw [goN_nil, e1]
theorem go_three {p : Pn} {n x : Int} (hn : n = 38 ∨ n = 48) (hx : Byt8 x) : goN p [[n], [5], [x]] = putN p n (x + 1) := by
  have e1 : ∀ n : Int, firstN [n] = n := fun _ => rfl
  unfold Byt8 at hx
  rw [goN, if_pos (by rw [e1]; exact hn), if_neg (by simp)]
  have hcol : colourN (([[5], [x]] : List (List Int)).map firstN) false = some (x + 1, 2) := by
    unfold colourN
    rw [if_pos ⟨rfl, by simp only [partB, atN, List.map_cons, List.getD_cons_succ, List.getD_cons_zero, e1, decide_eq_true_eq]; omega⟩]
    rfl
  rw [hcol]
  show goN (putN p (firstN [n]) _) [] = _
  rw [goN_nil, e1]
theorem go_own {p : Pn} {n c : Int} {k : Nat} {t : List Int} (hn : n = 38 ∨ n = 48) (ht : t ≠ []) (h : colourN t true = some (c, k)) : goN p [n :: t] = putN p n c := by
  have e1 : firstN (n :: t) = n := rfl
  rw [goN, if_pos (by rw [e1]; exact hn), if_pos (by cases t with | nil => exact absurd rfl ht | cons a t => simp), List.tail_cons, h]
  show goN (putN p (firstN (n :: t)) c) [] = _
  rw [goN_nil, e1]
theorem col_four {x y z : Int} (hx : Byt8 x) (hy : Byt8 y) (hz : Byt8 z) : colourN [2, x, y, z] true = some (rgbN x y z, 4) := by
  unfold Byt8 at hx hy hz
  unfold colourN
  rw [if_neg (by intro h; exact absurd h.1 (by show ¬ ((2 : Int) = 5); omega))]
  dsimp only
  rw [if_neg (by simp : ¬ (true = true ∧ 5 ≤ [2, x, y, z].length))]
  simp only [atN, List.getD_cons_succ, List.getD_cons_zero, Nat.reduceAdd, partB, decide_eq_true_eq]
  rw [if_pos ⟨trivial, by omega, by omega, by omega⟩]
theorem col_gap {x y z : Int} (g : Int) (hx : Byt8 x) (hy : Byt8 y) (hz : Byt8 z) : colourN [2, g, x, y, z] true = some (rgbN x y z, 4) := by
  unfold Byt8 at hx hy hz
  unfold colourN
  rw [if_neg (by intro h; exact absurd h.1 (by show ¬ ((2 : Int) = 5); omega))]
  dsimp only
  rw [if_pos (by simp : true = true ∧ 5 ≤ [2, g, x, y, z].length)]
  simp only [atN, List.getD_cons_succ, List.getD_cons_zero, Nat.reduceAdd, partB, decide_eq_true_eq]
  rw [if_pos ⟨trivial, by omega, by omega, by omega⟩]
theorem col_low {x : Int} (hx : Byt8 x) : colourN [5, x] true = some (x + 1, 2) := by
  unfold Byt8 at hx
  unfold colourN
  rw [if_pos ⟨rfl, by simp only [partB, atN, List.getD_cons_succ, List.getD_cons_zero, decide_eq_true_eq]; omega⟩]
  rfl
theorem parts_rgb {x y z : Int} (hx : Byt8 x) (hy : Byt8 y) (hz : Byt8 z) : partsN (rgbN x y z) = (2, x, y, z) := by
  unfold Byt8 at hx hy hz
  have e : rgbN x y z = 16777216 + x * 65536 + y * 256 + z := by unfold rgbN clampN; omega
  rw [e]
  unfold partsN
  rw [if_neg (by omega), if_neg (by omega), if_pos (by omega)]
  simp only [Prod.mk.injEq, true_and]
  omega
/- Of what a colour is. -/
theorem parts_zero {c : Int} (h : (partsN c).1 = 0) : c = 0 := by
  unfold partsN at h
  split at h
  · assumption
  split at h
  · simp at h
  split at h <;> simp at h
theorem parts_one {c : Int} (h : (partsN c).1 = 1) : c = (partsN c).2.1 + 1 ∧ Byt8 (partsN c).2.1 ∧ (partsN c).2.2.1 = 0 ∧ (partsN c).2.2.2 = 0 := by
  unfold partsN at h ⊢
  unfold Byt8
  split at h
  · simp at h
  split at h
  · rename_i h0 h1
    rw [if_neg h0, if_pos h1]
    exact ⟨by simp only; omega, by simp only; omega, rfl, rfl⟩
  split at h <;> simp at h
theorem parts_two {c : Int} (h : (partsN c).1 = 2) : rgbN (partsN c).2.1 (partsN c).2.2.1 (partsN c).2.2.2 = c := by
  unfold partsN at h ⊢
  split at h
  · simp at h
  split at h
  · simp at h
  split at h
  · rename_i h0 h1 h2
    rw [if_neg h0, if_neg h1, if_pos h2]
    unfold rgbN clampN; simp only; omega
  · simp at h
theorem parts_range (c : Int) : (partsN c).1 = 0 ∨ (partsN c).1 = 1 ∨ (partsN c).1 = 2 ∨ (partsN c).1 = 3 := by
  unfold partsN; repeat' split
  all_goals simp
theorem parts_ok (c : Int) : ColOk c ↔ (partsN c).1 ≠ 3 := by
  unfold ColOk partsN
  split
  · simp [*]
  split
  · simp [*]
  split
  · simp [*]
  · simp [*]
end Go.Proofs.Ytcadbapccdclaaa
