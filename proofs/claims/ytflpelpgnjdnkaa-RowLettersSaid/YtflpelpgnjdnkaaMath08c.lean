/- What is inserted is deleted again; letters from place to place, plainly. No program here. -/
import Derived.Test.YtflpelpgnjdnkaaMath08b
namespace Go.Proofs.Ytflpelpgnjdnkaa
set_option linter.unusedVariables false
set_option linter.unusedSimpArgs false

theorem narrow_good {l : List Cl} (h : ∀ c ∈ l, c.w = 1) (i : Nat) : wAt l i = 1 := by
  unfold wAt
  cases hi : l[i]? with
  | none => rfl
  | some c => exact h c (List.mem_of_getElem? hi)
theorem narrow_mend {l : List Cl} (h : ∀ c ∈ l, c.w = 1) : mendL l = l := by
  rw [mend_same]
  intro i hb
  have := narrow_good h i
  rcases hb with hb | hb <;> omega
theorem ins_at {l : List Cl} {k n w : Nat} {p : Pn} (hw : w ≤ l.length) (hk : k + n ≤ w) (i : Nat) :
    (insL l k n w p)[i]? = if i < k then l[i]? else if i < k + n then some (blankC p) else if i < w then l[i - n]? else l[i]? := by
  unfold insL
  have e1 : (l.take k).length = k := by rw [List.length_take]; omega
  have e2 : (List.replicate n (blankC p)).length = n := List.length_replicate
  have e3 : ((l.take (w - n)).drop k).length = w - n - k := by rw [List.length_drop, List.length_take]; omega
  split
  · rw [List.getElem?_append_left (by omega), List.getElem?_take, if_pos (by omega)]
  rw [List.getElem?_append_right (by omega), e1]
  split
  · rw [List.getElem?_append_left (by omega), List.getElem?_replicate, if_pos (by omega)]
  rw [List.getElem?_append_right (by omega), e2]
  split
  · rw [List.getElem?_append_left (by omega), List.getElem?_drop, List.getElem?_take, if_pos (by omega)]
    congr 1; omega
  · rw [List.getElem?_append_right (by omega), e3, List.getElem?_drop]
    congr 1; omega
theorem del_at {l : List Cl} {k n w : Nat} {p : Pn} (hw : w ≤ l.length) (hk : k + n ≤ w) (i : Nat) :
    (delL l k n w p)[i]? = if i < k then l[i]? else if i < w - n then l[i + n]? else if i < w then some (blankC p) else l[i]? := by
  unfold delL
  have e1 : (l.take k).length = k := by rw [List.length_take]; omega
  have e2 : (List.replicate n (blankC p)).length = n := List.length_replicate
  have e3 : ((l.take w).drop (k + n)).length = w - (k + n) := by rw [List.length_drop, List.length_take]; omega
  split
  · rw [List.getElem?_append_left (by omega), List.getElem?_take, if_pos (by omega)]
  rw [List.getElem?_append_right (by omega), e1]
  split
  · rw [List.getElem?_append_left (by omega), List.getElem?_drop, List.getElem?_take, if_pos (by omega)]
    congr 1; omega
  rw [List.getElem?_append_right (by omega), e3]
  split
  · rw [List.getElem?_append_left (by omega), List.getElem?_replicate, if_pos (by omega)]
  · rw [List.getElem?_append_right (by omega), e2, List.getElem?_drop]
    congr 1; omega
theorem ins_len {l : List Cl} {k n w : Nat} {p : Pn} (hw : w ≤ l.length) (hk : k + n ≤ w) : (insL l k n w p).length = l.length := by
  unfold insL
  simp only [List.length_append, List.length_take, List.length_replicate, List.length_drop]; omega
theorem del_len {l : List Cl} {k n w : Nat} {p : Pn} (hw : w ≤ l.length) (hk : k + n ≤ w) : (delL l k n w p).length = l.length := by
  unfold delL
  simp only [List.length_append, List.length_take, List.length_replicate, List.length_drop]; omega
theorem ins_mem {l : List Cl} {k n w : Nat} {p : Pn} {c : Cl} (h : c ∈ insL l k n w p) : c ∈ l ∨ c = blankC p := by
  unfold insL at h
  rcases List.mem_append.1 h with h | h
  · exact .inl (List.mem_of_mem_take h)
  rcases List.mem_append.1 h with h | h
  · exact .inr (List.mem_replicate.1 h).2
  rcases List.mem_append.1 h with h | h
  · exact .inl (List.mem_of_mem_take (List.mem_of_mem_drop h))
  · exact .inl (List.mem_of_mem_drop h)
theorem del_mem {l : List Cl} {k n w : Nat} {p : Pn} {c : Cl} (h : c ∈ delL l k n w p) : c ∈ l ∨ c = blankC p := by
  unfold delL at h
  rcases List.mem_append.1 h with h | h
  · exact .inl (List.mem_of_mem_take h)
  rcases List.mem_append.1 h with h | h
  · exact .inl (List.mem_of_mem_take (List.mem_of_mem_drop h))
  rcases List.mem_append.1 h with h | h
  · exact .inr (List.mem_replicate.1 h).2
  · exact .inl (List.mem_of_mem_drop h)
theorem moveN_eq {k n w : Nat} (h : k + n ≤ w) : moveN (k : Int) (n : Int) (w : Int) = n := by unfold moveN; omega
theorem moves_none {r : Rw} {k n w : Int} {p : Pn} (h : ¬ SaneN p) : insR r k n w p = r ∧ delR r k n w p = r := by
  have hn : ¬ MoveOk r k w p := fun k => h k.2.1
  unfold insR delR
  exact ⟨by rw [if_neg hn], by rw [if_neg hn]⟩
/-- What is inserted is deleted again. -/
theorem moves_said {r : Rw} (h : SaneR r) (h1 : ∀ c ∈ r.cs, c.w = 1) {k n w : Nat} (hk : k < w) (hw : w ≤ r.cs.length) (hn : k + n ≤ w) {p : Pn} (hp : SaneN p) :
    (insR r k n w p).cs.length = r.cs.length ∧ (delR (insR r k n w p) k n w p).cs.length = r.cs.length ∧
    (∀ i, i < r.cs.length → if w - n ≤ i ∧ i < w then (delR (insR r k n w p) k n w p).cs[i]? = some (blankC p) else (delR (insR r k n w p) k n w p).cs[i]? = r.cs[i]?) ∧
    ∀ i, k + n ≤ i → i < w → (insR r k n w p).cs[i]? = r.cs[i - n]? := by
  have hi1 : ∀ c ∈ insL r.cs k n w p, c.w = 1 := fun c hc => by
    rcases ins_mem hc with hc | rfl
    · exact h1 c hc
    · rfl
  have ha : insR r k n w p = { r with cs := insL r.cs k n w p } := by
    unfold insR
    rw [if_pos ⟨h, hp, by omega, by omega, by omega⟩, moveN_eq hn, Int.toNat_natCast, Int.toNat_natCast, narrow_mend hi1]
  have hil := ins_len (p := p) hw hn
  have hsa : SaneR ({ r with cs := insL r.cs k n w p } : Rw) := by
    refine ⟨by simp only [hil]; exact h.1, fun c hc => ?_, narrow_mend hi1, h.2.2.2⟩
    rcases ins_mem hc with hc | rfl
    · exact h.2.1 c hc
    · exact blank_one hp
  have hd1 : ∀ c ∈ delL (insL r.cs k n w p) k n w p, c.w = 1 := fun c hc => by
    rcases del_mem hc with hc | rfl
    · exact hi1 c hc
    · rfl
  have hb : delR ({ r with cs := insL r.cs k n w p } : Rw) k n w p = { r with cs := delL (insL r.cs k n w p) k n w p } := by
    unfold delR
    rw [if_pos ⟨hsa, hp, by omega, by omega, by simp only [hil]; omega⟩, moveN_eq hn, Int.toNat_natCast, Int.toNat_natCast, narrow_mend hd1]
  rw [ha, hb]
  have hw2 : w ≤ (insL r.cs k n w p).length := by omega
  refine ⟨hil, by simp only [del_len hw2 hn, hil], fun i hi => ?_, fun i h2 h3 => ?_⟩
  · simp only [del_at hw2 hn]
    split
    · rename_i hl
      rw [if_neg (by omega), if_neg (by omega), if_pos (by omega)]
    · rename_i hl
      by_cases e1 : i < k
      · rw [if_pos e1, ins_at hw hn, if_pos e1]
      rw [if_neg e1]
      by_cases e2 : i < w - n
      · rw [if_pos e2, ins_at hw hn, if_neg (by omega), if_neg (by omega), if_pos (by omega)]
        congr 1
        omega
      · rw [if_neg e2, if_neg (by omega), ins_at hw hn, if_neg (by omega), if_neg (by omega), if_neg (by omega)]
  · simp only [ins_at hw hn]
    rw [if_neg (by omega), if_neg (by omega), if_pos h3]
/- Letters. -/
def cntC (c : Cl) : Nat := (if 0 < c.w then 1 else 0) + ((if c.m0 ≠ 0 then 1 else 0) + (if c.m1 ≠ 0 then 1 else 0))
def cntL (l : List Cl) : Nat := (l.map cntC).sum
theorem lets_one {c : Cl} (h : OneC c) : (letsC c).length = cntC c := by
  obtain ⟨h1, h2, h3, h4, h5, h6, h7⟩ := h
  unfold letsC cntC marksC
  by_cases e1 : c.w = 0
  · have e2 : c.r = 0 := by omega
    have e3 : c.m0 = 0 := by omega
    have e4 : c.m1 = 0 := by omega
    simp [e1, e3, e4]
  · rw [if_neg e1]
    by_cases e2 : c.r = 0
    · have e3 : c.m0 = 0 := by omega
      have e4 : c.m1 = 0 := by omega
      rw [if_pos e2, if_pos (by omega : 0 < c.w)]
      simp [e3, e4]
    · rw [if_neg e2, if_pos (by omega : 0 < c.w)]
      by_cases e3 : c.m0 = 0 <;> by_cases e4 : c.m1 = 0 <;> simp [e3, e4]
theorem lets_len {l : List Cl} (h : ∀ c ∈ l, OneC c) : (lets l).length = cntL l := by
  induction l with
  | nil => rfl
  | cons c l ih =>
    have h1 := ih (fun x hx => h x (by simp [hx]))
    unfold lets cntL at h1 ⊢
    rw [List.flatMap_cons, List.length_append, lets_one (h c (by simp)), h1]
    simp
theorem fitN_nat {w a : Nat} (h : a ≤ w) : fitN w (a : Int) = a := by unfold fitN; omega
theorem lets_app (a b : List Cl) : lets (a ++ b) = lets a ++ lets b := by unfold lets; rw [List.flatMap_append]
/-- Letters from place to place, and on, are those of all. -/
theorem letters_said {r : Rw} (h : SaneR r) {lo hi : Nat} (h1 : lo ≤ hi) (h2 : hi ≤ r.cs.length) :
    lettersR r 0 (lo : Int) ++ lettersR r (lo : Int) (hi : Int) ++ lettersR r (hi : Int) (r.cs.length : Int) = lettersR r 0 (r.cs.length : Int) ∧ (lettersR r 0 (r.cs.length : Int)).length = cntL r.cs := by
  have e0 : fitN r.cs.length 0 = 0 := fitN_nat (a := 0) (Nat.zero_le _)
  unfold lettersR
  simp only [if_pos h, e0, fitN_nat h2, fitN_nat (Nat.le_trans h1 h2), fitN_nat (Nat.le_refl _), List.drop_zero, List.take_length]
  refine ⟨?_, lets_len h.2.1⟩
  rw [← lets_app, ← lets_app]
  congr 1
  have e1 : r.cs.take lo ++ (r.cs.take hi).drop lo = r.cs.take hi := by
    have := List.take_append_drop lo (r.cs.take hi)
    rwa [List.take_take, Nat.min_eq_left h1] at this
  rw [e1, List.take_append_drop]
theorem len_cases (l : List Cl) (i : Nat) : lenL i l = 0 ∨ ∃ (j : Nat) (c : Cl), l[j]? = some c ∧ (c.r ≠ 0 ∨ c.pen ≠ zeroN) ∧ lenL i l = i + j + max 1 c.w.toNat := by
  induction l generalizing i with
  | nil => exact .inl rfl
  | cons c l ih =>
    unfold lenL
    split
    · split
      · rename_i h1 h2
        exact .inr ⟨0, c, rfl, h2, by omega⟩
      · exact .inl rfl
    · rename_i h1
      rcases ih (i + 1) with h | ⟨j, d, hd, hp, he⟩
      · exact absurd h h1
      · exact .inr ⟨j + 1, d, by simpa using hd, hp, by omega⟩
theorem length_said {r : Rw} (h : SaneR r) : lengthR r ≤ r.cs.length ∧ (lengthR r = 0 ∨ ∃ d, r.cs[lengthR r - 1]? = some d ∧ (d.r ≠ 0 ∨ d.w = 0 ∨ d.pen ≠ zeroN)) := by
  unfold lengthR
  rw [if_pos h]
  rcases len_cases r.cs 0 with h0 | ⟨j, c, hc, hp, he⟩
  · rw [h0]; exact ⟨Nat.zero_le _, .inl rfl⟩
  · have hj : j < r.cs.length := (List.getElem?_eq_some_iff.1 hc).1
    have h1 := h.one hc
    have hg := h.good j
    have hw : wAt r.cs j = c.w := wAt_some hc
    by_cases h2 : c.w = 2
    · have hn : wAt r.cs (j + 1) = 0 := by unfold BadAt at hg; omega
      have hlt : j + 1 < r.cs.length := by
        rcases Nat.lt_or_ge (j + 1) r.cs.length with h | h
        · exact h
        · have := wAt_none h; omega
      have e : lenL 0 r.cs = j + 2 := by rw [he, h2]; simp
      rw [e]
      refine ⟨by omega, .inr ⟨r.cs[j + 1], ?_, .inr (.inl ?_)⟩⟩
      · rw [show j + 2 - 1 = j + 1 from rfl]; exact List.getElem?_eq_getElem hlt
      · rw [← wAt_some (List.getElem?_eq_getElem hlt)]; exact hn
    · have e : lenL 0 r.cs = j + 1 := by have := h1.1; omega
      rw [e]
      refine ⟨by omega, .inr ⟨c, hc, ?_⟩⟩
      rcases hp with hp | hp
      · exact .inl hp
      · exact .inr (.inr hp)
end Go.Proofs.Ytflpelpgnjdnkaa
