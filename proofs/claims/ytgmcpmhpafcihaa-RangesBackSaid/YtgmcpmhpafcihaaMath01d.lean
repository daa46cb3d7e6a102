/- Plain facts on tables: two tables that tell the same are the same; how many rows and how many numbers one laid over another has. -/
import Derived.Test.YtgmcpmhpafcihaaMath01c
namespace Go.Proofs.Ytgmcpmhpafcihaa
set_option linter.unusedVariables false
set_option linter.unusedSimpArgs false

theorem not_glued {l : List R3} (hr : riseF (-1) l = true) (ha : apartF l = true) {i : Nat} {x : R3} (hx : l[i]? = some x) : getF l (x.hi + 1) ≠ x.v := by
  have hxo := rise_ok hr hx
  cases hb : aftB l i x with
  | false => rw [aft_no hr hx hb]; omega
  | true =>
    obtain ⟨y, _, h1, h2⟩ := aft_yes hr ha hx hb
    rw [h1]; exact h2

theorem same_next {l m : List R3} (hl : riseF (-1) l = true) (hm : riseF (-1) m = true) (h : ∀ r, getF l r = getF m r) {k : Nat} (ht : ∀ j : Nat, j < k → l[j]? = m[j]?) {x : R3} (hx : l[k]? = some x) : ∃ y, m[k]? = some y ∧ y.lo ≤ x.lo := by
  have hxo := rise_ok hl hx
  have h1 : getF l x.lo = x.v := getF_at hl hx (inB_iff.2 ⟨Int.le_refl _, hxo.2.1⟩)
  rw [h] at h1
  rcases getF_cases m x.lo with ⟨j, z, hz, hin, _⟩ | ⟨_, h0⟩
  · have hjk : k ≤ j := by
      rcases Nat.lt_or_ge j k with hlt | hge
      · have hz' : l[j]? = some z := by rw [ht j hlt]; exact hz
        have := rise_uniq hl hz' hx hin (inB_iff.2 ⟨Int.le_refl _, hxo.2.1⟩)
        omega
      · exact hge
    have hjl := (List.getElem?_eq_some_iff.1 hz).1
    have hkl : k < m.length := by omega
    refine ⟨m[k], List.getElem?_eq_getElem hkl, ?_⟩
    rw [inB_iff] at hin
    rcases Nat.lt_or_ge k j with hlt | hge
    · have h2 := rise_lt hm (List.getElem?_eq_getElem hkl) hz hlt
      have h3 := rise_ok hm (List.getElem?_eq_getElem hkl)
      omega
    · obtain rfl : k = j := by omega
      rw [List.getElem?_eq_getElem hkl] at hz
      injection hz with hz
      subst hz
      exact hin.1
  · omega
theorem canon {l m : List R3} (hl : saneF l = true) (hm : saneF m = true) (h : ∀ r, getF l r = getF m r) : l = m := by
  obtain ⟨_, hlr, hla⟩ := sane_parts hl
  obtain ⟨_, hmr, hma⟩ := sane_parts hm
  have key : ∀ k : Nat, (∀ j : Nat, j < k → l[j]? = m[j]?) → l[k]? = m[k]? := by
    intro k ht
    cases hx : l[k]? with
    | none =>
      cases hy : m[k]? with
      | none => rfl
      | some y =>
        obtain ⟨x, hx', _⟩ := same_next hmr hlr (fun r => (h r).symm) (fun j hj => (ht j hj).symm) hy
        rw [hx] at hx'; cases hx'
    | some x =>
      obtain ⟨y, hy, h1⟩ := same_next hlr hmr h ht hx
      obtain ⟨x', hx', h2⟩ := same_next hmr hlr (fun r => (h r).symm) (fun j hj => (ht j hj).symm) hy
      rw [hx] at hx'; injection hx' with hx'; subst hx'
      have hxo := rise_ok hlr hx
      have hyo := rise_ok hmr hy
      have hlo : x.lo = y.lo := by omega
      have hv : x.v = y.v := by
        rw [← getF_at hlr hx (inB_iff.2 ⟨Int.le_refl _, hxo.2.1⟩), ← getF_at hmr hy (inB_iff.2 ⟨Int.le_refl _, hyo.2.1⟩), hlo, h]
      have hhi : x.hi = y.hi := by
        rcases Int.lt_trichotomy x.hi y.hi with hlt | he | hgt
        · exfalso
          have h3 := not_glued hlr hla hx
          rw [h, getF_at hmr hy (inB_iff.2 ⟨by omega, by omega⟩)] at h3
          exact h3 hv.symm
        · exact he
        · exfalso
          have h3 := not_glued hmr hma hy
          rw [← h, getF_at hlr hx (inB_iff.2 ⟨by omega, by omega⟩)] at h3
          exact h3 hv
      rw [hy]
      cases x; cases y; simp at hlo hv hhi ⊢; exact ⟨hlo, hhi, hv⟩
  apply List.ext_getElem?
  intro k
  induction k using Nat.strongRecOn with
  | ind k ih => exact key k ih

theorem join_lay_get {a b : List R3} (ha : riseF (-1) a = true) (hb : riseF (-1) b = true) (r : Int) : getF (joinF (layF a b)) r = if getF b r = 0 then getF a r else getF b r := by
  obtain ⟨h1, h2⟩ := lay_ok ha hb
  rw [join_get h1, h2]

/-! How many rows. -/
theorem nodup_sub {l s : List Int} (hn : l.Nodup) (hs : ∀ x ∈ l, x ∈ s) : l.length ≤ s.length := by
  induction l generalizing s with
  | nil => simp
  | cons x l ih =>
    rw [List.nodup_cons] at hn
    have hx := hs x (by simp)
    have h1 := ih (s := s.erase x) hn.2 (fun y hy => by
      refine (List.mem_erase_of_ne ?_).2 (hs y (by simp [hy]))
      rintro rfl
      exact hn.1 hy)
    have h2 := List.length_erase_of_mem hx
    have h3 := List.length_pos_of_mem hx
    simp only [List.length_cons]
    omega
theorem rise_nodup {last : Int} {l : List R3} (h : riseF last l = true) : (l.map R3.lo).Nodup := by
  induction l generalizing last with
  | nil => simp
  | cons x l ih =>
    simp only [riseF, Bool.and_eq_true, okb_iff] at h
    rw [List.map_cons, List.nodup_cons]
    refine ⟨fun hm => ?_, ih h.2⟩
    obtain ⟨y, hy, he⟩ := List.mem_map.1 hm
    obtain ⟨k, hk⟩ := List.mem_iff_getElem?.1 hy
    have := rise_ok h.2 hk
    omega
def starts (a b : List R3) : List Int := 0 :: (a.map R3.lo ++ (b.map R3.lo ++ b.map fun x => x.hi + 1))
theorem pieces_starts {lo hi : Int} {m : List R3} : ∀ y ∈ pieces lo hi m, y.lo = lo ∨ ∃ z ∈ m, y.lo = z.lo := by
  induction m with
  | nil => intro y hy; simp [pieces] at hy
  | cons x m ih =>
    intro y hy
    unfold pieces at hy
    split at hy
    · simp at hy
    · rw [List.mem_cons] at hy
      rcases hy with rfl | hy
      · by_cases hq : x.lo ≤ lo
        · left; simp only [clip]; omega
        · right; exact ⟨x, by simp, by simp only [clip]; omega⟩
      · rcases ih y hy with h1 | ⟨z, hz, he⟩
        · exact .inl h1
        · exact .inr ⟨z, by simp [hz], he⟩
theorem between_starts {lo hi : Int} {a : List R3} : ∀ y ∈ betweenF a lo hi, y.lo = lo ∨ ∃ z ∈ a, y.lo = z.lo := by
  intro y hy
  unfold betweenF at hy
  split at hy
  · simp at hy
  · rcases pieces_starts y hy with h1 | ⟨z, hz, he⟩
    · exact .inl h1
    · exact .inr ⟨z, (List.dropWhile_sublist _).subset hz, he⟩
theorem layTo_starts (a b : List R3) : ((layTo a b).2 = 0 ∨ ∃ z ∈ b, (layTo a b).2 = z.hi + 1) ∧ ∀ y ∈ (layTo a b).1, y.lo ∈ starts a b := by
  induction b using snoc_ind with
  | h0 => exact ⟨.inl rfl, fun y hy => by simp [layTo] at hy⟩
  | h1 b x ih =>
    rw [layTo_snoc]
    obtain ⟨i1, i2⟩ := ih
    refine ⟨.inr ⟨x, by simp, rfl⟩, fun y hy => ?_⟩
    have up : ∀ q, q ∈ starts a b → q ∈ starts a (b ++ [x]) := fun q hq => by
      simp only [starts, List.mem_cons, List.mem_append, List.map_append, List.map_cons, List.map_nil, List.not_mem_nil, or_false] at hq ⊢
      rcases hq with h | h | h | h
      · exact .inl h
      · exact .inr (.inl h)
      · exact .inr (.inr (.inl (.inl h)))
      · exact .inr (.inr (.inr (.inl h)))
    simp only [layStep, List.mem_append, List.mem_cons, List.not_mem_nil, or_false] at hy
    rcases hy with (hy | hy) | rfl
    · exact up _ (i2 y hy)
    · rcases between_starts y hy with h1 | ⟨z, hz, he⟩
      · refine up _ ?_
        rw [h1]
        rcases i1 with h2 | ⟨z, hz, h2⟩
        · rw [h2]; simp [starts]
        · rw [h2]
          simp only [starts, List.mem_cons, List.mem_append, List.mem_map]
          exact .inr (.inr (.inr ⟨z, hz, rfl⟩))
      · rw [he]
        simp only [starts, List.mem_cons, List.mem_append, List.mem_map]
        exact .inr (.inl ⟨z, hz, rfl⟩)
    · simp [starts]
theorem lay_len {a b : List R3} (ha : riseF (-1) a = true) (hb : riseF (-1) b = true) : (layF a b).length ≤ a.length + 2 * b.length + 1 := by
  have hn := rise_nodup (lay_ok ha hb).1
  have hs : ∀ q ∈ (layF a b).map R3.lo, q ∈ starts a b := by
    intro q hq
    obtain ⟨y, hy, rfl⟩ := List.mem_map.1 hq
    obtain ⟨i1, i2⟩ := layTo_starts a b
    unfold layF at hy
    rw [List.mem_append] at hy
    rcases hy with hy | hy
    · exact i2 y hy
    · rcases between_starts y hy with h1 | ⟨z, hz, he⟩
      · rw [h1]
        rcases i1 with h2 | ⟨z, hz, h2⟩
        · rw [h2]; simp [starts]
        · rw [h2]
          simp only [starts, List.mem_cons, List.mem_append, List.mem_map]
          exact .inr (.inr (.inr ⟨z, hz, rfl⟩))
      · rw [he]
        simp only [starts, List.mem_cons, List.mem_append, List.mem_map]
        exact .inr (.inl ⟨z, hz, rfl⟩)
  have := nodup_sub hn hs
  simp only [starts, List.length_map, List.length_cons, List.length_append] at this
  omega

/-! How many numbers. -/
def has (l : List R3) (q : Nat) : Bool := decide (getF l q ≠ 0)
def cnt (l : List R3) : Nat := (List.range 1114112).countP (has l)
theorem countP_or {p q : Nat → Bool} (l : List Nat) : l.countP (fun x => p x || q x) + l.countP (fun x => p x && q x) = l.countP p + l.countP q := by
  induction l with
  | nil => rfl
  | cons x l ih =>
    simp only [List.countP_cons]
    cases p x <;> cases q x <;> simp <;> omega
theorem countP_span (n lo hi : Nat) (h : lo ≤ hi) : (List.range n).countP (fun q => decide (lo ≤ q ∧ q ≤ hi)) = min n (hi + 1) - min n lo := by
  induction n with
  | zero => simp
  | succ n ih =>
    rw [List.range_succ, List.countP_append, ih]
    simp only [List.countP_cons, List.countP_nil]
    by_cases h1 : lo ≤ n ∧ n ≤ hi
    · simp only [h1, and_self, decide_true, if_true]; omega
    · simp only [h1, decide_false]; simp; omega
theorem tot_cnt {last : Int} {l : List R3} (h : riseF last l = true) (h0 : -1 ≤ last) : totF l = (cnt l : Int) := by
  induction l generalizing last with
  | nil =>
    have : cnt [] = 0 := by
      unfold cnt
      rw [List.countP_eq_zero]
      intro q _
      simp [has, getF_nil]
    rw [this]; rfl
  | cons x l ih =>
    simp only [riseF, Bool.and_eq_true, okb_iff] at h
    obtain ⟨⟨h1, h2, h3, h4, _⟩, hr⟩ := h
    have i := ih hr (by omega)
    have e : cnt (x :: l) = (List.range 1114112).countP (fun q => decide (x.lo.toNat ≤ q ∧ q ≤ x.hi.toNat) || has l q) := by
      unfold cnt
      congr 1
      funext q
      unfold has
      rw [getF_cons]
      by_cases hin : inB (q : Int) x = true
      · rw [if_pos hin]
        rw [inB_iff] at hin
        rw [show decide (x.v ≠ 0) = true by simp; omega, show decide (x.lo.toNat ≤ q ∧ q ≤ x.hi.toNat) = true by simp; omega]; rfl
      · rw [if_neg hin]
        rw [inB_iff] at hin
        rw [show decide (x.lo.toNat ≤ q ∧ q ≤ x.hi.toNat) = false by simp; omega]; rfl
    have hz : (List.range 1114112).countP (fun q => decide (x.lo.toNat ≤ q ∧ q ≤ x.hi.toNat) && has l q) = 0 := by
      rw [List.countP_eq_zero]
      intro q _
      simp only [Bool.and_eq_true, decide_eq_true_eq, has, not_and]
      intro hq
      rw [getF_low hr (by omega)]
      simp
    have ho := countP_or (p := fun q => decide (x.lo.toNat ≤ q ∧ q ≤ x.hi.toNat)) (q := has l) (List.range 1114112)
    rw [hz, countP_span _ _ _ (by omega)] at ho
    have hc : cnt l = (List.range 1114112).countP (has l) := rfl
    rw [← hc] at ho
    rw [← e] at ho
    simp only [totF]
    rw [i]
    omega
theorem cnt_le {l m : List R3} (h : ∀ r, getF l r ≠ 0 → getF m r ≠ 0) : cnt l ≤ cnt m := by
  unfold cnt
  apply List.countP_mono_left
  intro q _ hq
  simp only [has, decide_eq_true_eq] at hq ⊢
  exact h _ hq
theorem cnt_or {l m o : List R3} (h : ∀ r, getF o r ≠ 0 → getF l r ≠ 0 ∨ getF m r ≠ 0) : cnt o ≤ cnt l + cnt m := by
  have h1 : cnt o ≤ (List.range 1114112).countP (fun q => has l q || has m q) := by
    unfold cnt
    apply List.countP_mono_left
    intro q _ hq
    simp only [has, decide_eq_true_eq, Bool.or_eq_true] at hq ⊢
    exact h _ hq
  have h2 := countP_or (p := has l) (q := has m) (List.range 1114112)
  unfold cnt at *
  omega
end Go.Proofs.Ytgmcpmhpafcihaa
