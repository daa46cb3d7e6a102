/- What the statements of chapter 8 say of rows, plainly: what is put, erased, moved; letters. No program here. -/
import Derived.Test.YtcadbapccdclaaaMath08
namespace Go.Proofs.Ytcadbapccdclaaa
set_option linter.unusedVariables false
set_option linter.unusedSimpArgs false

theorem Rw.same {r : Rw} {l : List Cl} (h : l = r.cs) : { r with cs := l } = r := by subst h; rfl
theorem SaneR.good {r : Rw} (h : SaneR r) (i : Nat) : ¬ BadAt r.cs i := mend_same.1 h.2.2.1 i
theorem w_iff {l m : List Cl} {i : Nat} (h : l[i]? = m[i]?) : wAt l i = wAt m i := by unfold wAt; rw [h]
/- What is put is there. -/
theorem put_len (l : List Cl) (k : Nat) (c : Cl) : (putL l k c).length = l.length := by unfold putL; split <;> simp
theorem put_at {l : List Cl} {k : Nat} (c : Cl) (hk : k < l.length) (i : Nat) :
    (putL l k c)[i]? = if i = k then some c else if c.w = 2 ∧ i = k + 1 then (l[i]?).map (fun _ => halfC c.pen) else l[i]? := by
  unfold putL
  by_cases h2 : c.w = 2
  · rw [if_pos h2]
    by_cases h1 : i = k
    · subst h1
      rw [if_pos rfl, List.getElem?_set_ne (by omega), List.getElem?_set_self hk]
    · rw [if_neg h1]
      by_cases h3 : i = k + 1
      · subst h3
        rw [if_pos ⟨h2, rfl⟩]
        by_cases h4 : k + 1 < l.length
        · rw [List.getElem?_set_self (by simpa using h4), List.getElem?_eq_getElem h4]; rfl
        · rw [List.getElem?_eq_none (by simp; omega), List.getElem?_eq_none (by omega)]; rfl
      · rw [if_neg (by omega), List.getElem?_set_ne (by omega), List.getElem?_set_ne (by omega)]
  · rw [if_neg h2]
    by_cases h1 : i = k
    · subst h1
      rw [if_pos rfl, List.getElem?_set_self hk]
    · rw [if_neg h1, if_neg (by omega), List.getElem?_set_ne (by omega)]
/-- What a put cell's neighbours are. -/
theorem put_w {l : List Cl} {k : Nat} {c : Cl} (hk : k < l.length) (hw : k + c.w ≤ l.length) (hc : c.w = 1 ∨ c.w = 2) (i : Nat) :
    wAt (putL l k c) i = if i = k then c.w else if c.w = 2 ∧ i = k + 1 then 0 else wAt l i := by
  unfold wAt
  rw [put_at c hk]
  split
  · rfl
  split
  · rename_i h1 h2
    rw [List.getElem?_eq_getElem (by omega : i < l.length)]
    rfl
  · rfl
theorem put_good {l : List Cl} {k : Nat} {c : Cl} (hl : ∀ i, ¬ BadAt l i) (hk : k < l.length) (hw : k + c.w ≤ l.length) (hc : c.w = 1 ∨ c.w = 2) (i : Nat) (h : BadAt (putL l k c) i) : i + 1 = k ∨ (i : Int) = k + c.w := by
  have h0 := hl i
  unfold BadAt at h h0
  have w1 := put_w hk hw hc i
  have w2 := put_w hk hw hc (i + 1)
  have w3 := put_w hk hw hc (i - 1)
  rw [w1, w2, w3] at h
  by_cases e1 : i = k
  · subst e1
    exfalso
    rw [if_pos rfl, if_neg (by omega)] at h
    rcases hc with e | e
    · omega
    · rw [if_pos ⟨e, rfl⟩] at h; omega
  by_cases e2 : c.w = 2 ∧ i = k + 1
  · exfalso
    obtain ⟨e2, rfl⟩ := e2
    rw [if_neg e1, if_pos ⟨e2, rfl⟩, show k + 1 - 1 = k from rfl, if_pos rfl] at h
    omega
  rw [if_neg e1, if_neg e2] at h
  by_cases e3 : i + 1 = k
  · exact .inl e3
  by_cases e4 : (i : Int) = k + c.w
  · exact .inr e4
  exfalso
  rw [if_neg e3] at h
  rcases h with ⟨ha, hb⟩ | ⟨ha, hb⟩
  · rw [if_neg (by omega)] at hb
    exact h0 (.inl ⟨ha, hb⟩)
  · rcases hb with hb | hb
    · exact h0 (.inr ⟨ha, .inl hb⟩)
    · by_cases e5 : i = 0
      · exact h0 (.inr ⟨ha, .inl e5⟩)
      · rw [if_neg (by omega), if_neg (by omega)] at hb
        exact h0 (.inr ⟨ha, .inr hb⟩)
theorem one_w {c : Cl} (h : OneC c) (h0 : c.w ≠ 0) : c.w = 1 ∨ c.w = 2 := by have := h.1; omega
theorem puts_len (r : Rw) (k : Int) (c : Cl) : (putR r k c).cs.length = r.cs.length := by
  unfold putR; split
  · simp only [mend_len, put_len]
  · rfl
/-- What is put is there, and all else as it was, but for halves. -/
theorem puts_said {r : Rw} (h : SaneR r) {k : Nat} (hk : k < r.cs.length) (c : Cl) :
    ((putR r k c).cs[k]? ≠ some c → putR r k c = r) ∧
    ((putR r k c).cs[k]? = some c → ∀ i, i < r.cs.length → (k ≤ i ∧ (i : Int) < k + c.w) ∨ (putR r k c).cs[i]? = r.cs[i]? ∨ ((i + 1 = k ∨ (i : Int) = k + c.w) ∧ (putR r k c).cs[i]? = (r.cs[i]?).map fun d => blankC d.pen)) ∧
    ((putR r k c).cs[k]? = some c → c.w = 2 → (putR r k c).cs[k + 1]? = some (halfC c.pen)) ∧
    ((putR r k c).cs[k]? = some c → putR (putR r k c) k c = putR r k c) := by
  by_cases hc : SaneR r ∧ OneC c ∧ c.w ≠ 0 ∧ 0 ≤ (k : Int) ∧ (k : Int) + c.w ≤ r.cs.length
  · have hs : putR r k c = { r with cs := mendL (putL r.cs k c) } := by
      unfold putR; rw [if_pos hc, Int.toNat_natCast]
    have hw12 := one_w hc.2.1 hc.2.2.1
    have hkw := hc.2.2.2.2
    have hgood := put_good h.good hk hkw hw12
    have hself : (mendL (putL r.cs k c))[k]? = some c := by
      rw [mend_good (fun hb => by have := hgood k hb; omega), put_at c hk, if_pos rfl]
    have hhalf : c.w = 2 → (mendL (putL r.cs k c))[k + 1]? = some (halfC c.pen) := fun h2 => by
      rw [mend_good (fun hb => by have := hgood (k + 1) hb; omega), put_at c hk, if_neg (by omega), if_pos ⟨h2, rfl⟩, List.getElem?_eq_getElem (by omega : k + 1 < r.cs.length)]
      rfl
    rw [hs]
    refine ⟨fun hn => absurd hself hn, fun _ i hi => ?_, fun _ => hhalf, fun _ => ?_⟩
    · by_cases hin : k ≤ i ∧ (i : Int) < k + c.w
      · exact .inl hin
      · right
        have hpi : (putL r.cs k c)[i]? = r.cs[i]? := by
          rw [put_at c hk, if_neg (by omega), if_neg (by omega)]
        by_cases hb : BadAt (putL r.cs k c) i
        · exact .inr ⟨hgood i hb, by simp only [mend_at, hpi, if_pos hb]⟩
        · exact .inl (by simp only [mend_good hb, hpi])
    · unfold putR
      split
      · rename_i h2
        refine Rw.same ?_
        simp only at h2
        simp only [Int.toNat_natCast]
        have e : putL (mendL (putL r.cs k c)) k c = mendL (putL r.cs k c) := by
          apply List.ext_getElem?
          intro i
          rw [put_at c (by rw [mend_len, put_len]; exact hk)]
          split
          · rename_i h1; subst h1; exact hself.symm
          split
          · rename_i h1 h2
            rw [h2.2, hhalf h2.1]; rfl
          · rfl
        rw [e, mend_twice]
      · rfl
  · have hs : putR r k c = r := by unfold putR; rw [if_neg hc]
    rw [hs]
    refine ⟨fun _ => rfl, fun _ i _ => .inr (.inl rfl), fun hkc h2 => ?_, fun _ => hs⟩
    exfalso
    have h1 := h.one hkc
    have hg := h.good k
    have hw : wAt r.cs k = 2 := by rw [wAt_some hkc]; exact h2
    have hnext : wAt r.cs (k + 1) = 0 := by unfold BadAt at hg; omega
    have hlt : k + 1 < r.cs.length := by
      rcases Nat.lt_or_ge (k + 1) r.cs.length with h | h
      · exact h
      · have := wAt_none h; omega
    exact hc ⟨h, h1, by omega, by omega, by omega⟩
/- What is erased is blank. -/
theorem erase_len (l : List Cl) (a b : Int) (p : Pn) : (eraseL l a b p).length = l.length := by simp [eraseL]
theorem erase_at (l : List Cl) (a b : Int) (p : Pn) (i : Nat) : (eraseL l a b p)[i]? = (l[i]?).map fun c => if a ≤ (i : Int) ∧ (i : Int) < b then blankC p else c := by simp [eraseL, List.getElem?_mapIdx]
theorem erase_out {l : List Cl} {a b : Int} {p : Pn} {i : Nat} (h : ¬ (a ≤ (i : Int) ∧ (i : Int) < b)) : (eraseL l a b p)[i]? = l[i]? := by
  rw [erase_at]
  cases l[i]? with
  | none => rfl
  | some c => simp [h]
theorem erase_w {l : List Cl} {a b : Int} {p : Pn} (i : Nat) : wAt (eraseL l a b p) i = if a ≤ (i : Int) ∧ (i : Int) < b then 1 else wAt l i := by
  unfold wAt
  rw [erase_at]
  cases l[i]? with
  | none => simp
  | some c =>
    simp only [Option.map_some, Option.getD_some]
    split <;> rfl
theorem erase_good {l : List Cl} (hl : ∀ i, ¬ BadAt l i) {a b : Int} {p : Pn} {i : Nat} (h : BadAt (eraseL l a b p) i) : ¬ (a ≤ (i : Int) ∧ (i : Int) < b) ∧ ((i : Int) = a - 1 ∨ (i : Int) = b) := by
  have h0 := hl i
  unfold BadAt at h h0
  rw [erase_w, erase_w, erase_w] at h
  by_cases e1 : a ≤ (i : Int) ∧ (i : Int) < b
  · rw [if_pos e1] at h; omega
  rw [if_neg e1] at h
  refine ⟨e1, ?_⟩
  rcases h with ⟨h1, h2⟩ | ⟨h1, h2⟩
  · left
    split at h2
    · omega
    · exact absurd (.inl ⟨h1, h2⟩) h0
  · right
    by_cases e5 : i = 0
    · exact absurd (.inr ⟨h1, .inl e5⟩) h0
    rcases h2 with h2 | h2
    · omega
    · split at h2
      · omega
      · exact absurd (.inr ⟨h1, .inr h2⟩) h0
theorem erases_len (r : Rw) (a b : Int) (p : Pn) : (eraseR r a b p).cs.length = r.cs.length := by
  unfold eraseR; split
  · simp only [mend_len, erase_len]
  · rfl
theorem erases_none {r : Rw} {a b : Int} {p : Pn} (h : ¬ SaneN p) : eraseR r a b p = r := by unfold eraseR; rw [if_neg (fun k => h k.2)]
theorem erases_said {r : Rw} (h : SaneR r) (a b : Int) {p : Pn} (hp : SaneN p) :
    (∀ i, i < r.cs.length → if a ≤ (i : Int) ∧ (i : Int) < b then (eraseR r a b p).cs[i]? = some (blankC p) else (eraseR r a b p).cs[i]? = r.cs[i]? ∨ (((i : Int) = a - 1 ∨ (i : Int) = b) ∧ (eraseR r a b p).cs[i]? = (r.cs[i]?).map fun d => blankC d.pen)) ∧
    eraseR (eraseR r a b p) a b p = eraseR r a b p := by
  have hs : eraseR r a b p = { r with cs := mendL (eraseL r.cs a b p) } := by unfold eraseR; rw [if_pos ⟨h, hp⟩]
  have hin : ∀ i, i < r.cs.length → a ≤ (i : Int) ∧ (i : Int) < b → (mendL (eraseL r.cs a b p))[i]? = some (blankC p) := fun i hi hab => by
    rw [mend_good (fun hb => (erase_good h.good hb).1 hab), erase_at, List.getElem?_eq_getElem hi, Option.map_some, if_pos hab]
  rw [hs]
  refine ⟨fun i hi => ?_, ?_⟩
  · split
    · rename_i hab; exact hin i hi hab
    · rename_i hab
      by_cases hb : BadAt (eraseL r.cs a b p) i
      · exact .inr ⟨(erase_good h.good hb).2, by simp only [mend_at, if_pos hb, erase_out hab]⟩
      · exact .inl (by simp only [mend_good hb, erase_out hab])
  · unfold eraseR
    split
    · refine Rw.same ?_
      simp only
      have e : eraseL (mendL (eraseL r.cs a b p)) a b p = mendL (eraseL r.cs a b p) := by
        apply List.ext_getElem?
        intro i
        by_cases hab : a ≤ (i : Int) ∧ (i : Int) < b
        · rw [erase_at]
          rcases Nat.lt_or_ge i r.cs.length with hi | hi
          · rw [hin i hi hab, Option.map_some, if_pos hab]
          · rw [List.getElem?_eq_none (by rw [mend_len, erase_len]; exact hi)]; rfl
        · exact erase_out hab
      rw [e, mend_twice]
    · rfl
end Go.Proofs.Ytcadbapccdclaaa
