/- Grids, plainly (chapter 9): new, sane, sizes, rows that go up and come down, set, cleared. No program here. -/
import Derived.Test.YtcadbapccdclaaaMath08b
namespace Go.Proofs.Ytcadbapccdclaaa
set_option linter.unusedVariables false
set_option linter.unusedSimpArgs false

def widthG (g : List Rw) : Nat := ((g[0]?).map fun r => r.cs.length).getD 0
def SaneG (g : List Rw) : Prop := (1 ≤ g.length ∧ g.length ≤ 1000) ∧ ∀ r ∈ g, SaneR r ∧ r.cs.length = widthG g
instance (g : List Rw) : Decidable (SaneG g) := inferInstanceAs (Decidable (_ ∧ _))
def sizeG (g : List Rw) : Int × Int := if SaneG g then ((g.length : Int), (widthG g : Int)) else (0, 0)
def newG (h w : Int) (p : Pn) : List Rw := List.replicate (max 1 (min h 1000)).toNat (newR w p)
def MayG (g : List Rw) (t b : Int) (p : Pn) : Prop := SaneG g ∧ SaneN p ∧ 0 ≤ t ∧ t < b ∧ b ≤ g.length
instance (g : List Rw) (t b : Int) (p : Pn) : Decidable (MayG g t b p) := inferInstanceAs (Decidable (_ ∧ _ ∧ _ ∧ _ ∧ _))
def upL (g : List Rw) (t b k : Nat) (B : Rw) : List Rw := g.take t ++ ((g.take b).drop (t + k) ++ (List.replicate k B ++ g.drop b))
def downL (g : List Rw) (t b k : Nat) (B : Rw) : List Rw := g.take t ++ (List.replicate k B ++ ((g.take (b - k)).drop t ++ g.drop b))
def goneL (g : List Rw) (t k : Nat) : List Rw := (g.take (t + k)).drop t
def upG (g : List Rw) (t b n : Int) (p : Pn) : List Rw := if MayG g t b p then upL g t.toNat b.toNat (max 0 (min n (b - t))).toNat (newR (widthG g) p) else g
def goneG (g : List Rw) (t b n : Int) (p : Pn) : List Rw := if MayG g t b p then goneL g t.toNat (max 0 (min n (b - t))).toNat else []
def downG (g : List Rw) (t b n : Int) (p : Pn) : List Rw := if MayG g t b p then downL g t.toNat b.toNat (max 0 (min n (b - t))).toNat (newR (widthG g) p) else g
def setG (g : List Rw) (y : Int) (r : Rw) : List Rw := if SaneG g ∧ 0 ≤ y ∧ y < g.length ∧ SaneR r ∧ r.cs.length = widthG g then g.set y.toNat r else g
def clearL (g : List Rw) (a b : Int) (B : Rw) : List Rw := g.mapIdx fun i r => if a ≤ i ∧ (i : Int) < b then B else r
def clearG (g : List Rw) (a b : Int) (p : Pn) : List Rw := if SaneG g ∧ SaneN p then clearL g a b (newR (widthG g) p) else g
/- where what stands -/
theorem upL_len {g : List Rw} {t b k : Nat} {B : Rw} (h1 : t + k ≤ b) (h2 : b ≤ g.length) : (upL g t b k B).length = g.length := by
  unfold upL; simp only [List.length_append, List.length_take, List.length_drop, List.length_replicate]; omega
theorem downL_len {g : List Rw} {t b k : Nat} {B : Rw} (h1 : t + k ≤ b) (h2 : b ≤ g.length) : (downL g t b k B).length = g.length := by
  unfold downL; simp only [List.length_append, List.length_take, List.length_drop, List.length_replicate]; omega
theorem goneL_len {g : List Rw} {t k : Nat} (h : t + k ≤ g.length) : (goneL g t k).length = k := by
  unfold goneL; simp only [List.length_take, List.length_drop]; omega
theorem upL_at {g : List Rw} {t b k : Nat} {B : Rw} (h1 : t + k ≤ b) (h2 : b ≤ g.length) (i : Nat) :
    (upL g t b k B)[i]? = if i < t then g[i]? else if i < b - k then g[i + k]? else if i < b then some B else g[i]? := by
  unfold upL
  have l1 : (g.take t).length = t := by rw [List.length_take]; omega
  have l2 : ((g.take b).drop (t + k)).length = b - k - t := by rw [List.length_drop, List.length_take]; omega
  by_cases c1 : i < t
  · rw [if_pos c1, List.getElem?_append_left (by omega), List.getElem?_take, if_pos c1]
  · rw [if_neg c1, List.getElem?_append_right (by omega), l1]
    by_cases c2 : i < b - k
    · rw [if_pos c2, List.getElem?_append_left (by omega), List.getElem?_drop, List.getElem?_take, if_pos (by omega)]
      congr 1; omega
    · rw [if_neg c2, List.getElem?_append_right (by omega), l2]
      by_cases c3 : i < b
      · rw [if_pos c3, List.getElem?_append_left (by rw [List.length_replicate]; omega), List.getElem?_replicate, if_pos (by omega)]
      · rw [if_neg c3, List.getElem?_append_right (by rw [List.length_replicate]; omega), List.length_replicate, List.getElem?_drop]
        congr 1; omega
theorem downL_at {g : List Rw} {t b k : Nat} {B : Rw} (h1 : t + k ≤ b) (h2 : b ≤ g.length) (i : Nat) :
    (downL g t b k B)[i]? = if i < t then g[i]? else if i < t + k then some B else if i < b then g[i - k]? else g[i]? := by
  unfold downL
  have l1 : (g.take t).length = t := by rw [List.length_take]; omega
  have l2 : ((g.take (b - k)).drop t).length = b - k - t := by rw [List.length_drop, List.length_take]; omega
  by_cases c1 : i < t
  · rw [if_pos c1, List.getElem?_append_left (by omega), List.getElem?_take, if_pos c1]
  · rw [if_neg c1, List.getElem?_append_right (by omega), l1]
    by_cases c2 : i < t + k
    · rw [if_pos c2, List.getElem?_append_left (by rw [List.length_replicate]; omega), List.getElem?_replicate, if_pos (by omega)]
    · rw [if_neg c2, List.getElem?_append_right (by rw [List.length_replicate]; omega), List.length_replicate]
      by_cases c3 : i < b
      · rw [if_pos c3, List.getElem?_append_left (by omega), List.getElem?_drop, List.getElem?_take, if_pos (by omega)]
        congr 1; omega
      · rw [if_neg c3, List.getElem?_append_right (by omega), l2, List.getElem?_drop]
        congr 1; omega
theorem goneL_at {g : List Rw} {t k : Nat} (i : Nat) : (goneL g t k)[i]? = if i < k then g[t + i]? else none := by
  unfold goneL
  rw [List.getElem?_drop, List.getElem?_take]
  by_cases c : i < k
  · rw [if_pos c, if_pos (by omega)]
  · rw [if_neg c, if_neg (by omega)]
/-- One by one. -/
theorem upL_step {g : List Rw} {t b k : Nat} {B : Rw} (h1 : t + (k + 1) ≤ b) (h2 : b ≤ g.length) : upL (upL g t b k B) t b 1 B = upL g t b (k + 1) B := by
  apply List.ext_getElem?
  intro i
  have h3 := upL_len (g := g) (t := t) (b := b) (k := k) (B := B) (by omega) h2
  rw [upL_at (by omega) (by omega), upL_at (by omega) h2, upL_at (by omega) h2, upL_at (by omega) h2]
  repeat' split
  all_goals first | rfl | omega | (congr 1; omega)
theorem goneL_step {g : List Rw} {t b k : Nat} {B : Rw} (h1 : t + (k + 1) ≤ b) (h2 : b ≤ g.length) : goneL g t (k + 1) = goneL g t k ++ goneL (upL g t b k B) t 1 := by
  apply List.ext_getElem?
  intro i
  have l1 := goneL_len (g := g) (t := t) (k := k) (by omega)
  rw [goneL_at]
  by_cases c : i < k
  · rw [if_pos (by omega), List.getElem?_append_left (by omega), goneL_at, if_pos c]
  · rw [List.getElem?_append_right (by omega), l1, goneL_at]
    by_cases c2 : i < k + 1
    · rw [if_pos c2, if_pos (by omega), upL_at (by omega) h2, if_neg (by omega), if_pos (by omega)]
      congr 1; omega
    · rw [if_neg c2, if_neg (by omega)]
theorem upL_zero (g : List Rw) (t b : Nat) (B : Rw) (h1 : t ≤ b) (h2 : b ≤ g.length) : upL g t b 0 B = g := by
  apply List.ext_getElem?
  intro i
  rw [upL_at (by omega) h2]
  repeat' split
  all_goals first | rfl | omega
theorem goneL_zero (g : List Rw) (t : Nat) : goneL g t 0 = [] := by
  apply List.ext_getElem?
  intro i
  rw [goneL_at, if_neg (by omega)]; rfl
theorem clearL_len (g : List Rw) (a b : Int) (B : Rw) : (clearL g a b B).length = g.length := by simp [clearL]
theorem clearL_at (g : List Rw) (a b : Int) (B : Rw) (i : Nat) : (clearL g a b B)[i]? = (g[i]?).map fun r => if a ≤ i ∧ (i : Int) < b then B else r := by simp [clearL, List.getElem?_mapIdx]
/- what is sane -/
theorem new_saneR {n : Nat} (h1 : 1 ≤ n) (h2 : n ≤ 4096) {p : Pn} (hp : SaneN p) : SaneR (newR n p) ∧ (newR n p).cs.length = n := by
  have e : (max 1 (min (n : Int) 4096)).toNat = n := by omega
  have hl : (newR n p).cs.length = n := by unfold newR; simp only [List.length_replicate]; exact e
  have hw : ∀ i, wAt (newR n p).cs i = 1 := fun i => by
    unfold newR
    simp only
    by_cases hi : i < (max 1 (min (n : Int) 4096)).toNat
    · exact wAt_some (by rw [List.getElem?_replicate, if_pos hi])
    · exact wAt_none (by rw [List.length_replicate]; omega)
  refine ⟨⟨by omega, fun c hc => ?_, mend_same.2 fun i hb => ?_, ?_, ?_⟩, hl⟩
  · unfold newR at hc
    rw [(List.mem_replicate.1 hc).2]
    exact blank_one hp
  · unfold BadAt at hb
    rw [hw, hw, hw] at hb
    omega
  · simp [newR]
  · simp [newR]
theorem SaneG.row {g : List Rw} (h : SaneG g) {i : Nat} {r : Rw} (hr : g[i]? = some r) : SaneR r ∧ r.cs.length = widthG g := h.2 r (List.mem_of_getElem? hr)
theorem SaneG.width {g : List Rw} (h : SaneG g) : 1 ≤ widthG g ∧ widthG g ≤ 4096 := by
  have := h.1.1
  obtain ⟨r, hr⟩ : ∃ r, g[0]? = some r := ⟨_, List.getElem?_eq_getElem (by omega)⟩
  obtain ⟨h1, h2⟩ := h.row hr
  have := h1.1
  omega
/-- Rows that are sane, all as wide, make a grid. -/
theorem saneG_of {g : List Rw} {n : Nat} (h1 : 1 ≤ g.length) (h2 : g.length ≤ 1000) (h3 : ∀ (i : Nat) (r : Rw), g[i]? = some r → SaneR r ∧ r.cs.length = n) : SaneG g ∧ widthG g = n := by
  obtain ⟨r, hr⟩ : ∃ r, g[0]? = some r := ⟨_, List.getElem?_eq_getElem (by omega)⟩
  have e : widthG g = n := by unfold widthG; rw [hr]; exact (h3 0 r hr).2
  refine ⟨⟨⟨h1, h2⟩, fun x hx => ?_⟩, e⟩
  obtain ⟨i, hi, rfl⟩ := List.getElem_of_mem hx
  rw [e]
  exact h3 i _ (List.getElem?_eq_getElem hi)
theorem SaneG.sub {g g' : List Rw} {p : Pn} (h : SaneG g) (hp : SaneN p) (hl : g'.length = g.length) (hat : ∀ (i : Nat) (r : Rw), g'[i]? = some r → r = newR (widthG g) p ∨ r ∈ g) : SaneG g' ∧ widthG g' = widthG g := by
  have hw := h.width
  refine saneG_of (by rw [hl]; exact h.1.1) (by rw [hl]; exact h.1.2) fun i r hr => ?_
  rcases hat i r hr with e | e
  · rw [e]; exact new_saneR hw.1 hw.2 hp
  · exact h.2 r e
theorem upG_sane {g : List Rw} (h : SaneG g) (t b n : Int) (p : Pn) : SaneG (upG g t b n p) ∧ widthG (upG g t b n p) = widthG g ∧ (upG g t b n p).length = g.length := by
  unfold upG
  split
  · rename_i hm
    obtain ⟨_, hp, h1, h2, h3⟩ := hm
    have hl : (upL g t.toNat b.toNat (max 0 (min n (b - t))).toNat (newR (widthG g) p)).length = g.length := upL_len (by omega) (by omega)
    obtain ⟨h4, h5⟩ := h.sub hp hl (fun i r hr => by
      rw [upL_at (by omega) (by omega)] at hr
      split at hr
      · exact .inr (List.mem_of_getElem? hr)
      · split at hr
        · exact .inr (List.mem_of_getElem? hr)
        · split at hr
          · injection hr with hr; exact .inl hr.symm
          · exact .inr (List.mem_of_getElem? hr))
    exact ⟨h4, h5, hl⟩
  · exact ⟨h, rfl, rfl⟩
theorem downG_sane {g : List Rw} (h : SaneG g) (t b n : Int) (p : Pn) : SaneG (downG g t b n p) ∧ widthG (downG g t b n p) = widthG g ∧ (downG g t b n p).length = g.length := by
  unfold downG
  split
  · rename_i hm
    obtain ⟨_, hp, h1, h2, h3⟩ := hm
    have hl : (downL g t.toNat b.toNat (max 0 (min n (b - t))).toNat (newR (widthG g) p)).length = g.length := downL_len (by omega) (by omega)
    obtain ⟨h4, h5⟩ := h.sub hp hl (fun i r hr => by
      rw [downL_at (by omega) (by omega)] at hr
      split at hr
      · exact .inr (List.mem_of_getElem? hr)
      · split at hr
        · injection hr with hr; exact .inl hr.symm
        · split at hr
          · exact .inr (List.mem_of_getElem? hr)
          · exact .inr (List.mem_of_getElem? hr))
    exact ⟨h4, h5, hl⟩
  · exact ⟨h, rfl, rfl⟩
theorem setG_sane {g : List Rw} (h : SaneG g) (y : Int) (r : Rw) : SaneG (setG g y r) ∧ widthG (setG g y r) = widthG g ∧ (setG g y r).length = g.length := by
  unfold setG
  split
  · rename_i hm
    obtain ⟨_, h1, h2, h3, h4⟩ := hm
    have hl : (g.set y.toNat r).length = g.length := List.length_set
    obtain ⟨h5, h6⟩ := saneG_of (g := g.set y.toNat r) (n := widthG g) (by rw [hl]; exact h.1.1) (by rw [hl]; exact h.1.2) (fun i x hx => by
      rw [List.getElem?_set] at hx
      split at hx
      · split at hx
        · injection hx with hx; subst hx; exact ⟨h3, h4⟩
        · cases hx
      · exact h.row hx)
    exact ⟨h5, h6, hl⟩
  · exact ⟨h, rfl, rfl⟩
/-- What goes up comes down. -/
theorem scrolls_said {g : List Rw} (h : SaneG g) {t b k : Nat} (h1 : t < b) (h2 : b ≤ g.length) (h3 : t + k ≤ b) :
    let a := upG g t b k zeroN
    let c := downG a t b k zeroN
    let o := goneG g t b k zeroN
    let B := newR (widthG g) zeroN
    (SaneG a ∧ SaneG c ∧ a.length = g.length ∧ c.length = g.length ∧ o.length = k) ∧
    ∀ i, i < g.length → ((t ≤ i → i < t + k → o[i - t]? = g[i]? ∧ c[i]? = some B) ∧ (¬ (t ≤ i ∧ i < t + k) → c[i]? = g[i]?) ∧ ((i < t ∨ b ≤ i) → a[i]? = g[i]?) ∧ (b - k ≤ i → i < b → a[i]? = some B)) := by
  intro a c o B
  have hz := zeroN_sane
  have e : (max 0 (min (k : Int) ((b : Int) - t))).toNat = k := by omega
  obtain ⟨s1, s2, s3⟩ := upG_sane h t b k zeroN
  obtain ⟨s4, s5, s6⟩ := downG_sane s1 t b k zeroN
  have ea : a = upL g t b k B := by
    show upG g t b k zeroN = _
    unfold upG
    rw [if_pos ⟨h, hz, by omega, by omega, by omega⟩, e]
    rfl
  have hal : a.length = g.length := s3
  have ec : c = downL a t b k B := by
    show downG a t b k zeroN = _
    unfold downG
    rw [if_pos ⟨s1, hz, by omega, by omega, by omega⟩, e, s2]
    rfl
  have eo : o = goneL g t k := by
    show goneG g t b k zeroN = _
    unfold goneG
    rw [if_pos ⟨h, hz, by omega, by omega, by omega⟩, e]
    rfl
  have at_a := fun i => upL_at (g := g) (t := t) (b := b) (k := k) (B := B) h3 h2 i
  have at_c := fun i => downL_at (g := a) (t := t) (b := b) (k := k) (B := B) h3 (by omega) i
  refine ⟨⟨s1, s4, s3, s6.trans s3, by rw [eo]; exact goneL_len (by omega)⟩, fun i hi => ⟨fun q1 q2 => ⟨?_, ?_⟩, fun q => ?_, fun q => ?_, fun q1 q2 => ?_⟩⟩
  · rw [eo, goneL_at, if_pos (by omega)]; congr 1; omega
  · rw [ec, at_c, if_neg (by omega), if_pos q2]
  · rw [ec, at_c]
    by_cases c1 : i < t
    · rw [if_pos c1, ea, at_a, if_pos c1]
    · rw [if_neg c1, if_neg (by omega)]
      by_cases c2 : i < b
      · rw [if_pos c2, ea, at_a, if_neg (by omega), if_pos (by omega)]
        congr 1; omega
      · rw [if_neg c2, ea, at_a, if_neg c1, if_neg (by omega), if_neg c2]
  · rw [ea, at_a]
    by_cases c1 : i < t
    · rw [if_pos c1]
    · rw [if_neg c1, if_neg (by omega), if_neg (by omega)]
  · rw [ea, at_a, if_neg (by omega), if_neg (by omega), if_pos q2]
/-- A row that is set is there. -/
theorem sets_said {g : List Rw} (h : SaneG g) {k : Nat} (hk : k < g.length) (r : Rw) :
    let s := setG g k r
    let c := clearG s k (k + 1 : Nat) zeroN
    (SaneG s ∧ s.length = g.length ∧ c.length = g.length) ∧
    (∀ i, s[i]? = if i = k ∧ (SaneR r ∧ r.cs.length = widthG g) then some r else g[i]?) ∧
    (∀ x, g[k]? = some x → setG s k x = g) ∧ c[k]? = some (newR (widthG g) zeroN) := by
  intro s c
  obtain ⟨s1, s2, s3⟩ := setG_sane h (k : Int) r
  have hs : ∀ i, s[i]? = if i = k ∧ (SaneR r ∧ r.cs.length = widthG g) then some r else g[i]? := fun i => by
    show (setG g k r)[i]? = _
    unfold setG
    by_cases hm : SaneR r ∧ r.cs.length = widthG g
    · rw [if_pos ⟨h, by omega, by omega, hm.1, hm.2⟩, List.getElem?_set, show ((k : Nat) : Int).toNat = k from rfl]
      by_cases e : k = i
      · rw [if_pos e, if_pos hk, if_pos ⟨e.symm, hm⟩]
      · rw [if_neg e, if_neg (fun q => e q.1.symm)]
    · rw [if_neg (fun q => hm ⟨q.2.2.2.1, q.2.2.2.2⟩), if_neg (fun q => hm q.2)]
  have ec : c = clearL s k (k + 1 : Nat) (newR (widthG g) zeroN) := by
    show clearG s k (k + 1 : Nat) zeroN = _
    unfold clearG
    rw [if_pos ⟨s1, zeroN_sane⟩, s2]
  refine ⟨⟨s1, s3, by rw [ec, clearL_len]; exact s3⟩, hs, fun x hx => ?_, ?_⟩
  · obtain ⟨x1, x2⟩ := h.row hx
    unfold setG
    rw [if_pos ⟨s1, by omega, by rw [s3]; omega, x1, by rw [s2]; exact x2⟩]
    apply List.ext_getElem?
    intro i
    rw [List.getElem?_set, show ((k : Nat) : Int).toNat = k from rfl]
    by_cases e : k = i
    · rw [if_pos e, if_pos (by show k < (setG g k r).length; omega), ← hx, e]
    · rw [if_neg e, hs, if_neg (fun q => e q.1.symm)]
  · have hl : s.length = g.length := s3
    rw [ec, clearL_at, List.getElem?_eq_getElem (by omega)]
    simp only [Option.map_some]
    rw [if_pos (by omega)]
/-- As many one by one. -/
theorem steps_said {g : List Rw} (h : SaneG g) {t b : Nat} (h1 : t < b) (h2 : b ≤ g.length) :
    (upG g t b (0 : Nat) zeroN = g ∧ goneG g t b (0 : Nat) zeroN = []) ∧
    (∀ k, t + (k + 1) ≤ b → upG (upG g t b k zeroN) t b (1 : Nat) zeroN = upG g t b (k + 1 : Nat) zeroN ∧ goneG g t b (k + 1 : Nat) zeroN = goneG g t b k zeroN ++ goneG (upG g t b k zeroN) t b (1 : Nat) zeroN) ∧
    (∀ n : Int, (b : Int) - t ≤ n → goneG g t b n zeroN = (g.take b).drop t ∧ ∀ y, t ≤ y → y < b → (upG g t b n zeroN)[y]? = some (newR (widthG g) zeroN)) := by
  have hz := zeroN_sane
  have mg : MayG g t b zeroN := ⟨h, hz, by omega, by omega, by omega⟩
  have eU : ∀ k : Nat, t + k ≤ b → upG g t b k zeroN = upL g t b k (newR (widthG g) zeroN) := fun k hk => by
    unfold upG
    rw [if_pos mg, show (max 0 (min (k : Int) ((b : Int) - t))).toNat = k from by omega]
    rfl
  have eG : ∀ k : Nat, t + k ≤ b → goneG g t b k zeroN = goneL g t k := fun k hk => by
    unfold goneG
    rw [if_pos mg, show (max 0 (min (k : Int) ((b : Int) - t))).toNat = k from by omega]
    rfl
  refine ⟨⟨?_, ?_⟩, fun k hk => ?_, fun n hn => ?_⟩
  · rw [eU 0 (by omega)]; exact upL_zero g t b _ (by omega) h2
  · rw [eG 0 (by omega)]; exact goneL_zero g t
  · obtain ⟨s1, s2, s3⟩ := upG_sane h t b k zeroN
    have ma : MayG (upG g t b k zeroN) t b zeroN := ⟨s1, hz, by omega, by omega, by omega⟩
    have e1 : (max 0 (min ((1 : Nat) : Int) ((b : Int) - t))).toNat = 1 := by omega
    have eUk := eU k (by omega)
    have eU1 := eU (k + 1) hk
    have eG1 := eG (k + 1) hk
    have eGk := eG k (by omega)
    generalize upG g t b k zeroN = G at *
    have a1 : upG G t b (1 : Nat) zeroN = upL G t b 1 (newR (widthG g) zeroN) := by
      unfold upG
      rw [if_pos ma, e1, s2]
      rfl
    have a2 : goneG G t b (1 : Nat) zeroN = goneL G t 1 := by
      unfold goneG
      rw [if_pos ma, e1]
      rfl
    rw [a1, a2, eU1, eG1, eGk, eUk]
    exact ⟨upL_step hk h2, goneL_step hk h2⟩
  · have e2 : (max 0 (min n ((b : Int) - t))).toNat = b - t := by omega
    constructor
    · unfold goneG
      rw [if_pos mg, e2]
      show (g.take (t + (b - t))).drop t = _
      rw [show t + (b - t) = b from by omega]
    · intro y q1 q2
      unfold upG
      rw [if_pos mg, e2]
      show (upL g t b (b - t) _)[y]? = _
      rw [upL_at (by omega) h2, if_neg (by omega), if_neg (by omega), if_pos q2]
end Go.Proofs.Ytcadbapccdclaaa
