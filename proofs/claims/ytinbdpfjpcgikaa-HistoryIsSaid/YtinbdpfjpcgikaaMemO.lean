/- Rows that the call owns, from a place in their block on: cut at the front, and a row more. -/
import Derived.Test.YtinbdpfjpcgikaaBase6
namespace Go.Proofs.Ytinbdpfjpcgikaa
open Go Go.RowKit
set_option linter.unusedVariables false
set_option linter.unusedSimpArgs false

def OffG (w : World) (base : Nat) (A : Option Addr) (c : Nat) (l : List Rl) : Prop :=
  (A = none ∧ c = 0 ∧ l = []) ∨ ∃ g off cur, A = some ⟨g, off, none⟩ ∧ base ≤ g ∧ w.heap[g]? = some (.cells cur 35 (0, 0)) ∧ l.length ≤ c ∧ c ≤ maxLen ∧ off + c * 4 ≤ cur.size ∧ (cur.toList.drop off).take (l.length * 4) = flatG l
theorem OffG.of_own {w : World} {base : Nat} {A : Option Addr} {c : Nat} {l : List Rl} (h : OwnG w base A c l) : OffG w base A c l := by
  rcases h.2 with ⟨hv, hn⟩ | ⟨g, cap, cur, hv, hb, hg, hnc, hcm, hcs, ht⟩
  · injection hv with h1 h2 h3
    exact .inl ⟨h1, h3, List.eq_nil_of_length_eq_zero hn⟩
  · injection hv with h1 h2 h3
    subst h1; subst h3
    exact .inr ⟨g, 0, cur, rfl, hb, hg, hnc, hcm, by omega, by simpa using ht⟩
theorem OffG.cap {w : World} {base : Nat} {A : Option Addr} {c : Nat} {l : List Rl} (h : OffG w base A c l) : l.length ≤ c ∧ c ≤ maxLen := by
  rcases h with ⟨_, rfl, rfl⟩ | ⟨g, off, cur, _, _, _, h1, h2, _⟩
  · exact ⟨Nat.le_refl _, Nat.zero_le _⟩
  · exact ⟨h1, h2⟩
theorem OffG.block {w : World} {base : Nat} {A : Option Addr} {n c : Nat} {l : List Rl} (h : OffG w base A c l) {g : Nat} (hg : (Value.slice A n c).ownBlock = some g) : base ≤ g ∧ g < w.heap.size := by
  rcases h with ⟨rfl, _, _⟩ | ⟨g', off, cur, rfl, hb, hh, _⟩
  · simp [Value.ownBlock] at hg
  · simp [Value.ownBlock] at hg
    subst hg
    exact ⟨hb, (Array.getElem?_eq_some_iff.1 hh).1⟩
theorem OffG.at_ {w : World} {base : Nat} {A : Option Addr} {c : Nat} {l : List Rl} (h : OffG w base A c l) {j : Nat} {u : Value} (hu : (flatG l)[j]? = some u) : ∃ g off, A = some ⟨g, off, none⟩ ∧ g < w.heap.size ∧ w.cell? ⟨g, off + j, none⟩ = some u := by
  rcases h with ⟨_, _, rfl⟩ | ⟨g, off, cur, rfl, _, hh, _, _, _, ht⟩
  · simp [flatG] at hu
  · refine ⟨g, off, rfl, (Array.getElem?_eq_some_iff.1 hh).1, ?_⟩
    rw [cell_of_row w g (off + j) cur 35 (0, 0) hh]
    rw [← ht, List.getElem?_take] at hu
    split at hu
    · rw [List.getElem?_drop, Array.getElem?_toList] at hu
      exact hu
    · cases hu
theorem OffG.in_ {w : World} {base : Nat} {A : Option Addr} {c : Nat} {l : List Rl} (h : OffG w base A c l) : RdG w A c l := by
  refine ⟨fun hl => ?_, h.cap.1, h.cap.2⟩
  rcases h with ⟨_, _, rfl⟩ | ⟨g, off, cur, rfl, hb, hh, h1, h2, h3, ht⟩
  · exact absurd rfl hl
  · refine ⟨g, off, rfl, (Array.getElem?_eq_some_iff.1 hh).1, fun k e hk j u hu => ?_⟩
    have hj : j < 4 := (List.getElem?_eq_some_iff.1 hu).1
    have hf := flatG_at hk j hj
    rw [hu] at hf
    obtain ⟨g', off', e1, _, h4⟩ := OffG.at_ (.inr ⟨g, off, cur, rfl, hb, hh, h1, h2, h3, ht⟩) hf
    injection e1 with e1
    injection e1 with e1 e2
    subst e1; subst e2
    rw [Nat.add_assoc]
    exact h4
theorem OffG.on {w w' : World} {base : Nat} {A : Option Addr} {c : Nat} {l : List Rl} (h : OffG w base A c l) (hb : Below w.heap.size w w') : OffG w' base A c l := by
  rcases h with h | ⟨g, off, cur, h1, h2, h3, h4⟩
  · exact .inl h
  · exact .inr ⟨g, off, cur, h1, h2, (hb.block g (Array.getElem?_eq_some_iff.1 h3).1).trans h3, h4⟩
/-- The first row is cut off. -/
theorem OffG.tail {w : World} {base : Nat} {A : Option Addr} {c : Nat} {x : Rl} {l : List Rl} (h : OffG w base A c (x :: l)) : OffG w base (if c = 1 then A else A.map (·.add (1 * 4))) (c - 1) l := by
  rcases h with ⟨_, _, h0⟩ | ⟨g, off, cur, rfl, hb, hh, h1, h2, h3, ht⟩
  · cases h0
  · simp only [List.length_cons] at h1 ht
    by_cases hc : c = 1
    · subst hc
      obtain rfl : l = [] := List.eq_nil_of_length_eq_zero (by omega)
      exact .inr ⟨g, off, cur, by rw [if_pos rfl], hb, hh, by simp, by simp [maxLen], by omega, by simp [flatG]⟩
    · refine .inr ⟨g, off + 4, cur, by rw [if_neg hc]; simp [Addr.add], hb, hh, by omega, by omega, by omega, ?_⟩
      have e := congrArg (List.drop 4) ht
      rw [flatG_cons, List.drop_left' (rlCells_len x), List.drop_take, List.drop_drop] at e
      rw [show (l.length + 1) * 4 - 4 = l.length * 4 from by omega] at e
      exact e
section
variable {w : World} {ops : Array Oper} {rest : List Oper} {o : Oper} {a : Act} {Q : Exit → Act → World → Prop}
theorem run_append_off (t ty : TypeId) (ht : Try.prog.underlying t = some (.slice 35)) (g off n c : Nat) (cur : Array Value) (hg : w.heap[g]? = some (.cells cur 35 (0, 0)))
    (ad : Addr) (m c' : Nat) (news : List Value) (hl : news.length = m * 4) (hnews : ∀ j u, news[j]? = some u → w.cell? (ad.add j) = some u) (h1 : ∀ u ∈ news, u.oneCell' = true) (hroom : n + m ≤ c) (hfit : off + n * 4 + news.length ≤ cur.size) :
    (Builtin.append_ #[t, t] ty #[.slice (some ⟨g, off, none⟩) n c, .slice (some ad) m c']).run Try.prog w =
      .ok (.slice (some ⟨g, off, none⟩) (n + m) c) (w.setRow g (cur.toList.take (off + n * 4) ++ news ++ cur.toList.drop (off + n * 4 + news.length)).toArray) := by
  obtain ⟨i0, hi, hz0, hz1, hz2⟩ := info_parts infoRowG
  have hf := run_firstCells_some (P := Try.prog) w 4 m ad m c' news hl hnews
  have hst := run_storeCells_at Try.prog g (off + n * 4) 35 news 0 cur w hg (by simpa using hfit) h1
  simp only [Nat.add_zero] at hst
  simp [Builtin.append_, run_underlying ht, sizeOf, typeInfo, hi, hz1, Builtin.lenOf, hroom, hf, Addr.add_lit, hst]
/-- A row more. -/
theorem wpList_append_off (hgd : o.guard = none) (s x : Operand) (ho : o.op = .call { callee := .builtin .append, args := #[s, x], argTypes := #[22, 22] })
    (base c : Nat) (B : Option Addr) (l : List Rl) (n : Nat) (hs : a.eval s = .slice B n c) (hnl : n = l.length) (hown : OffG w base B c l)
    (ad : Addr) (c' : Nat) (y : Rl) (hx : a.eval x = .slice (some ad) 1 c') (hin : RdG w (some ad) c' [y]) (hb : l.length ≤ 1000000) (hbase : base ≤ w.heap.size)
    (h : ∀ B' d w', OffG w' base B' d (l ++ [y]) → Own1 w w' (.slice B l.length c) (.slice B' (l ++ [y]).length d) → wpList Try.prog ops Q rest (a.put o.dst (.slice B' (l ++ [y]).length d)) w') : wpList Try.prog ops Q (o :: rest) a w := by
  obtain ⟨i0, hi, hz0, hz1, hz2⟩ := info_parts infoRowG
  subst hnl
  have hsrc : ∀ j v, (flatG [y])[j]? = some v → w.cell? (ad.add j) = some v := hin.src rfl
  have hfl : (flatG [y]).length = 1 * 4 := flatG_len [y]
  have go : ∀ B' d w', (Builtin.append_ #[22, 22] o.type #[.slice B l.length c, .slice (some ad) 1 c']).run Try.prog w = .ok (.slice B' (l.length + 1) d) w' → OffG w' base B' d (l ++ [y]) → Own1 w w' (.slice B l.length c) (.slice B' (l.length + 1) d) → wpList Try.prog ops Q (o :: rest) a w := fun B' d w' hrun h1 h2 => by
    refine wpList_plain hgd fun K hK => ?_
    unfold Oper.wp
    simp [execOp, ho, resolve, invoke, builtin, hs, hx, hrun, Result.andThen]
    have h3 := h B' d w' h1 (by simpa using h2)
    refine hK _ _ (by simpa using h3)
  have newrow : ∀ (old : Nat) (cells : Array Value), old < l.length + 1 → cells = (flatG l).toArray ++ (flatG [y]).toArray ++ Builtin.zeroCells #[.slice none 0 0, .bool false, .int .i64 0, .bool false] (grownCap w (l.length + 1) old 35 - (l.length + 1)) →
      OffG (w.drew.alloc (.cells cells 35)) base (some ⟨w.heap.size, 0, none⟩) (grownCap w (l.length + 1) old 35) (l ++ [y]) ∧ Own1 w (w.drew.alloc (.cells cells 35)) (.slice B l.length c) (.slice (some ⟨w.heap.size, 0, none⟩) (l.length + 1) (grownCap w (l.length + 1) old 35)) := fun old cells ho' he => by
    have hge := grownCap_ge w (l.length + 1) old 35
    have hcm : grownCap w (l.length + 1) old 35 ≤ maxLen := grownCap_le_maxLen w (l.length + 1) old 35 (by unfold maxLen; omega)
    have hl1 := flatG_len l
    refine ⟨.inr ⟨w.heap.size, 0, cells, rfl, hbase, heap_alloc_new w.drew _, by rw [List.length_append]; simpa using hge, hcm, ?_, ?_⟩, ⟨⟨rfl, rfl, rfl, by simp, fun k hk _ => Below.heap_alloc w.drew _ k hk⟩, .inr fun g hg => by simp [Value.ownBlock] at hg; omega⟩⟩
    · rw [he]
      simp only [Array.size_append, List.size_toArray, size_zeroCells, hl1, hfl]
      simp
      omega
    · rw [he]
      simp only [Array.toList_append, List.drop_zero]
      rw [flatG_app, List.length_append, List.take_left']
      simp [hl1, hfl]
      omega
  rcases hown with ⟨rfl, rfl, rfl⟩ | ⟨g, off, cur, rfl, hbg, hg, h1, h2, h3, ht⟩
  · have hr := run_append_nil (P := Try.prog) w 22 o.type 35 i0 _ Try.underlying22 hi hz0 ad 1 c' (flatG [y]) (by rw [hfl, hz1]) hsrc (by omega) (by omega) (by rw [hz2]; omega)
    have hn := newrow 0 ((flatG [y]).toArray ++ Builtin.zeroCells #[.slice none 0 0, .bool false, .int .i64 0, .bool false] (grownCap w 1 0 35 - 1)) (by simp) (by simp [flatG_nil])
    exact go _ _ _ hr hn.1 hn.2
  · have hcl : cur.toList.length = cur.size := by simp
    by_cases hroom : l.length + 1 ≤ c
    · have hr := run_append_off (w := w) 22 o.type Try.underlying22 g off l.length c cur hg ad 1 c' (flatG [y]) hfl hsrc (flatG_one _) hroom (by rw [hfl]; omega)
      have hlt : off + l.length * 4 ≤ cur.toList.length := by omega
      refine go _ _ _ hr (.inr ⟨g, off, _, rfl, hbg, setRow_heap w g cur _ 35 _ hg, by rw [List.length_append]; simpa using hroom, h2, ?_, ?_⟩) ⟨⟨rfl, rfl, rfl, by simp [World.setRow], fun k _ hk => setRow_other w g k _ (fun e => hk (by rw [e]; rfl))⟩, .inl rfl⟩
      · simp only [List.size_toArray, List.length_append, List.length_take, List.length_drop, hfl]
        omega
      · show List.take ((l ++ [y]).length * 4) (List.drop off (List.take (off + l.length * 4) cur.toList ++ flatG [y] ++ List.drop (off + l.length * 4 + (flatG [y]).length) cur.toList)) = _
        have e1 : (List.take (off + l.length * 4) cur.toList).drop off = flatG l := by
          rw [List.drop_take, show off + l.length * 4 - off = l.length * 4 from by omega]
          exact ht
        rw [List.append_assoc, List.drop_append_of_le_length (by rw [List.length_take]; omega), e1, ← List.append_assoc, flatG_app, List.take_left']
        rw [List.length_append, flatG_len, hfl, List.length_append]
        simp
        omega
    · have holds : ∀ j v, (flatG l)[j]? = some v → w.cell? ((⟨g, off, none⟩ : Addr).add j) = some v := fun j v hv => by
        obtain ⟨g', off', e1, _, h4⟩ := OffG.at_ (.inr ⟨g, off, cur, rfl, hbg, hg, h1, h2, h3, ht⟩) hv
        injection e1 with e1
        injection e1 with e1 e2
        subst e1; subst e2
        have ea : (⟨g, off, none⟩ : Addr).add j = ⟨g, off + j, none⟩ := by unfold Addr.add; split <;> simp_all
        rw [ea]
        exact h4
      have hr := run_append_grow (P := Try.prog) w 22 o.type 35 i0 _ Try.underlying22 hi hz0 ⟨g, off, none⟩ l.length c (flatG l) (by rw [flatG_len, hz1]) holds ad 1 c' (flatG [y]) (by rw [hfl, hz1]) hsrc (by omega) (by omega) (growslice_fits (by omega) (by rw [hz2]; omega))
      have hn := newrow c _ (by omega) rfl
      exact go _ _ _ hr hn.1 hn.2
end
end Go.Proofs.Ytinbdpfjpcgikaa
