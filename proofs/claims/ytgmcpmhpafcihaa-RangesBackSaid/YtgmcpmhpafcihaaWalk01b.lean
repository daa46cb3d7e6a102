/- ours, theirs, table, join, Make, by their contracts. -/
import Derived.Test.YtgmcpmhpafcihaaWalk01a
namespace Go.Proofs.Ytgmcpmhpafcihaa
open Go Go.RowKit
set_option linter.unusedVariables false
set_option linter.unusedSimpArgs false

theorem infoRow : (Try.prog.info? 47).map (fun i => (i.zero, i.size, i.bytes)) = some (some (.agg #[.int .i64 0, .int .i64 0, .int .i64 0]), 3, 24) := by kernel_rfl
theorem infoLRow : (Try.prog.info? 40).map (fun i => (i.zero, i.size, i.bytes)) = some (some (.agg #[.int .i64 0, .int .i64 0, .int .i64 0]), 3, 24) := by kernel_rfl

theorem ownFlat_len {w : World} {base : Nat} {e : TypeId} {v : Value} {n : Nat} {l : List R3} (h : w.ownsRow base e 3 v n (flat l)) : n = l.length := by
  have := h.1
  rw [flat_length] at this
  omega
theorem own_form {w : World} {base : Nat} {e : TypeId} {v : Value} {n : Nat} {xs : List Value} (h : w.ownsRow base e 3 v n xs) : ∃ A c, v = .slice A n c ∧ n ≤ c := by
  rcases h.2 with ⟨rfl, rfl⟩ | ⟨g, cap, cur, rfl, _, _, h, _⟩
  · exact ⟨none, 0, rfl, Nat.le_refl _⟩
  · exact ⟨_, _, rfl, h⟩

set_option maxHeartbeats 400000 in
theorem ours_c (A : Option Addr) (l : List R3) (c : Nat) (w : World) (hn : l.length ≤ 1000) (h : Tab w w.heap.size A l) :
    Calls Try.prog 10 #[.slice A l.length c] w fun e w' => ∃ A' c', e = .returned (.slice A' l.length c') ∧ w'.ownsRow w.heap.size 47 3 (.slice A' l.length c') l.length (flat l) ∧ Below w.heap.size w w' := by
  obtain ⟨i0, hi, hz0, hz1, hz2⟩ := info_parts infoRow
  go_enter Try.func10, Try.ntmps10
  go_wp2
  go_loopw [3, 4] (fun v i wr => ∃ k : Nat, k ≤ l.length ∧ i = .int .i64 k ∧ wr.ownsRow w.heap.size 47 3 v k (flat (l.take k)) ∧ Below w.heap.size w wr) (fun _ i _ => l.length - (intOf i).toNat)
  case atStart => exact ⟨0, Nat.zero_le _, rfl, World.ownsRow_nil _ _ _ _, Below.refl _ _⟩
  case round =>
    obtain ⟨k, hk, rfl, hown, hbel⟩ := hrel
    by_cases hlt : k < l.length
    · have hg : l[k]? = some l[k] := List.getElem?_eq_getElem hlt
      generalize l[k] = x at *
      obtain ⟨b, o, rfl, hb, h0⟩ := h.at_ hg
      obtain ⟨h1, h2, h3⟩ := h0.below hbel hb
      have ht : flat (l.take (k + 1)) = flat (l.take k) ++ rowCells x := by rw [take_snoc hg, flat_append]; simp [flat]
      have HT := Lib.hid ht
      clear hg ht h0 h
      go_wp2_with fail
      refine region_plan [([0, 1, 2, 3, 4, 5, 6, 7, 8, 9, 10, 11, 12, 13, 14, 15, 16], [17, 18]), ([19], [])] (fun w' => ∃ u : Ext wr w.heap.size, w' = u.val) (by kernel_rfl) (by kernel_rfl) (fun _ _ _ _ _ h => h) ⟨⟨_, (Below.refl _ _).drew⟩, rfl⟩ ?_
      have h1' := Ext.cell (B := w.heap.size) (w := wr) hb h1
      have h2' := Ext.cell (B := w.heap.size) (w := wr) hb h2
      have h3' := Ext.cell (B := w.heap.size) (w := wr) hb h3
      simp only [wpPlan, sel, List.take_succ_cons, List.take_zero, List.drop_succ_cons, List.drop_zero, List.cons_append, List.nil_append]
      repeat (go_big_quiet_step (fail))
      refine wpQuiet_nil ?_
      unfold wpChain
      go_wp2_with fail
      refine ⟨⟨⟨_, ((Below.refl _ _).alloc hbel.size _).drew⟩, rfl⟩, ?_⟩
      unfold wpChain
      go_wp2_with (at_builtin; refine wpList_append_own _ rfl _ _ 25 rfl w.heap.size 47 i0 _ 3 24 Try.underlying25 hi hz0 hz1 hz2 rfl (by decide) _ _ _ rfl ((hown.alloc _).drew) ⟨wr.heap.size, 0, none⟩ 1 1 (rowCells x) rfl rfl ?c1 ?c2 ?c3 ?c4 ?c5 ?_)
      case c1 =>
        intro j u hj
        match j, hj with
        | 0, hj => simp [rowCells] at hj; subst hj; simp [Addr.add]
        | 1, hj => simp [rowCells] at hj; subst hj; simp [Addr.add]
        | 2, hj => simp [rowCells] at hj; subst hj; simp [Addr.add]
      case c2 => intro u hu; simp [rowCells] at hu; rcases hu with rfl | rfl | rfl <;> rfl
      case c3 => unfold maxLen; omega
      case c4 => omega
      case c5 => have := hbel.size; simp; omega
      intro v' w1 hown1 hgrow _
      have hown2 : w1.ownsRow w.heap.size 47 3 v' (k + 1) (flat (l.take (k + 1))) := by rw [HT.out]; exact hown1
      have hbel2 : Below w.heap.size wr w1 := (((Below.refl _ _).alloc hbel.size _).drew).grown hgrow (by have := hbel.size; simp; omega) (fun j hj => (hown.lt j hj).1)
      clear hown1 hgrow h1 h2 h3 h1' h2' h3'
      go_wp2
      refine ⟨⟨⟨_, hbel2⟩, rfl⟩, ?_⟩
      unfold wpChain
      repeat (go_big_quiet_step (fail))
      refine wpQuiet_nil ?_
      unfold wpChain
      go_wp2
      exact ⟨⟨k + 1, by omega, by go_num, hown2, hbel.trans hbel2⟩, by simp [intOf]; omega⟩
    · have hkl : k = l.length := by omega
      have hown2 : wr.ownsRow w.heap.size 47 3 u3 l.length (flat l) := by rw [List.take_of_length_le (by omega)] at hown; rw [← hkl]; exact hown
      obtain ⟨A', c', rfl, hc'⟩ := own_form hown2
      clear hown hkl
      go_wp2
      go_ret
      exact ⟨A', c', rfl, hown2, hbel⟩
set_option maxHeartbeats 400000 in
theorem theirs_c (A : Option Addr) (l : List R3) (c : Nat) (w : World) (hn : l.length ≤ 100000) (h : Tab w w.heap.size A l) :
    Calls Try.prog 14 #[.slice A l.length c] w fun e w' => ∃ A' c', e = .returned (.slice A' l.length c') ∧ w'.ownsRow w.heap.size 40 3 (.slice A' l.length c') l.length (flat l) ∧ Below w.heap.size w w' := by
  obtain ⟨i0, hi, hz0, hz1, hz2⟩ := info_parts infoLRow
  go_enter Try.func14, Try.ntmps14
  go_wp2
  go_loopw [3, 4] (fun v i wr => ∃ k : Nat, k ≤ l.length ∧ i = .int .i64 k ∧ wr.ownsRow w.heap.size 40 3 v k (flat (l.take k)) ∧ Below w.heap.size w wr) (fun _ i _ => l.length - (intOf i).toNat)
  case atStart => exact ⟨0, Nat.zero_le _, rfl, World.ownsRow_nil _ _ _ _, Below.refl _ _⟩
  case round =>
    obtain ⟨k, hk, rfl, hown, hbel⟩ := hrel
    by_cases hlt : k < l.length
    · have hg : l[k]? = some l[k] := List.getElem?_eq_getElem hlt
      generalize l[k] = x at *
      obtain ⟨b, o, rfl, hb, h0⟩ := h.at_ hg
      obtain ⟨h1, h2, h3⟩ := h0.below hbel hb
      have ht : flat (l.take (k + 1)) = flat (l.take k) ++ rowCells x := by rw [take_snoc hg, flat_append]; simp [flat]
      have HT := Lib.hid ht
      clear hg ht h0 h
      go_wp2_with fail
      refine region_plan [([0, 1, 2, 3, 4, 5, 6, 7, 8, 9, 10, 11, 12, 13, 14, 15, 16], [17, 18]), ([19], [])] (fun w' => ∃ u : Ext wr w.heap.size, w' = u.val) (by kernel_rfl) (by kernel_rfl) (fun _ _ _ _ _ h => h) ⟨⟨_, (Below.refl _ _).drew⟩, rfl⟩ ?_
      have h1' := Ext.cell (B := w.heap.size) (w := wr) hb h1
      have h2' := Ext.cell (B := w.heap.size) (w := wr) hb h2
      have h3' := Ext.cell (B := w.heap.size) (w := wr) hb h3
      simp only [wpPlan, sel, List.take_succ_cons, List.take_zero, List.drop_succ_cons, List.drop_zero, List.cons_append, List.nil_append]
      repeat (go_big_quiet_step (fail))
      refine wpQuiet_nil ?_
      unfold wpChain
      go_wp2_with fail
      refine ⟨⟨⟨_, ((Below.refl _ _).alloc hbel.size _).drew⟩, rfl⟩, ?_⟩
      unfold wpChain
      go_wp2_with (at_builtin; refine wpList_append_own _ rfl _ _ 22 rfl w.heap.size 40 i0 _ 3 24 Try.underlying22 hi hz0 hz1 hz2 rfl (by decide) _ _ _ rfl ((hown.alloc _).drew) ⟨wr.heap.size, 0, none⟩ 1 1 (rowCells x) rfl rfl ?c1 ?c2 ?c3 ?c4 ?c5 ?_)
      case c1 =>
        intro j u hj
        match j, hj with
        | 0, hj => simp [rowCells] at hj; subst hj; simp [Addr.add]
        | 1, hj => simp [rowCells] at hj; subst hj; simp [Addr.add]
        | 2, hj => simp [rowCells] at hj; subst hj; simp [Addr.add]
      case c2 => intro u hu; simp [rowCells] at hu; rcases hu with rfl | rfl | rfl <;> rfl
      case c3 => unfold maxLen; omega
      case c4 => omega
      case c5 => have := hbel.size; simp; omega
      intro v' w1 hown1 hgrow _
      have hown2 : w1.ownsRow w.heap.size 40 3 v' (k + 1) (flat (l.take (k + 1))) := by rw [HT.out]; exact hown1
      have hbel2 : Below w.heap.size wr w1 := (((Below.refl _ _).alloc hbel.size _).drew).grown hgrow (by have := hbel.size; simp; omega) (fun j hj => (hown.lt j hj).1)
      clear hown1 hgrow h1 h2 h3 h1' h2' h3'
      go_wp2
      refine ⟨⟨⟨_, hbel2⟩, rfl⟩, ?_⟩
      unfold wpChain
      repeat (go_big_quiet_step (fail))
      refine wpQuiet_nil ?_
      unfold wpChain
      go_wp2
      exact ⟨⟨k + 1, by omega, by go_num, hown2, hbel.trans hbel2⟩, by simp [intOf]; omega⟩
    · have hkl : k = l.length := by omega
      have hown2 : wr.ownsRow w.heap.size 40 3 u3 l.length (flat l) := by rw [List.take_of_length_le (by omega)] at hown; rw [← hkl]; exact hown
      obtain ⟨A', c', rfl, hc'⟩ := own_form hown2
      clear hown hkl
      go_wp2
      go_ret
      exact ⟨A', c', rfl, hown2, hbel⟩

set_option maxHeartbeats 400000 in
theorem table_new (A : Option Addr) (l : List R3) (c : Nat) (w : World) (hn : l.length ≤ 1000) (h : Tab w w.heap.size A l) :
    Calls Try.prog 19 #[.slice A l.length c] w fun e w' => ∃ A' c', e = .returned (.agg #[.slice A' l.length c']) ∧ Tab w' w'.heap.size A' l ∧ Below w.heap.size w w' ∧ l.length ≤ c' ∧ c' ≤ maxLen := by
  go_enter Try.func19, Try.ntmps19
  go_wp2_with fail
  refine (ours_c A l c _ hn (h.below ((Below.refl _ _).alloc (Nat.le_refl _) _) |>.more (by simp))).mono ?_
  rintro e w1 ⟨A', c', rfl, hown, hb1⟩
  have hbel : Below w.heap.size w w1 := ((Below.refl _ _).alloc (Nat.le_refl _) _).trans (hb1.mono (by simp))
  have hB := (Box.new w 27 #[.slice none 0 0]).below hb1 (by simp)
  have hc := hB.cell 0
  have hf := hB.free 0
  have hT : Tab (w1.setCell ⟨w.heap.size, 0, none⟩ (.slice A' l.length c')) w1.heap.size A' l := (Tab.of_own hown).setCell _ (fun b o e => by
    subst e
    have := (hown.lt b rfl).1
    simp at this ⊢
    omega)
  have hT' : Tab (w1.setCell ⟨w.heap.size, 0, none⟩ (.slice A' l.length c')) (w1.setCell ⟨w.heap.size, 0, none⟩ (.slice A' l.length c')).heap.size A' l := hT.more (by simp [World.setCell])
  have hz := hbel.setCell (p := ⟨w.heap.size, 0, none⟩) (Nat.le_refl _) (.slice A' l.length c')
  have hcap := own_cap hown
  clear hown hb1 hbel hT
  go_wp2
  exact bodyPost_ret (v := .agg #[.slice A' l.length c']) (by simp [results, Try.results19, go_sem, hc]) rfl ⟨A', c', rfl, hT', hz, hcap⟩

theorem table_c (A : Option Addr) (l : List R3) (c : Nat) (w : World) (hn : l.length ≤ 1000) (h : Tab w w.heap.size A l) :
    Calls Try.prog 19 #[.slice A l.length c] w fun e w' => ∃ A' c', e = .returned (.agg #[.slice A' l.length c']) ∧ Tab w' w'.heap.size A' l ∧ Below w.heap.size w w' :=
  (table_new A l c w hn h).mono fun e w' ⟨A', c', h1, h2, h3, _⟩ => ⟨A', c', h1, h2, h3⟩
end Go.Proofs.Ytgmcpmhpafcihaa
