/- join and Make, by their contracts. -/
import Derived.Test.YthlkpcfpapiigaaDoorRangA
import Derived.Test.YthlkpcfpapiigaaDoorMath01b
namespace Go.Proofs.YthlkpcfpapiigaaDoor
open Go Go.RowKit
set_option linter.unusedVariables false
set_option linter.unusedSimpArgs false

theorem infoRow : (Tryd.prog.info? 52).map (fun i => (i.zero, i.size, i.bytes)) = some (some (.agg #[.int .i64 0, .int .i64 0, .int .i64 0]), 3, 24) := by kernel_rfl
theorem ownFlat_len {w : World} {base : Nat} {e : TypeId} {v : Value} {n : Nat} {l : List R3} (h : w.ownsRow base e 3 v n (flat l)) : n = l.length := by
  have := h.1
  rw [flat_length] at this
  omega
theorem own_form {w : World} {base : Nat} {e : TypeId} {v : Value} {n : Nat} {xs : List Value} (h : w.ownsRow base e 3 v n xs) : ∃ A c, v = .slice A n c ∧ n ≤ c := by
  rcases h.2 with ⟨rfl, rfl⟩ | ⟨g, cap, cur, rfl, _, _, h, _⟩
  · exact ⟨none, 0, rfl, Nat.le_refl _⟩
  · exact ⟨_, _, rfl, h⟩

theorem joinStep_len (out : List R3) (x : R3) : (joinStep out x).length ≤ out.length + 1 := by
  unfold joinStep
  cases h : out.getLast? with
  | none => simp
  | some y => 
    have hp : 0 < out.length := by cases out with | nil => simp at h | cons => simp
    dsimp only
    split <;> simp <;> omega
theorem joinF_len (l : List R3) : (joinF l).length ≤ l.length := by
  induction l using snoc_ind with
  | h0 => simp [joinF]
  | h1 l x ih => rw [joinF_snoc]; have := joinStep_len (joinF l) x; simp; omega

def bdd (l : List R3) : Prop := ∀ y, y ∈ l → -1 ≤ y.hi ∧ y.hi ≤ 1114111
theorem bdd_rise {last : Int} {l : List R3} (h : riseF last l = true) (h0 : -1 ≤ last) : bdd l := by
  intro y hy
  obtain ⟨k, hk⟩ := List.mem_iff_getElem?.1 hy
  have := rise_ok h hk
  omega
theorem bdd_join {l : List R3} (h : bdd l) : bdd (joinF l) := by
  induction l using snoc_ind with
  | h0 => intro y hy; simp [joinF] at hy
  | h1 l x ih =>
    have ih := ih (fun y hy => h y (by simp [hy]))
    have hx := h x (by simp)
    rw [joinF_snoc]
    unfold joinStep
    cases hl : (joinF l).getLast? with
    | none => intro y hy; simp at hy; subst hy; exact hx
    | some z =>
      dsimp only
      split
      · intro y hy
        rw [List.mem_append] at hy
        rcases hy with hy | hy
        · exact ih y (List.dropLast_subset _ hy)
        · simp at hy; subst hy; exact hx
      · intro y hy
        rw [List.mem_append] at hy
        rcases hy with hy | hy
        · exact ih y hy
        · simp at hy; subst hy; exact hx

set_option maxRecDepth 100000 in
set_option maxHeartbeats 1000000 in
theorem join_c (A : Option Addr) (l : List R3) (c : Nat) (w : World) (hn : l.length ≤ 100000) (h : Tab w w.heap.size A l) (hbd : bdd l) :
    Calls Tryd.prog 36 #[.slice A l.length c] w fun e w' => ∃ A' c', e = .returned (.slice A' (joinF l).length c') ∧ w'.ownsRow w.heap.size 52 3 (.slice A' (joinF l).length c') (joinF l).length (flat (joinF l)) ∧ Below w.heap.size w w' := by
  obtain ⟨i0, hi, hz0, hz1, hz2⟩ := info_parts infoRow
  go_enter Tryd.func36, Tryd.ntmps36
  go_wp2
  go_loopw [3, 9] (fun v i wr => ∃ (k n : Nat), k ≤ l.length ∧ i = .int .i64 k ∧ wr.ownsRow w.heap.size 52 3 v n (flat (joinF (l.take k))) ∧ Below w.heap.size w wr) (fun _ i _ => l.length - (intOf i).toNat)
  case atStart => exact ⟨0, 0, Nat.zero_le _, rfl, World.ownsRow_nil _ _ _ _, Below.refl _ _⟩
  case round =>
    obtain ⟨k, n, hk, rfl, hown, hbel⟩ := hrel
    by_cases hlt : k < l.length
    · have hg : l[k]? = some l[k] := List.getElem?_eq_getElem hlt
      generalize l[k] = x at *
      obtain ⟨b, o, rfl, hb, h0⟩ := h.at_ hg
      obtain ⟨h1, h2, h3⟩ := h0.below hbel hb
      have hxb := hbd x (List.mem_of_getElem? hg)
      have hob : bdd (joinF (l.take k)) := bdd_join (fun y hy => hbd y (List.mem_of_mem_take hy))
      have hol : (joinF (l.take k)).length ≤ 100000 := by have := joinF_len (l.take k); rw [List.length_take] at this; omega
      have ht : joinF (l.take (k + 1)) = joinStep (joinF (l.take k)) x := by rw [take_snoc hg, joinF_snoc]
      have HT := Lib.hid ht
      clear hg ht h0 h hbd
      generalize joinF (l.take k) = out at *
      obtain ⟨hnl, hcs⟩ := own_cases hown
      rcases hcs with rfl | ⟨g, cap, hne, rfl, hbg, hgl, hncap, hcells, hfr⟩
      · obtain rfl : n = 0 := by simpa using hnl
        obtain ⟨A', c', rfl, -⟩ := own_form hown
        clear hnl hob hol
        go_wp2_with fail
        refine region_plan [([0, 1, 2, 3, 4, 5, 6, 7], [8]), ([9], [])] (fun w' => ∃ u : Ext (wr.alloc (.cells #[.int .i64 x.lo, .int .i64 x.hi, .int .i64 x.v] 52)) w.heap.size, w' = u.val) (by kernel_rfl) (by kernel_rfl) (fun _ _ _ _ _ h => h) ⟨⟨_, (Below.refl _ _).drew⟩, rfl⟩ ?_
        simp only [wpPlan, sel, List.take_succ_cons, List.take_zero, List.drop_succ_cons, List.drop_zero, List.cons_append, List.nil_append]
        repeat (go_big_quiet_step (fail))
        refine wpQuiet_nil ?_
        unfold wpChain
        go_wp2_with fail
        refine ⟨⟨⟨_, (Below.refl _ _).drew⟩, rfl⟩, ?_⟩
        unfold wpChain
        repeat (go_big_quiet_step (fail))
        refine wpQuiet_nil ?_
        unfold wpChain
        go_wp2_with (at_builtin; refine wpList_append_own _ rfl _ _ 23 rfl w.heap.size 52 i0 _ 3 24 Tryd.underlying23 hi hz0 hz1 hz2 rfl (by decide) _ _ _ rfl (((hown.alloc _).drew).alloc _) ⟨wr.heap.size + 1, 0, none⟩ 1 1 (rowCells x) rfl rfl (by simpa using news (wr.alloc (.cells #[.int .i64 x.lo, .int .i64 x.hi, .int .i64 x.v] 52)) 52 x) (row_one x) (by unfold maxLen; omega) (by omega) (by have := hbel.size; simp; omega) ?_; intro v' w1 hown1 hgrow _)
        have hown2 : w1.ownsRow w.heap.size 52 3 v' (0 + 1) (flat (joinF (l.take (k + 1)))) := by rw [HT.out]; exact hown1
        have hbel2 : Below w.heap.size w w1 := ((hbel.alloc hbel.size _).alloc (by have := hbel.size; simp; omega) _).drew.grown hgrow (by have := hbel.size; simp; omega) (fun j hj => (hown.lt j hj).1)
        clear hown1 hgrow h1 h2 h3 hown
        go_wp2
        exact ⟨⟨k + 1, _, by omega, by go_num, hown2, hbel2⟩, by simp [intOf]; omega⟩
      · obtain ⟨pre, y, rfl⟩ : ∃ pre y, out = pre ++ [y] := ⟨_, _, (List.dropLast_concat_getLast hne).symm⟩
        clear hne
        have hn1 : n = pre.length + 1 := by simpa using hnl
        subst hn1
        obtain ⟨k1, k2, k3⟩ := hcells pre.length y (by simp)
        simp only [Nat.zero_add] at k1 k2 k3
        have hyb := hob y (by simp)
        have hf1 := hfr (pre.length * 3 + 1)
        have hpl : pre.length < 100000 := by simp at hol; omega
        have hgl' : (pre ++ [y]).getLast? = some y := by simp
        have hdl : (pre ++ [y]).dropLast = pre := by simp
        have hi0 : (0 : Int) ≤ (pre.length : Int) := by omega
        have hnc : (pre.length : Int) < (cap : Int) := by omega
        clear hcells hob hol hfr hnl
        have k1' := Ext.cell (B := (wr.alloc (.cells #[.int .i64 x.lo, .int .i64 x.hi, .int .i64 x.v] 52)).heap.size) (w := wr.alloc (.cells #[.int .i64 x.lo, .int .i64 x.hi, .int .i64 x.v] 52)) (by simp; omega) ((World.cell?_alloc_lt wr _ _ hgl).trans k1)
        have k2' := Ext.cell (B := (wr.alloc (.cells #[.int .i64 x.lo, .int .i64 x.hi, .int .i64 x.v] 52)).heap.size) (w := wr.alloc (.cells #[.int .i64 x.lo, .int .i64 x.hi, .int .i64 x.v] 52)) (by simp; omega) ((World.cell?_alloc_lt wr _ _ hgl).trans k2)
        have k3' := Ext.cell (B := (wr.alloc (.cells #[.int .i64 x.lo, .int .i64 x.hi, .int .i64 x.v] 52)).heap.size) (w := wr.alloc (.cells #[.int .i64 x.lo, .int .i64 x.hi, .int .i64 x.v] 52)) (by simp; omega) ((World.cell?_alloc_lt wr _ _ hgl).trans k3)
        have hx0 := Box.new wr 52 #[.int .i64 x.lo, .int .i64 x.hi, .int .i64 x.v]
        have x1' := Ext.cell (B := (wr.alloc (.cells #[.int .i64 x.lo, .int .i64 x.hi, .int .i64 x.v] 52)).heap.size) (w := wr.alloc (.cells #[.int .i64 x.lo, .int .i64 x.hi, .int .i64 x.v] 52)) (by simp) (hx0.cell 0)
        have x2' := Ext.cell (B := (wr.alloc (.cells #[.int .i64 x.lo, .int .i64 x.hi, .int .i64 x.v] 52)).heap.size) (w := wr.alloc (.cells #[.int .i64 x.lo, .int .i64 x.hi, .int .i64 x.v] 52)) (by simp) (hx0.cell 1)
        have x3' := Ext.cell (B := (wr.alloc (.cells #[.int .i64 x.lo, .int .i64 x.hi, .int .i64 x.v] 52)).heap.size) (w := wr.alloc (.cells #[.int .i64 x.lo, .int .i64 x.hi, .int .i64 x.v] 52)) (by simp) (hx0.cell 2)
        clear hx0
        go_wp2_with fail
        refine region_plan [([0, 1, 2, 3, 4, 5, 6, 7], [8]), ([9], [])] (fun w' => ∃ u : Ext (wr.alloc (.cells #[.int .i64 x.lo, .int .i64 x.hi, .int .i64 x.v] 52)) (wr.alloc (.cells #[.int .i64 x.lo, .int .i64 x.hi, .int .i64 x.v] 52)).heap.size, w' = u.val) (by kernel_rfl) (by kernel_rfl) (fun _ _ _ _ _ h => h) ⟨⟨_, (Below.refl _ _).drew⟩, rfl⟩ ?_
        simp only [wpPlan, sel, List.take_succ_cons, List.take_zero, List.drop_succ_cons, List.drop_zero, List.cons_append, List.nil_append]
        repeat (go_big_quiet_step (fail))
        refine wpQuiet_nil ?_
        unfold wpChain
        go_wp2_with fail
        clear k1' k2' k3' x1' x2' x3'
        have hjs : joinStep (pre ++ [y]) x = if glue y x then pre ++ [⟨y.lo, x.hi, y.v⟩] else (pre ++ [y]) ++ [x] := by unfold joinStep; rw [hgl']; dsimp only; rw [hdl]
        have HJ := Lib.hid hjs
        clear hjs hgl' hdl
        cases hglu : glue y x
        · have HL := Lib.hid hglu
          clear hglu
          refine (goesOn_c y x _ (by omega) false HL.out).mono ?_
          rintro e w2 ⟨rfl, hb2⟩
          have hb3 : Below (wr.alloc (.cells #[.int .i64 x.lo, .int .i64 x.hi, .int .i64 x.v] 52)).heap.size (wr.alloc (.cells #[.int .i64 x.lo, .int .i64 x.hi, .int .i64 x.v] 52)) w2 := (Below.refl _ _).drew.trans hb2
          have hown2 := own_below (hown.alloc _) hb3
          have hxb2 := (Box.new wr 52 #[.int .i64 x.lo, .int .i64 x.hi, .int .i64 x.v]).below hb3 (by simp)
          have y1 := hxb2.cell 0
          have y2 := hxb2.cell 1
          have y3 := hxb2.cell 2
          have hbel2 : Below w.heap.size w w2 := (hbel.alloc hbel.size _).trans (hb3.mono (by have := hbel.size; simp; omega))
          have hS := hb3
          clear hb3 hb2 hown h1 h2 h3 k1 k2 k3 hxb2
          go_wp2_with fail
          refine ⟨⟨⟨_, hS⟩, rfl⟩, ?_⟩
          unfold wpChain
          repeat (go_big_quiet_step (fail))
          refine wpQuiet_nil ?_
          unfold wpChain
          clear hS
          go_wp2_with (at_builtin; refine wpList_append_own _ rfl _ _ 23 rfl w.heap.size 52 i0 _ 3 24 Tryd.underlying23 hi hz0 hz1 hz2 rfl (by decide) _ _ _ rfl (hown2.alloc _) ⟨w2.heap.size, 0, none⟩ 1 1 (rowCells x) rfl rfl (news w2 52 x) (row_one x) (by unfold maxLen; omega) (by omega) (by have := hbel2.size; simp; omega) ?_; intro v' w3 hown3 hgrow _)
          have hown4 : w3.ownsRow w.heap.size 52 3 v' (pre.length + 1 + 1) (flat (joinF (l.take (k + 1)))) := by rw [HT.out, HJ.out, HL.out, if_neg (by simp), flat_snoc]; exact hown3
          have hbel4 : Below w.heap.size w w3 := (hbel2.alloc hbel2.size _).grown hgrow (by have := hbel2.size; simp; omega) (fun j hj => (hown2.lt j hj).1)
          clear hown3 hgrow hown2 y1 y2 y3
          go_wp2
          exact ⟨⟨k + 1, _, by omega, by go_num, hown4, hbel4⟩, by simp [intOf]; omega⟩
        · have HL := Lib.hid hglu
          clear hglu
          refine (goesOn_c y x _ (by omega) true HL.out).mono ?_
          rintro e w2 ⟨rfl, hb2⟩
          have hb3 : Below (wr.alloc (.cells #[.int .i64 x.lo, .int .i64 x.hi, .int .i64 x.v] 52)).heap.size (wr.alloc (.cells #[.int .i64 x.lo, .int .i64 x.hi, .int .i64 x.v] 52)) w2 := (Below.refl _ _).drew.trans hb2
          have hown2 := own_below (hown.alloc _) hb3
          have hxb2 := (Box.new wr 52 #[.int .i64 x.lo, .int .i64 x.hi, .int .i64 x.v]).below hb3 (by simp)
          have y2 := hxb2.cell 1
          have z2 : w2.cell? ⟨g, pre.length * 3 + 1, none⟩ = some (.int .i64 y.hi) := (hb3.cell (by simp; omega)).trans ((World.cell?_alloc_lt wr _ _ hgl).trans k2)
          have zf : w2.frozen? ⟨g, pre.length * 3 + 1, none⟩ = false := by
            rcases own_cases hown2 with ⟨_, h0 | ⟨g', cap', _, e, _, _, _, _, hfr⟩⟩
            · simp at h0
            · injection e with e1; injection e1 with e1; injection e1 with e1; subst e1; exact hfr _
          have hbel2 : Below w.heap.size w w2 := (hbel.alloc hbel.size _).trans (hb3.mono (by have := hbel.size; simp; omega))
          have hown4 : (w2.setCell ⟨g, pre.length * 3 + 1, none⟩ (.int .i64 x.hi)).ownsRow w.heap.size 52 3 (.slice (some ⟨g, 0, none⟩) (pre.length + 1) cap) (pre.length + 1) (flat (joinF (l.take (k + 1)))) := by
            rw [HT.out, HJ.out, HL.out, if_pos rfl, ← flat_set_hi]
            exact own_set hown2 (by omega) _
          have hbel4 := hbel2.setCell (p := ⟨g, pre.length * 3 + 1, none⟩) hbg (.int .i64 x.hi)
          have hS := hb3
          clear hb3 hb2 hown h1 h2 h3 k1 k2 k3 hxb2 hown2
          go_wp2_with fail
          refine ⟨⟨⟨_, hS⟩, rfl⟩, ?_⟩
          unfold wpChain
          repeat (go_big_quiet_step (fail))
          refine wpQuiet_nil ?_
          unfold wpChain
          clear hS
          go_wp2
          exact ⟨⟨k + 1, _, by omega, by go_num, hown4, hbel4⟩, by simp [intOf]; omega⟩
    · have hkl : k = l.length := by omega
      have hown2 : wr.ownsRow w.heap.size 52 3 u3 n (flat (joinF l)) := by rw [List.take_of_length_le (by omega)] at hown; exact hown
      obtain ⟨rfl, -⟩ := own_cases hown2
      obtain ⟨A', c', rfl, hc'⟩ := own_form hown2
      clear hown hkl
      go_wp2
      go_ret
      exact ⟨A', c', rfl, hown2, hbel⟩

set_option maxHeartbeats 400000 in
theorem make_bad (A : Option Addr) (l : List R3) (c : Nat) (w : World) (hn : l.length ≤ 100000) (h : Tab w w.heap.size A l) (hr : riseF (-1) l = false) :
    Calls Tryd.prog 29 #[.slice A l.length c] w fun e w' => e = .returned (.tuple #[.agg #[.slice none 0 0], .int .i64 1]) ∧ Below w.heap.size w w' := by
  have HR := Lib.hid hr
  clear hr
  go_enter Tryd.func29, Tryd.ntmps29
  go_wp2_with fail
  refine (rise_c A l c _ (by unfold maxLen; omega) (h.below ((Below.refl _ _).alloc (Nat.le_refl _) _) |>.more (by simp)) false HR.out).mono ?_
  rintro e w1 ⟨rfl, hb1⟩
  have hbel : Below w.heap.size w w1 := ((Below.refl _ _).alloc (Nat.le_refl _) _).trans (hb1.mono (by simp))
  have hB := (Box.new w 25 #[.slice none 0 0]).below hb1 (by simp)
  have hc := hB.cell 0
  have hf := hB.free 0
  have hz := hbel.setCell (p := ⟨w.heap.size, 0, none⟩) (Nat.le_refl _) (.slice none 0 0)
  clear hb1 hbel hB
  go_wp2
  exact bodyPost_ret (v := .tuple #[.agg #[.slice none 0 0], .int .i64 1]) (by simp [results, Tryd.results29, go_sem, hc]) rfl ⟨rfl, hz⟩

set_option maxHeartbeats 400000 in
theorem make_new (A : Option Addr) (l : List R3) (c : Nat) (w : World) (hn : l.length ≤ 100000) (h : Tab w w.heap.size A l) (hr : riseF (-1) l = true) (hj : (joinF l).length ≤ 4096) :
    Calls Tryd.prog 29 #[.slice A l.length c] w fun e w' => ∃ A' c', e = .returned (.tuple #[.agg #[.slice A' (joinF l).length c'], .int .i64 0]) ∧ Tab w' w'.heap.size A' (joinF l) ∧ Below w.heap.size w w' ∧ (∀ b o, A' = some ⟨b, o, none⟩ → w.heap.size ≤ b) ∧ (joinF l).length ≤ c' ∧ c' ≤ maxLen := by
  have HR := Lib.hid hr
  have hbd := bdd_rise hr (Int.le_refl _)
  clear hr
  go_enter Tryd.func29, Tryd.ntmps29
  go_wp2_with fail
  refine (rise_c A l c _ (by unfold maxLen; omega) (h.below ((Below.refl _ _).alloc (Nat.le_refl _) _) |>.more (by simp)) true HR.out).mono ?_
  rintro e w1 ⟨rfl, hb1⟩
  have hbel : Below w.heap.size w w1 := ((Below.refl _ _).alloc (Nat.le_refl _) _).trans (hb1.mono (by simp))
  have hB := (Box.new w 25 #[.slice none 0 0]).below hb1 (by simp)
  have hlt : w.heap.size < w1.heap.size := hB.lt
  clear hb1
  go_wp2_with fail
  refine (join_c A l c _ hn ((h.below hbel).more hbel.size) hbd).mono ?_
  rintro e w2 ⟨A', c', rfl, hown, hb2⟩
  have hbel2 : Below w.heap.size w w2 := hbel.trans (hb2.mono hbel.size)
  have hB2 := hB.below hb2 hlt
  have hcap := own_cap hown
  have hfresh : ∀ b o, A' = some ⟨b, o, none⟩ → w.heap.size ≤ b := fun b o e => by
    subst e
    have := (hown.lt b rfl).1
    have := hbel.size
    omega
  have hc := hB2.cell 0
  have hf := hB2.free 0
  have hT : Tab (w2.setCell ⟨w.heap.size, 0, none⟩ (.slice A' (joinF l).length c')) w2.heap.size A' (joinF l) := (Tab.of_own hown).setCell _ (fun b o e => by
    subst e
    have := (hown.lt b rfl).1
    simp at this ⊢
    omega)
  have hT' : Tab (w2.setCell ⟨w.heap.size, 0, none⟩ (.slice A' (joinF l).length c')) (w2.setCell ⟨w.heap.size, 0, none⟩ (.slice A' (joinF l).length c')).heap.size A' (joinF l) := hT.more (by simp [World.setCell])
  have hz := hbel2.setCell (p := ⟨w.heap.size, 0, none⟩) (Nat.le_refl _) (.slice A' (joinF l).length c')
  have hd : decide ((4096 : Int) < ((joinF l).length : Int)) = false := by simp; omega
  clear hown hb2 hbel hbel2 hB hB2 hT hbd
  go_wp2
  exact bodyPost_ret (v := .tuple #[.agg #[.slice A' (joinF l).length c'], .int .i64 0]) (by simp [results, Tryd.results29, go_sem, hc]) rfl ⟨A', c', rfl, hT', hz, hfresh, hcap⟩
theorem make_ok (A : Option Addr) (l : List R3) (c : Nat) (w : World) (hn : l.length ≤ 100000) (h : Tab w w.heap.size A l) (hr : riseF (-1) l = true) (hj : (joinF l).length ≤ 4096) :
    Calls Tryd.prog 29 #[.slice A l.length c] w fun e w' => ∃ A' c', e = .returned (.tuple #[.agg #[.slice A' (joinF l).length c'], .int .i64 0]) ∧ Tab w' w'.heap.size A' (joinF l) ∧ Below w.heap.size w w' :=
  (make_new A l c w hn h hr hj).mono fun e w' ⟨A', c', h1, h2, h3, _⟩ => ⟨A', c', h1, h2, h3⟩
end Go.Proofs.YthlkpcfpapiigaaDoor
