/- ranges.Get, rise, Sane, by their contracts. -/
import Derived.Test.YthlkpcfpapiigaaDoorChecked
import Derived.Outline
import Derived.BigQuiet
import Derived.BigRegion
import Derived.Deep.QuietTactic
import Derived.StillTailTactics
import Derived.Test.YthlkpcfpapiigaaDoorMem01
import Derived.Test.YthlkpcfpapiigaaDoorReg
import Derived.Test.YthlkpcfpapiigaaDoorMath01
namespace Go.Proofs.YthlkpcfpapiigaaDoor
open Go Go.RowKit
set_option linter.unusedVariables false
set_option linter.unusedSimpArgs false

set_option maxHeartbeats 400000 in
theorem get_c (A : Option Addr) (l : List R3) (c : Nat) (r : Int) (w : World) (hn : l.length ≤ maxLen) (h : Tab w w.heap.size A l) :
    Calls Tryd.prog 23 #[.agg #[.slice A l.length c], .int .i64 r] w fun e w' => e = .returned (.int .i64 (getF l r)) ∧ Below w.heap.size w w' := by
  unfold maxLen at hn
  go_enter Tryd.func23, Tryd.ntmps23
  go_wp2
  go_loopw [10] (fun i wr => ∃ k : Nat, k ≤ l.length ∧ i = .int .i64 k ∧ (∀ j x, j < k → l[j]? = some x → inB r x = false) ∧ Below w.heap.size w wr) (fun i _ => l.length - (intOf i).toNat)
  case atStart => exact ⟨0, Nat.zero_le _, rfl, fun j x hj => absurd hj (by omega), (Below.refl _ _).alloc (Nat.le_refl _) _⟩
  case round =>
    obtain ⟨k, hk, rfl, hno, hbel⟩ := hrel
    by_cases hlt : k < l.length
    · have hg : l[k]? = some l[k] := List.getElem?_eq_getElem hlt
      generalize l[k] = x at *
      obtain ⟨b, o, rfl, hb, h0⟩ := h.at_ hg
      obtain ⟨h1, h2, h3⟩ := h0.below hbel hb
      have HG := Lib.hid hg
      have HN := Lib.hid hno
      clear hg hno h0 h
      go_wp2
      · go_ret
        have hr : inB r x = true := by simp [inB]; omega
        exact ⟨ret_int (getF_hit HN.out HG.out hr).symm, hbel.alloc hbel.size _⟩
      all_goals
        have hr : inB r x = false := by simp [inB]; omega
        refine ⟨⟨k + 1, by omega, by go_num, ?_, hbel.alloc hbel.size _⟩, by simp [intOf]; omega⟩
        intro j y hj hy
        by_cases e : j = k
        · subst e; rw [HG.out] at hy; injection hy with e; subst e; exact hr
        · exact HN.out j y (by omega) hy
    · have hkl : k = l.length := by omega
      have hm := getF_miss (l := l) (r := r) (by subst hkl; exact hno)
      have HM := Lib.hid hm
      clear hm hno
      go_wp2
      go_ret
      exact ⟨ret_int HM.out.symm, hbel⟩

set_option maxHeartbeats 400000 in
theorem rise_c (A : Option Addr) (l : List R3) (c : Nat) (w : World) (hn : l.length ≤ maxLen) (h : Tab w w.heap.size A l) (r : Bool) (hr : riseF (-1) l = r) :
    Calls Tryd.prog 24 #[.slice A l.length c] w fun e w' => e = .returned (.bool r) ∧ Below w.heap.size w w' := by
  unfold maxLen at hn
  have HR := Lib.hid hr
  clear hr
  go_enter Tryd.func24, Tryd.ntmps24
  go_wp2
  go_loopw [3, 8] (fun la i wr => ∃ (k : Nat) (last : Int), k ≤ l.length ∧ i = .int .i64 k ∧ la = .int .i64 last ∧ riseF (-1) l = riseF last (l.drop k) ∧ Below w.heap.size w wr) (fun _ i _ => l.length - (intOf i).toNat)
  case atStart => exact ⟨0, -1, Nat.zero_le _, rfl, rfl, rfl, Below.refl _ _⟩
  case round =>
    obtain ⟨k, last, hk, rfl, rfl, hri, hbel⟩ := hrel
    have HI := Lib.hid hri
    clear hri
    by_cases hlt : k < l.length
    · have hg : l[k]? = some l[k] := List.getElem?_eq_getElem hlt
      generalize l[k] = x at *
      obtain ⟨b, o, rfl, hb, h0⟩ := h.at_ hg
      obtain ⟨h1, h2, h3⟩ := h0.below hbel hb
      have HG := Lib.hid hg
      clear hg h0 h
      have hd : riseF last (l.drop k) = (R3.okb last x && riseF x.hi (l.drop (k + 1))) := by rw [drop_cons HG.out]; rfl
      have HD := Lib.hid hd
      clear hd
      go_wp2
      all_goals first
        | (go_ret
           have hx : R3.okb last x = false := by simp only [R3.okb, decide_eq_false_iff_not]; omega
           exact ⟨ret_bool (by rw [← HR.out, HI.out, HD.out, hx]; rfl), hbel.alloc hbel.size _⟩)
        | (have hx : R3.okb last x = true := by simp only [R3.okb, decide_eq_true_eq]; omega
           exact ⟨⟨k + 1, x.hi, by omega, by go_num, rfl, by rw [HI.out, HD.out, hx]; rfl, hbel.alloc hbel.size _⟩, by simp [intOf]; omega⟩)
    · go_wp2
      go_ret
      exact ⟨ret_bool (by rw [← HR.out, HI.out, List.drop_eq_nil_of_le (by omega)]; rfl), hbel⟩

set_option maxHeartbeats 400000 in
theorem goesOn_c (x y : R3) (w : World) (hx : -1 ≤ x.hi ∧ x.hi ≤ 1114111) (r : Bool) (hr : glue x y = r) :
    Calls Tryd.prog 25 #[.agg #[.int .i64 x.lo, .int .i64 x.hi, .int .i64 x.v], .agg #[.int .i64 y.lo, .int .i64 y.hi, .int .i64 y.v]] w fun e w' => e = .returned (.bool r) ∧ Below w.heap.size w w' := by
  have HR := Lib.hid hr
  clear hr
  by_cases h1 : y.lo = x.hi + 1
  · have h1' : (y.lo == x.hi + 1) = true := beq_iff_eq.2 h1
    have hg : (y.v == x.v) = r := by rw [← HR.out]; simp [glue, h1, Bool.beq_eq_decide_eq]
    have HG := Lib.hid hg
    clear h1 hg
    go_enter Tryd.func25, Tryd.ntmps25
    go_wp2
    go_ret
    exact ⟨ret_bool HG.out, ((Below.refl _ _).alloc (Nat.le_refl _) _).alloc (by simp) _⟩
  · have h1' : (y.lo == x.hi + 1) = false := beq_eq_false_iff_ne.2 h1
    have hg : false = r := by rw [← HR.out]; simp [glue, h1]
    have HG := Lib.hid hg
    clear h1 hg
    go_enter Tryd.func25, Tryd.ntmps25
    go_wp2
    go_ret
    exact ⟨ret_bool HG.out, ((Below.refl _ _).alloc (Nat.le_refl _) _).alloc (by simp) _⟩

set_option maxHeartbeats 1000000 in
theorem sane_c (A : Option Addr) (l : List R3) (c : Nat) (w : World) (hn : l.length ≤ maxLen) (h : Tab w w.heap.size A l) (r : Bool) (hr : saneF l = r) :
    Calls Tryd.prog 16 #[.agg #[.slice A l.length c]] w fun e w' => e = .returned (.bool r) ∧ Below w.heap.size w w' := by
  unfold maxLen at hn
  have HR := Lib.hid hr
  clear hr
  by_cases h4 : 4096 < l.length
  · have hf : false = r := by rw [← HR.out]; simp [saneF]; omega
    have HF := Lib.hid hf
    have hd : decide ((4096 : Int) < (l.length : Int)) = true := by simp; omega
    clear hf
    go_enter Tryd.func16, Tryd.ntmps16
    go_wp2
    go_ret
    exact ⟨ret_bool HF.out, (Below.refl _ _).alloc (Nat.le_refl _) _⟩
  · have hd : decide ((4096 : Int) < (l.length : Int)) = false := by simp; omega
    by_cases hri : riseF (-1) l = true
    · have HI := Lib.hid hri
      have hap : apartF l = r := by rw [← HR.out]; simp [saneF, hri]; omega
      have HA := Lib.hid hap
      clear hri hap h4
      go_enter Tryd.func16, Tryd.ntmps16
      go_wp2_with (go_at_call 24; refine (rise_c A l c _ (by unfold maxLen; omega) (h.below ((Below.refl _ _).alloc (Nat.le_refl _) _) |>.more (by simp)) true HI.out).mono ?_; rintro e w1 ⟨rfl, hb1⟩)
      have hbel : Below w.heap.size w w1 := ((Below.refl _ _).alloc (Nat.le_refl _) _).trans (hb1.mono (by simp))
      have hcell : w1.cell? ⟨w.heap.size, 0, none⟩ = some (.slice A l.length c) := by rw [hb1.cell (by simp)]; simp [go_sem]
      clear hb1
      go_loopw [3] (fun i wr => ∃ k : Nat, k ≤ l.length ∧ i = .int .i64 (k + 1 : Nat) ∧ apartF l = apartF (l.drop k) ∧ Below w.heap.size w wr ∧ wr.cell? ⟨w.heap.size, 0, none⟩ = some (.slice A l.length c) ∧ w.heap.size < wr.heap.size) (fun i _ => l.length - (intOf i).toNat)
      case atStart => exact ⟨0, Nat.zero_le _, rfl, rfl, hbel, hcell, World.block_lt_of_cell? _ _ hcell⟩
      case round =>
        obtain ⟨k, hk, rfl, hap, hbel, hcell, hz⟩ := hrel
        have HP := Lib.hid hap
        clear hap
        by_cases hlt : k + 1 < l.length
        · have hg : l[k]? = some l[k] := List.getElem?_eq_getElem (by omega)
          have hg' : l[k+1]? = some l[k+1] := List.getElem?_eq_getElem hlt
          generalize l[k] = x at *
          generalize l[k+1] = y at *
          obtain ⟨b, o, rfl, hb, h0⟩ := h.at_ hg
          obtain ⟨b', o', e, hb', h0'⟩ := h.at_ hg'
          obtain ⟨rfl, rfl⟩ : b = b' ∧ o = o' := by injection e with e; injection e with e1 e2; exact ⟨e1, e2⟩
          obtain ⟨h1, h2, h3⟩ := h0.below hbel hb
          obtain ⟨h4, h5, h6⟩ := h0'.below hbel hb
          have hxo := rise_ok HI.out hg
          have HG := Lib.hid hg
          have HG' := Lib.hid hg'
          clear hg hg' h0 h0' e h
          have hi0 : (0 : Int) ≤ (k : Int) := by omega
          have hd1 : apartF (l.drop k) = (!glue x y && apartF (l.drop (k + 1))) := by rw [drop_cons HG.out, drop_cons HG'.out]; rfl
          have HD := Lib.hid hd1
          clear hd1
          go_wp2_with fail
          refine region_tail 11 (by kernel_rfl) (by kernel_rfl) ?_
          simp only [List.take_succ_cons, List.take_zero, List.drop_succ_cons, List.drop_zero]
          repeat (go_big_quiet_step (fail))
          refine wpQuiet_nil ?_
          go_wp2_with fail
          cases hgl : glue x y
          · have HL := Lib.hid hgl
            clear hgl
            refine (goesOn_c x y _ (by omega) false HL.out).mono ?_
            rintro e w2 ⟨rfl, hb2⟩
            have hbel2 : Below w.heap.size w w2 := hbel.drew.trans (hb2.mono hbel.size)
            have hcell2 : w2.cell? ⟨w.heap.size, 0, none⟩ = some (.slice (some ⟨b, o, none⟩) l.length c) := by rw [hb2.cell (by exact hz)]; exact hcell
            clear hb2 h1 h2 h3 h4 h5 h6 hcell
            go_wp2
            refine ⟨⟨k + 1, by omega, by go_num, ?_, hbel2, hcell2, World.block_lt_of_cell? _ _ hcell2⟩, by simp [intOf]; omega⟩
            rw [HP.out, HD.out, HL.out]; rfl
          · have HL := Lib.hid hgl
            clear hgl
            refine (goesOn_c x y _ (by omega) true HL.out).mono ?_
            rintro e w2 ⟨rfl, hb2⟩
            have hbel2 : Below w.heap.size w w2 := hbel.drew.trans (hb2.mono hbel.size)
            clear hb2 h1 h2 h3 h4 h5 h6 hcell
            go_wp2
            go_ret
            exact ⟨ret_bool (by rw [← HA.out, HP.out, HD.out, HL.out]; rfl), hbel2⟩
        · have hd1 : apartF (l.drop k) = true := by
            rcases Nat.lt_or_ge k l.length with hk' | hk'
            · rw [drop_cons (List.getElem?_eq_getElem hk'), List.drop_eq_nil_of_le (by omega)]; rfl
            · rw [List.drop_eq_nil_of_le hk']; rfl
          have HD := Lib.hid hd1
          clear hd1
          go_wp2
          go_ret
          exact ⟨ret_bool (by rw [← HA.out, HP.out, HD.out]), hbel⟩
    · have hri' : riseF (-1) l = false := by simpa using hri
      have HI := Lib.hid hri'
      have hap : false = r := by rw [← HR.out]; simp [saneF, hri']
      have HA := Lib.hid hap
      clear hri hri' hap h4
      go_enter Tryd.func16, Tryd.ntmps16
      go_wp2_with (go_at_call 24; refine (rise_c A l c _ (by unfold maxLen; omega) (h.below ((Below.refl _ _).alloc (Nat.le_refl _) _) |>.more (by simp)) false HI.out).mono ?_; rintro e w1 ⟨rfl, hb1⟩)
      have hbel : Below w.heap.size w w1 := ((Below.refl _ _).alloc (Nat.le_refl _) _).trans (hb1.mono (by simp))
      go_ret
      exact ⟨ret_bool HA.out, hbel⟩

end Go.Proofs.YthlkpcfpapiigaaDoor
