/- Package row, walked: whether a cell is torn, whether one may be. -/
import Derived.Test.YtcadbapccdclaaaRowA
import Derived.Test.YtcadbapccdclaaaEq08
namespace Go.Proofs.Ytcadbapccdclaaa
open Go Go.RowKit
set_option linter.unusedVariables false
set_option linter.unusedSimpArgs false

set_option maxRecDepth 100000 in
set_option maxHeartbeats 400000 in
theorem torn8_c (A : Option Addr) (c : Nat) (l : List Cl) (k : Nat) (w : World) (hin : InC w A c l) (hk : k < l.length) : Calls Try.prog 35 #[.slice A l.length c, .int .i64 (k : Int)] w fun e w' => e = .returned (.bool (decide (BadAt l k))) ∧ w = w' := by
  obtain ⟨x, hx⟩ : ∃ x, l[k]? = some x := ⟨_, List.getElem?_eq_getElem hk⟩
  have hwx : wAt l k = x.w := wAt_some hx
  have hcap := hin.cap
  have hmax := hin.len
  unfold maxLen at hmax
  obtain ⟨b, o, rfl, pb, -, -, -, k3, -, -, -⟩ := hin.at_ hx
  have z1 : (k : Int) < (l.length : Int) := by omega
  generalize hR : decide (BadAt l k) = R
  have HR := Lib.hid hR
  clear hR
  by_cases w2 : x.w = 2
  · have e2 : (x.w == 2) = true := by rw [w2]; rfl
    by_cases hl : k + 1 = l.length
    · have HS : Hid (R = true) := Lib.hid (by
        rw [← HR.out]
        refine decide_eq_true (.inl ⟨by omega, ?_⟩)
        rw [wAt_none (by omega)]; omega)
      have z2 : ((k : Int) == (l.length : Int) - 1) = true := beq_iff_eq.2 (by omega)
      clear hx hwx w2 hl hin
      go_enter Try.func35, Try.ntmps35
      go_wp2
      go_ret
      exact ⟨ret_bool HS.out.symm, rfl⟩
    · obtain ⟨y, hy⟩ : ∃ y, l[k + 1]? = some y := ⟨_, List.getElem?_eq_getElem (by omega)⟩
      have hwy : wAt l (k + 1) = y.w := wAt_some hy
      obtain ⟨b', o', e, _, -, -, -, n3, -, -, -⟩ := hin.at_ hy
      injection e with e
      injection e with e1 e2
      subst e1; subst e2
      have z2 : ((k : Int) == (l.length : Int) - 1) = false := beq_eq_false_iff_ne.2 (by omega)
      have z3 : (k : Int) + 1 < (l.length : Int) := by omega
      have HS : Hid (R = (y.w != 0)) := Lib.hid (by
        rw [← HR.out]
        by_cases h : y.w = 0
        · rw [h]; exact decide_eq_false (by unfold BadAt; omega)
        · rw [bne_iff_ne.2 h]; exact decide_eq_true (by unfold BadAt; omega))
      clear hx hwx w2 hl hin hy hwy
      go_enter Try.func35, Try.ntmps35
      go_wp2
      go_ret
      exact ⟨ret_bool HS.out.symm, rfl⟩
  · have e2 : (x.w == 2) = false := beq_eq_false_iff_ne.2 w2
    by_cases w0 : x.w = 0
    · have e0 : (x.w == 0) = true := by rw [w0]; rfl
      by_cases hl : k = 0
      · have HS : Hid (R = true) := Lib.hid (by
          rw [← HR.out]
          exact decide_eq_true (.inr ⟨by omega, .inl hl⟩))
        have z2 : ((k : Int) == 0) = true := beq_iff_eq.2 (by omega)
        clear hx hwx w2 w0 hl hin
        go_enter Try.func35, Try.ntmps35
        go_wp2
        go_ret
        exact ⟨ret_bool HS.out.symm, rfl⟩
      · obtain ⟨j, rfl⟩ : ∃ j, k = j + 1 := ⟨k - 1, by omega⟩
        obtain ⟨y, hy⟩ : ∃ y, l[j]? = some y := ⟨_, List.getElem?_eq_getElem (by omega)⟩
        have hwy : wAt l (j + 1 - 1) = y.w := wAt_some hy
        obtain ⟨b', o', e, _, -, -, -, n3, -, -, -⟩ := hin.at_ hy
        injection e with e
        injection e with e1 e2
        subst e1; subst e2
        have ej : ((j + 1 : Nat) : Int) = (j : Int) + 1 := by omega
        have z2 : ((j : Int) + 1 == 0) = false := beq_eq_false_iff_ne.2 (by omega)
        have z3 : (j : Int) + 1 < (l.length : Int) := by omega
        have HS : Hid (R = (y.w != 2)) := Lib.hid (by
          rw [← HR.out]
          by_cases h : y.w = 2
          · rw [h]; exact decide_eq_false (by unfold BadAt; omega)
          · rw [bne_iff_ne.2 h]; exact decide_eq_true (by unfold BadAt; omega))
        clear hx hwx w2 w0 hl hin hy hwy z1
        rw [ej]
        clear ej
        go_enter Try.func35, Try.ntmps35
        go_wp2
        go_ret
        exact ⟨ret_bool HS.out.symm, rfl⟩
    · have e0 : (x.w == 0) = false := beq_eq_false_iff_ne.2 w0
      have HS : Hid (R = false) := Lib.hid (by
        rw [← HR.out]
        exact decide_eq_false (by unfold BadAt; omega))
      clear hx hwx w2 w0 hin
      go_enter Try.func35, Try.ntmps35
      go_wp2
      go_ret
      exact ⟨ret_bool HS.out.symm, rfl⟩
def MayC (c : Cl) : Prop := (0 ≤ c.w ∧ c.w ≤ 2) ∧ (LetC c.r ∧ LetC c.m0 ∧ LetC c.m1) ∧ (c.m0 ≠ 0 ∨ c.m1 = 0) ∧ (c.r ≠ 0 ∨ c.m0 = 0) ∧ (c.w ≠ 0 ∨ c.r = 0) ∧ (c.w ≠ 2 ∨ c.r ≠ 0)
instance (c : Cl) : Decidable (MayC c) := inferInstanceAs (Decidable (_ ∧ _ ∧ _ ∧ _ ∧ _ ∧ _))
theorem one_may {c : Cl} : OneC c ↔ SaneN c.pen ∧ MayC c := by
  unfold OneC MayC
  exact ⟨fun h => ⟨h.2.2.1, h.1, h.2.1, h.2.2.2⟩, fun h => ⟨h.2.1, h.2.2.1, h.1, h.2.2.2⟩⟩
theorem arr_eql (a b c d : Int) (V : World) : (binOp .eql 45 (.agg #[.int .i64 a, .int .i64 b]) (.agg #[.int .i64 c, .int .i64 d])).run Try.prog V = .ok (.bool (a == c && b == d)) V := by
  have h := arr_equal 9998 a b c d V
  rw [run_eql_struct, h]
  rfl
set_option maxRecDepth 100000 in
set_option maxHeartbeats 400000 in
theorem may8_c (x : Cl) (b o : Nat) (w : World)
    (h0 : w.cell? ⟨b, o, none⟩ = some (.int .i64 x.r)) (h1 : w.cell? ⟨b, o + 1, none⟩ = some (.int .i64 x.m0)) (h2 : w.cell? ⟨b, o + 2, none⟩ = some (.int .i64 x.m1)) (h3 : w.cell? ⟨b, o + 3, none⟩ = some (.int .i64 x.w)) :
    Calls Try.prog 34 #[.pointer (some ⟨b, o, none⟩)] w fun e w' => e = .returned (.bool (decide (MayC x))) ∧ w = w' := by
  obtain ⟨r, m0, m1, cw, p⟩ := x
  simp only at h0 h1 h2 h3
  generalize hR : decide (MayC ⟨r, m0, m1, cw, p⟩) = R
  have HR := Lib.hid hR
  clear hR
  by_cases hr : r = 0
  · have er : (r == 0) = true := by rw [hr]; rfl
    have hq := fun V => arr_eql m0 m1 0 0 V
    by_cases hw : cw = 0 ∨ cw = 1
    · have HS : Hid (R = (m0 == 0 && m1 == 0)) := Lib.hid (by
        rw [← HR.out, Bool.eq_iff_iff]
        simp only [decide_eq_true_eq, Bool.and_eq_true, beq_iff_eq]
        unfold MayC LetC
        simp only
        omega)
      rcases (show cw = 0 ∨ (cw ≠ 0 ∧ cw = 1) by omega) with k | ⟨k, k'⟩
      · have e0 : (cw == 0) = true := by rw [k]; rfl
        clear hr hw k
        go_enter Try.func34, Try.ntmps34
        go_wp2
        go_ret
        exact ⟨ret_bool HS.out.symm, rfl⟩
      · have e0 : (cw == 0) = false := beq_eq_false_iff_ne.2 k
        have e1 : (cw == 1) = true := by rw [k']; rfl
        clear hr hw k k'
        go_enter Try.func34, Try.ntmps34
        go_wp2
        go_ret
        exact ⟨ret_bool HS.out.symm, rfl⟩
    · have HS : Hid (R = false) := Lib.hid (by
        rw [← HR.out]
        refine decide_eq_false ?_
        unfold MayC LetC
        simp only
        omega)
      have e0 : (cw == 0) = false := beq_eq_false_iff_ne.2 (by omega)
      have e1 : (cw == 1) = false := beq_eq_false_iff_ne.2 (by omega)
      clear hr hw
      go_enter Try.func34, Try.ntmps34
      go_wp2
      go_ret
      exact ⟨ret_bool HS.out.symm, rfl⟩
  · have er : (r == 0) = false := beq_eq_false_iff_ne.2 hr
    have c0 := fun V => letter8_c r V
    have c1 := fun V => letter8_c m0 V
    have c2 := fun V => letter8_c m1 V
    by_cases hm : m0 = 0 ∧ m1 ≠ 0
    · have HS : Hid (R = false) := Lib.hid (by
        rw [← HR.out]
        refine decide_eq_false ?_
        unfold MayC LetC
        simp only
        omega)
      have e0 : (m0 == 0) = true := by rw [hm.1]; rfl
      have e1 : (m1 != 0) = true := bne_iff_ne.2 hm.2
      clear hr hm c0 c1 c2
      go_enter Try.func34, Try.ntmps34
      go_wp2
      go_ret
      exact ⟨ret_bool HS.out.symm, rfl⟩
    · have HE : Hid (R = (decide (cw = 1 ∨ cw = 2) && decide (LetC r) && decide (LetC m0) && decide (LetC m1))) := Lib.hid (by
        rw [← HR.out, Bool.eq_iff_iff]
        simp only [decide_eq_true_eq, Bool.and_eq_true]
        unfold MayC LetC
        simp only
        omega)
      generalize decide (LetC r) = l0 at *
      generalize decide (LetC m0) = l1 at *
      generalize decide (LetC m1) = l2 at *
      clear HR
      by_cases hm0 : m0 = 0
      · have e0 : (m0 == 0) = true := by rw [hm0]; rfl
        have e1 : (m1 != 0) = false := by rw [show m1 = 0 by omega]; rfl
        clear hm hm0
        rcases (show cw = 1 ∨ (cw ≠ 1 ∧ cw = 2) ∨ (cw ≠ 1 ∧ cw ≠ 2) by omega) with k | ⟨k, k'⟩ | ⟨k, k'⟩
        · have f1 : (cw == 1) = true := by rw [k]; rfl
          have HK : Hid (cw = 1) := Lib.hid k
          clear k hr
          go_enter Try.func34, Try.ntmps34
          cases l0 with
          | false =>
            have HS : Hid (R = false) := Lib.hid (by rw [HE.out]; simp)
            go_wp2_with fail
            refine (c0 _).mono ?_
            rintro e w' ⟨rfl, rfl⟩
            clear c0 HE
            go_wp2_with fail
            go_ret
            exact ⟨ret_bool HS.out.symm, rfl⟩
          | true =>
            go_wp2_with fail
            refine (c0 _).mono ?_
            rintro e w' ⟨rfl, rfl⟩
            clear c0
            cases l1 with
            | false =>
              have HS : Hid (R = false) := Lib.hid (by rw [HE.out]; simp)
              go_wp2_with fail
              refine (c1 _).mono ?_
              rintro e w' ⟨rfl, rfl⟩
              clear c1 HE
              go_wp2_with fail
              go_ret
              exact ⟨ret_bool HS.out.symm, rfl⟩
            | true =>
              have HS : Hid (R = l2) := Lib.hid (by rw [HE.out]; simp [HK.out])
              clear HE
              go_wp2_with fail
              refine (c1 _).mono ?_
              rintro e w' ⟨rfl, rfl⟩
              clear c1
              go_wp2_with fail
              refine (c2 _).mono ?_
              rintro e w' ⟨rfl, rfl⟩
              clear c2
              go_wp2_with fail
              go_ret
              exact ⟨ret_bool HS.out.symm, rfl⟩
        · have f1 : (cw == 1) = false := beq_eq_false_iff_ne.2 k
          have f2 : (cw == 2) = true := by rw [k']; rfl
          have HK : Hid (cw = 2) := Lib.hid k'
          clear k k' hr
          go_enter Try.func34, Try.ntmps34
          cases l0 with
          | false =>
            have HS : Hid (R = false) := Lib.hid (by rw [HE.out]; simp)
            go_wp2_with fail
            refine (c0 _).mono ?_
            rintro e w' ⟨rfl, rfl⟩
            clear c0 HE
            go_wp2_with fail
            go_ret
            exact ⟨ret_bool HS.out.symm, rfl⟩
          | true =>
            go_wp2_with fail
            refine (c0 _).mono ?_
            rintro e w' ⟨rfl, rfl⟩
            clear c0
            cases l1 with
            | false =>
              have HS : Hid (R = false) := Lib.hid (by rw [HE.out]; simp)
              go_wp2_with fail
              refine (c1 _).mono ?_
              rintro e w' ⟨rfl, rfl⟩
              clear c1 HE
              go_wp2_with fail
              go_ret
              exact ⟨ret_bool HS.out.symm, rfl⟩
            | true =>
              have HS : Hid (R = l2) := Lib.hid (by rw [HE.out]; simp [HK.out])
              clear HE
              go_wp2_with fail
              refine (c1 _).mono ?_
              rintro e w' ⟨rfl, rfl⟩
              clear c1
              go_wp2_with fail
              refine (c2 _).mono ?_
              rintro e w' ⟨rfl, rfl⟩
              clear c2
              go_wp2_with fail
              go_ret
              exact ⟨ret_bool HS.out.symm, rfl⟩
        · have f1 : (cw == 1) = false := beq_eq_false_iff_ne.2 k
          have f2 : (cw == 2) = false := beq_eq_false_iff_ne.2 k'
          have HS : Hid (R = false) := Lib.hid (by rw [HE.out, decide_eq_false (by omega : ¬ (cw = 1 ∨ cw = 2))]; simp)
          clear k k' hr HE c0 c1 c2
          go_enter Try.func34, Try.ntmps34
          go_wp2
          go_ret
          exact ⟨ret_bool HS.out.symm, rfl⟩
      · have e0 : (m0 == 0) = false := beq_eq_false_iff_ne.2 hm0
        clear hm hm0
        rcases (show cw = 1 ∨ (cw ≠ 1 ∧ cw = 2) ∨ (cw ≠ 1 ∧ cw ≠ 2) by omega) with k | ⟨k, k'⟩ | ⟨k, k'⟩
        · have f1 : (cw == 1) = true := by rw [k]; rfl
          have HK : Hid (cw = 1) := Lib.hid k
          clear k hr
          go_enter Try.func34, Try.ntmps34
          cases l0 with
          | false =>
            have HS : Hid (R = false) := Lib.hid (by rw [HE.out]; simp)
            go_wp2_with fail
            refine (c0 _).mono ?_
            rintro e w' ⟨rfl, rfl⟩
            clear c0 HE
            go_wp2_with fail
            go_ret
            exact ⟨ret_bool HS.out.symm, rfl⟩
          | true =>
            go_wp2_with fail
            refine (c0 _).mono ?_
            rintro e w' ⟨rfl, rfl⟩
            clear c0
            cases l1 with
            | false =>
              have HS : Hid (R = false) := Lib.hid (by rw [HE.out]; simp)
              go_wp2_with fail
              refine (c1 _).mono ?_
              rintro e w' ⟨rfl, rfl⟩
              clear c1 HE
              go_wp2_with fail
              go_ret
              exact ⟨ret_bool HS.out.symm, rfl⟩
            | true =>
              have HS : Hid (R = l2) := Lib.hid (by rw [HE.out]; simp [HK.out])
              clear HE
              go_wp2_with fail
              refine (c1 _).mono ?_
              rintro e w' ⟨rfl, rfl⟩
              clear c1
              go_wp2_with fail
              refine (c2 _).mono ?_
              rintro e w' ⟨rfl, rfl⟩
              clear c2
              go_wp2_with fail
              go_ret
              exact ⟨ret_bool HS.out.symm, rfl⟩
        · have f1 : (cw == 1) = false := beq_eq_false_iff_ne.2 k
          have f2 : (cw == 2) = true := by rw [k']; rfl
          have HK : Hid (cw = 2) := Lib.hid k'
          clear k k' hr
          go_enter Try.func34, Try.ntmps34
          cases l0 with
          | false =>
            have HS : Hid (R = false) := Lib.hid (by rw [HE.out]; simp)
            go_wp2_with fail
            refine (c0 _).mono ?_
            rintro e w' ⟨rfl, rfl⟩
            clear c0 HE
            go_wp2_with fail
            go_ret
            exact ⟨ret_bool HS.out.symm, rfl⟩
          | true =>
            go_wp2_with fail
            refine (c0 _).mono ?_
            rintro e w' ⟨rfl, rfl⟩
            clear c0
            cases l1 with
            | false =>
              have HS : Hid (R = false) := Lib.hid (by rw [HE.out]; simp)
              go_wp2_with fail
              refine (c1 _).mono ?_
              rintro e w' ⟨rfl, rfl⟩
              clear c1 HE
              go_wp2_with fail
              go_ret
              exact ⟨ret_bool HS.out.symm, rfl⟩
            | true =>
              have HS : Hid (R = l2) := Lib.hid (by rw [HE.out]; simp [HK.out])
              clear HE
              go_wp2_with fail
              refine (c1 _).mono ?_
              rintro e w' ⟨rfl, rfl⟩
              clear c1
              go_wp2_with fail
              refine (c2 _).mono ?_
              rintro e w' ⟨rfl, rfl⟩
              clear c2
              go_wp2_with fail
              go_ret
              exact ⟨ret_bool HS.out.symm, rfl⟩
        · have f1 : (cw == 1) = false := beq_eq_false_iff_ne.2 k
          have f2 : (cw == 2) = false := beq_eq_false_iff_ne.2 k'
          have HS : Hid (R = false) := Lib.hid (by rw [HE.out, decide_eq_false (by omega : ¬ (cw = 1 ∨ cw = 2))]; simp)
          clear k k' hr HE c0 c1 c2
          go_enter Try.func34, Try.ntmps34
          go_wp2
          go_ret
          exact ⟨ret_bool HS.out.symm, rfl⟩
end Go.Proofs.Ytcadbapccdclaaa
