/- Package pen: flags by a number, row by row. -/
import Derived.Test.YtlcnlfjjglcobaaDoorPen7a
import Derived.Deep.MidRow
namespace Go.Proofs.YtlcnlfjjglcobaaDoor
open Go Go.RowKit
set_option linter.unusedVariables false
set_option linter.unusedSimpArgs false

def togV : Value := .agg togC.toArray
theorem tog_load {w : World} (hT : Tog w) : (Instr.loadAt 45 (.pointer (some ⟨0, 0, none⟩))).run Tryd.prog w = .ok togV w :=
  run_loadAt_mid w 0 0 45 togC _ (fun j v h => by rw [Nat.zero_add]; exact hT j v h) Tryd.underlying45 rfl (by kernel_rfl)
section
variable {P : Program}
/-- A load whose outcome is known. -/
theorem wpList_load_val {ops : Array Oper} {rest : List Oper} {op : Oper} {a : Act} {w : World} {Q : Exit → Act → World → Prop} (hgd : op.guard = none) (ty : TypeId) (x : Operand) (ho : op.op = .load ty x) (p v : Value) (hx : a.eval x = p)
    (hl : (Instr.loadAt ty p).run P w = .ok v w) (h : wpList P ops Q rest (a.put op.dst v) w) : wpList P ops Q (op :: rest) a w :=
  wpList_plain hgd fun K hK => by
    unfold Oper.wp execOp
    simp only [ho, hx, Sem.run_bind, hl, Sem.run_pure, Result.andThen_ok]
    exact hK _ _ h
end
theorem tog_idx (k : Nat) (x : Int × Int × Int) (h : rowsT[k]? = some x) (V : World) :
    (Instr.index 45 togV (.int .i64 (k : Int))).run Tryd.prog V = .ok (.agg #[.int .i64 x.1, .int .i64 x.2.1, .int .i64 x.2.2]) V := by
  have hk : k < 9 := (List.getElem?_eq_some_iff.1 h).1
  match k, hk with
  | 0, _ => have e := (Option.some.inj h).symm; subst e; show _ = _; kernel_rfl
  | 1, _ => have e := (Option.some.inj h).symm; subst e; show _ = _; kernel_rfl
  | 2, _ => have e := (Option.some.inj h).symm; subst e; show _ = _; kernel_rfl
  | 3, _ => have e := (Option.some.inj h).symm; subst e; show _ = _; kernel_rfl
  | 4, _ => have e := (Option.some.inj h).symm; subst e; show _ = _; kernel_rfl
  | 5, _ => have e := (Option.some.inj h).symm; subst e; show _ = _; kernel_rfl
  | 6, _ => have e := (Option.some.inj h).symm; subst e; show _ = _; kernel_rfl
  | 7, _ => have e := (Option.some.inj h).symm; subst e; show _ = _; kernel_rfl
  | 8, _ => have e := (Option.some.inj h).symm; subst e; show _ = _; kernel_rfl
theorem sw_hit {x : Int × Int × Int} {l : List (Int × Int × Int)} {f n : Int} (h : n = x.2.1) : swC (x :: l) f n = withC f x.1 := by rw [swC, if_pos h]
theorem sw_off {x : Int × Int × Int} {l : List (Int × Int × Int)} {f n : Int} (h : ¬ n = x.2.1) (h2 : n = x.2.2) : swC (x :: l) f n = swC l (bits .andNot .i64 f x.1) n := by rw [swC, if_neg h, if_pos h2]
theorem sw_next {x : Int × Int × Int} {l : List (Int × Int × Int)} {f n : Int} (h : ¬ n = x.2.1) (h2 : ¬ n = x.2.2) : swC (x :: l) f n = swC l f n := by rw [swC, if_neg h, if_neg h2]
set_option maxRecDepth 100000 in
set_option maxHeartbeats 4000000 in
theorem switched_c (f n : Int) (w : World) (hT : Tog w) : Calls Tryd.prog 26 #[.int .i64 f, .int .i64 n] w fun e w' => e = .returned (.int .i64 (swC rowsT f n)) ∧ Below w.heap.size w w' := by
  have HL := Lib.hid (tog_load hT)
  have HR0 : Hid (swC (rowsT.drop 0) f n = swC rowsT f n) := Lib.hid rfl
  have HIX := Lib.hid tog_idx
  generalize swC rowsT f n = R at *
  generalize togV = tv at *
  go_enter Tryd.func26, Tryd.ntmps26
  go_wp2_with (refine wpList_load_val rfl 45 (.global 0) rfl (.pointer (some ⟨0, 0, none⟩)) tv rfl HL.out ?_)
  go_loopw [0, 8] (fun u0 u8 wr => ∃ (k : Nat) (f' : Int), k ≤ 9 ∧ u8 = .int .i64 (k : Int) ∧ u0 = .int .i64 f' ∧ Below w.heap.size w wr ∧ Hid (swC (rowsT.drop k) f' n = R)) (fun _ u8 _ => 9 - (intOf u8).toNat)
  case atStart => exact ⟨0, f, by omega, rfl, rfl, Below.refl _ _, HR0⟩
  case round =>
    obtain ⟨k, f', hk, rfl, rfl, hbel, HR⟩ := hrel
    by_cases hlt : k < 9
    · obtain ⟨x, hx⟩ : ∃ x, rowsT[k]? = some x := ⟨_, List.getElem?_eq_getElem (by exact hlt)⟩
      have hix := fun V => HIX.out k x hx V
      have hd := drop_cons hx
      rw [hd] at HR
      obtain ⟨b, on, off⟩ := x
      simp only at hix
      have hb1 : Below w.heap.size w (wr.alloc (.cells #[.int .i64 b, .int .i64 on, .int .i64 off] 44)) := hbel.alloc hbel.size _
      have hlt' : (k : Int) < 9 := by omega
      clear hx hd
      by_cases h1 : n = on
      · have e1 := sw_hit (l := rowsT.drop (k + 1)) (f := f') (x := (b, on, off)) h1
        rw [e1] at HR
        have z1 : (n == on) = true := beq_iff_eq.2 h1
        have hw := fun V : World => with_c f' b V
        rw [HR.out] at hw
        clear h1 e1 HR
        go_wp2_with fail
        refine (hw _).mono ?_
        rintro e w' ⟨rfl, rfl⟩
        clear hw
        go_wp2_with fail
        go_ret
        exact ⟨rfl, hb1⟩
      · have z1 : (n == on) = false := beq_eq_false_iff_ne.2 h1
        by_cases h2 : n = off
        · have e1 := sw_off (l := rowsT.drop (k + 1)) (f := f') (x := (b, on, off)) h1 h2
          rw [e1] at HR
          have z2 : (n == off) = true := beq_iff_eq.2 h2
          clear h1 h2 e1
          go_wp2_with fail
          exact ⟨⟨k + 1, _, by omega, by simp, rfl, hb1, HR⟩, by simp [intOf]; omega⟩
        · have e1 := sw_next (l := rowsT.drop (k + 1)) (f := f') (x := (b, on, off)) h1 h2
          rw [e1] at HR
          have z2 : (n == off) = false := beq_eq_false_iff_ne.2 h2
          clear h1 h2 e1
          go_wp2_with fail
          exact ⟨⟨k + 1, _, by omega, by simp, rfl, hb1, HR⟩, by simp [intOf]; omega⟩
    · have hk9 : k = 9 := by omega
      subst hk9
      have hr := HR.out
      have : swC (rowsT.drop 9) f' n = f' := rfl
      rw [this] at hr
      subst hr
      go_wp2_with fail
      go_ret
      exact ⟨rfl, hbel⟩
end Go.Proofs.YtlcnlfjjglcobaaDoor
