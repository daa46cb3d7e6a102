/- The low bits of an int. Package pen: whether a pen may be (what a colour is of, whether it is one); a pen in a box. Package row, walked: widths, letters. Cells compared with '=='. Package row, walked: whether a cell is torn, whether one may be. Rows, plainly: a row that is mended in its place, from the first cell on. No program here. Rows, plainly: parts one behind the other; what is put, erased, of them. No program here. Package row, walked: whether a row may be. Package history, walked: whether any rows may be kept. Package history, walked: how many cells there are. Of a row of rows at a known place, one. A box of four cells that is stored to, cells in memory beside it. -/
import Derived.Test.YtinbdpfjpcgikaaBase3
import Derived.WalkKit
import Derived.Laws.BitsAll
import Derived.Test.YtinbdpfjpcgikaaChecked
import Derived.Deep.DeepCutAuto
import Derived.ChangeKeysEq
import Derived.Laws.StructEq
namespace Go.Proofs.Ytinbdpfjpcgikaa
open Go Go.RowKit
theorem and_low (r : Int) (k : Nat) (hk : k < 63) : bits .and .i64 r ((2 ^ k - 1 : Nat) : Int) = r % ((2 ^ k : Nat) : Int) := by
  have hp : 0 < 2 ^ k := Nat.two_pow_pos k
  have hp2 : 2 ^ k ≤ 2 ^ 62 := Nat.pow_le_pow_right (by decide) (by omega)
  show IntKind.i64.wrap ((BitVec.ofInt 64 r &&& BitVec.ofInt 64 ((2 ^ k - 1 : Nat) : Int)).toNat : Int) = _
  rw [BitVec.toNat_and, BitVec.toNat_ofInt, BitVec.toNat_ofInt]
  have e1 : (((2 ^ k - 1 : Nat) : Int) % ((2 ^ 64 : Nat) : Int)).toNat = 2 ^ k - 1 := by
    rw [Int.emod_eq_of_lt (by omega) (by omega)]; simp
  rw [e1, Nat.and_two_pow_sub_one_eq_mod]
  have e2 : (((r % ((2 ^ 64 : Nat) : Int)).toNat % 2 ^ k : Nat) : Int) = r % ((2 ^ k : Nat) : Int) := by
    rw [Int.natCast_emod, Int.toNat_of_nonneg (Int.emod_nonneg _ (by decide))]
    exact Int.emod_emod_of_dvd r (Int.natCast_dvd_natCast.2 (Nat.pow_dvd_pow 2 (by omega)))
  rw [e2]
  have h1 : 0 ≤ r % ((2 ^ k : Nat) : Int) := Int.emod_nonneg _ (by omega)
  have h2 : r % ((2 ^ k : Nat) : Int) < ((2 ^ k : Nat) : Int) := Int.emod_lt_of_pos _ (by omega)
  generalize r % ((2 ^ k : Nat) : Int) = z at *
  have h3 : z < 4611686018427387904 := by omega
  rw [IntKind.wrap_i64]; omega
theorem and_127 (r : Int) : bits .and .i64 r 127 = r % 128 := and_low r 7 (by decide)
theorem and_7 (r : Int) : bits .and .i64 r 7 = r % 8 := and_low r 3 (by decide)
theorem and_65535 (r : Int) : bits .and .i64 r 65535 = r % 65536 := and_low r 16 (by decide)
end Go.Proofs.Ytinbdpfjpcgikaa

namespace Go.Proofs.Ytinbdpfjpcgikaa
open Go Go.RowKit
set_option linter.unusedVariables false
set_option linter.unusedSimpArgs false

theorem Box.three {W : World} {g : Nat} {t : TypeId} {a b c : Value} (h : Box W g t #[a, b, c]) :
    (W.cell? ⟨g, 0, none⟩ = some a ∧ W.cell? ⟨g, 1, none⟩ = some b ∧ W.cell? ⟨g, 2, none⟩ = some c) ∧ W.frozen? ⟨g, 0, none⟩ = false ∧ W.frozen? ⟨g, 1, none⟩ = false ∧ W.frozen? ⟨g, 2, none⟩ = false :=
  ⟨⟨h.cell 0, h.cell 1, h.cell 2⟩, h.free 0, h.free 1, h.free 2⟩
def Sane7C : Prop := ∀ (p : Pn) (w : World), PnOk p → Calls Try.prog 44 #[pnV p] w fun e w' => e = .returned (.bool (decide (SaneN p))) ∧ Below w.heap.size w w'
theorem Box.pen {w : World} {a b c : Value} : Box (w.alloc (.cells #[a, b, c] 64)) w.heap.size 64 #[a, b, c] := Box.new w 64 _
theorem and_255' (r : Int) : bits .and .i64 r 255 = r % 256 := and_low r 8 (by decide)
theorem results_four {fn : Func} {t u v x : Tmp} (h : fn.results = #[.tmp t, .tmp u, .tmp v, .tmp x]) (tmps : Array Value) (P : Program) (w : World) :
    (results fn tmps).run P w = .ok (.tuple #[tmps.getD t undef, tmps.getD u undef, tmps.getD v undef, tmps.getD x undef]) w := by
  simp [results, h, go_sem]
theorem parts_s (c : Int) (w : World) (hc : I64 c) : Calls Try.prog 54 #[.int .i64 c] w fun e w' => e = .returned (.tuple #[.int .i64 (partsN c).1, .int .i64 (partsN c).2.1, .int .i64 (partsN c).2.2.1, .int .i64 (partsN c).2.2.2]) ∧ w = w' := by
  unfold I64 at hc
  obtain ⟨hc0, hc1⟩ := hc
  have a1 := and_255' c
  have a2 := and_255' (c / 65536)
  have a3 := and_255' (c / 256)
  unfold partsN
  by_cases h0 : c = 0
  · subst h0
    rw [if_pos rfl]
    go_enter Try.func54, Try.ntmps54
    go_wp2
    refine bodyPost_ret (results_four rfl _ _ _) rfl ?_
    exact ⟨rfl, rfl⟩
  · rw [if_neg h0]
    have z0 : (c == 0) = false := beq_eq_false_iff_ne.2 h0
    by_cases h1 : 1 ≤ c ∧ c ≤ 256
    · rw [if_pos h1]
      obtain ⟨k0, k1⟩ := h1
      go_enter Try.func54, Try.ntmps54
      go_wp2
      refine bodyPost_ret (results_four rfl _ _ _) rfl ?_
      exact ⟨rfl, rfl⟩
    · rw [if_neg h1]
      by_cases h2 : 16777216 ≤ c ∧ c < 33554432
      · rw [if_pos h2]
        obtain ⟨k0, k1⟩ := h2
        have k2 : ¬ c ≤ 256 := by omega
        go_enter Try.func54, Try.ntmps54
        go_wp2
        refine bodyPost_ret (results_four rfl _ _ _) rfl ?_
        exact ⟨rfl, rfl⟩
      · rw [if_neg h2]
        rcases (show c < 1 ∨ (256 < c ∧ (c < 16777216 ∨ 33554432 ≤ c)) by omega) with k | ⟨k, k | k⟩
        all_goals
          go_enter Try.func54, Try.ntmps54
          go_wp2
          refine bodyPost_ret (results_four rfl _ _ _) rfl ?_
          exact ⟨rfl, rfl⟩
theorem isCol_c (c : Int) (hc : I64 c) (w : World) : Calls Try.prog 51 #[.int .i64 c] w fun e w' => e = .returned (.bool (decide (ColOk c))) ∧ w = w' := by
  have h := parts_s c w hc
  have e1 : decide (ColOk c) = ((partsN c).1 != 3) := by
    by_cases k : ColOk c
    · rw [decide_eq_true k]; exact (bne_iff_ne.2 ((parts_ok c).1 k)).symm
    · rw [decide_eq_false k]
      have : (partsN c).1 = 3 := by
        by_cases k2 : (partsN c).1 = 3
        · exact k2
        · exact absurd ((parts_ok c).2 k2) k
      rw [this]; rfl
  rw [e1]
  clear e1
  generalize (partsN c).1 = a at *
  generalize (partsN c).2.1 = b at *
  generalize (partsN c).2.2.1 = d at *
  generalize (partsN c).2.2.2 = f at *
  go_enter Try.func51, Try.ntmps51
  go_wp2_with fail
  refine h.mono ?_
  rintro e w' ⟨rfl, rfl⟩
  clear h
  go_wp2
  go_ret
  exact ⟨rfl, rfl⟩
theorem sane7_c : Sane7C := by
  intro p w hok
  obtain ⟨a, b, f⟩ := p
  have v1 : pnV ⟨a, b, f⟩ = .agg #[.int .i64 a, .int .i64 b, .int .i64 f] := rfl
  obtain ⟨i0, i1, i2⟩ := hok
  simp only at i0 i1 i2
  have b1 : Below w.heap.size w (w.alloc (.cells #[.int .i64 a, .int .i64 b, .int .i64 f] 64)) := (Below.refl _ _).alloc (Nat.le_refl _) _
  have c1 := isCol_c a i0 (w.alloc (.cells #[.int .i64 a, .int .i64 b, .int .i64 f] 64))
  have c2 := isCol_c b i1 (w.alloc (.cells #[.int .i64 a, .int .i64 b, .int .i64 f] 64))
  rw [v1]
  by_cases h1 : ColOk a
  · rw [decide_eq_true h1] at c1
    by_cases h2 : ColOk b
    · rw [decide_eq_true h2] at c2
      have e : decide (SaneN ⟨a, b, f⟩) = decide (0 ≤ f ∧ f ≤ 511) := by
        refine decide_eq_decide.2 ⟨fun h => h.2.2, fun h => ⟨h1, h2, h.1, h.2⟩⟩
      rw [e]
      clear e h1 h2
      rcases (show (0 ≤ f ∧ f ≤ 511) ∨ f < 0 ∨ (0 ≤ f ∧ 511 < f) by omega) with ⟨k0, k1⟩ | k0 | ⟨k0, k1⟩
      · rw [decide_eq_true ⟨k0, k1⟩]
        go_enter Try.func44, Try.ntmps44
        go_wp2_with fail
        refine c1.mono ?_
        rintro e w' ⟨rfl, rfl⟩
        go_wp2_with fail
        refine c2.mono ?_
        rintro e w' ⟨rfl, rfl⟩
        go_wp2
        go_ret
        exact ⟨rfl, b1⟩
      · rw [decide_eq_false (by omega)]
        have z0 : ¬ 0 ≤ f := by omega
        go_enter Try.func44, Try.ntmps44
        go_wp2_with fail
        refine c1.mono ?_
        rintro e w' ⟨rfl, rfl⟩
        go_wp2_with fail
        refine c2.mono ?_
        rintro e w' ⟨rfl, rfl⟩
        go_wp2
        go_ret
        exact ⟨rfl, b1⟩
      · rw [decide_eq_false (by omega)]
        have z0 : ¬ f ≤ 511 := by omega
        go_enter Try.func44, Try.ntmps44
        go_wp2_with fail
        refine c1.mono ?_
        rintro e w' ⟨rfl, rfl⟩
        go_wp2_with fail
        refine c2.mono ?_
        rintro e w' ⟨rfl, rfl⟩
        go_wp2
        go_ret
        exact ⟨ret_bool (decide_eq_false (by omega)), b1⟩
    · rw [decide_eq_false h2] at c2
      have e : decide (SaneN ⟨a, b, f⟩) = false := decide_eq_false fun h => h2 h.2.1
      rw [e]
      clear e h1 h2
      go_enter Try.func44, Try.ntmps44
      go_wp2_with fail
      refine c1.mono ?_
      rintro e w' ⟨rfl, rfl⟩
      go_wp2_with fail
      refine c2.mono ?_
      rintro e w' ⟨rfl, rfl⟩
      go_wp2
      go_ret
      exact ⟨rfl, b1⟩
  · rw [decide_eq_false h1] at c1
    have e : decide (SaneN ⟨a, b, f⟩) = false := decide_eq_false fun h => h1 h.1
    rw [e]
    clear e h1 c2
    go_enter Try.func44, Try.ntmps44
    go_wp2_with fail
    refine c1.mono ?_
    rintro e w' ⟨rfl, rfl⟩
    go_wp2
    go_ret
    exact ⟨rfl, b1⟩
end Go.Proofs.Ytinbdpfjpcgikaa

namespace Go.Proofs.Ytinbdpfjpcgikaa
open Go Go.RowKit
set_option linter.unusedVariables false
set_option linter.unusedSimpArgs false

theorem ret8_cl {fn : Func} {p : Tmp} (h : fn.results = #[.cell p 66]) (x : Cl) (tmps : Array Value) (W : World) (g : Nat) (t : TypeId) (hp : tmps.getD p undef = .pointer (some ⟨g, 0, none⟩)) (hg : Box W g t #[.int .i64 x.r, .int .i64 x.m0, .int .i64 x.m1, .int .i64 x.w, .int .i64 x.pen.fg, .int .i64 x.pen.bg, .int .i64 x.pen.fl]) :
    (results fn tmps).run Try.prog W = .ok (clV x) W :=
  results_cell_row h tmps W g t _ (0, 0) _ hp hg Try.underlying66 rfl (by kernel_rfl)
theorem ret8_rw {fn : Func} {p : Tmp} (h : fn.results = #[.cell p 35]) (r : Rw) (A : Option Addr) (c : Nat) (tmps : Array Value) (W : World) (g : Nat) (t : TypeId) (hp : tmps.getD p undef = .pointer (some ⟨g, 0, none⟩)) (hg : Box W g t (rwCells r A c)) :
    (results fn tmps).run Try.prog W = .ok (rwV r A c) W :=
  results_cell_row h tmps W g t (rwCells r A c) (0, 0) _ hp hg Try.underlying35 rfl (by kernel_rfl)
theorem box8_1 (w : World) (o : Obj) (t : TypeId) (cs : Array Value) : Box ((w.alloc o).alloc (.cells cs t)) (w.heap.size + 1) t cs := by
  have h := Box.new (w.alloc o) t cs
  simpa using h
theorem width8_c (n : Int) (w : World) (hn : I64 n) : Calls Try.prog 43 #[.int .i64 n] w fun e w' => e = .returned (.int .i64 (max 1 (min n 4096))) ∧ w = w' := by
  unfold I64 at hn
  obtain ⟨hn0, hn1⟩ := hn
  generalize hR : max 1 (min n 4096) = R
  have HR := Lib.hid hR
  clear hR
  go_enter Try.func43, Try.ntmps43
  go_wp2
  all_goals
    go_ret
    exact ⟨ret_int (by rw [← HR.out] <;> omega), rfl⟩
theorem letter8_c (n : Int) (w : World) : Calls Try.prog 52 #[.int .i64 n] w fun e w' => e = .returned (.bool (decide (LetC n))) ∧ w = w' := by
  rcases (show n < 0 ∨ (0 ≤ n ∧ n ≤ 1114111) ∨ (0 ≤ n ∧ 1114111 < n) by omega) with k | ⟨k, k'⟩ | ⟨k, k'⟩
  · rw [show decide (LetC n) = false from decide_eq_false (by unfold LetC; omega)]
    have z : ¬ 0 ≤ n := by omega
    go_enter Try.func52, Try.ntmps52
    go_wp2
    go_ret
    exact ⟨rfl, rfl⟩
  · rw [show decide (LetC n) = true from decide_eq_true (by unfold LetC; omega)]
    go_enter Try.func52, Try.ntmps52
    go_wp2
    go_ret
    exact ⟨rfl, rfl⟩
  · rw [show decide (LetC n) = false from decide_eq_false (by unfold LetC; omega)]
    have z : ¬ n ≤ 1114111 := by omega
    go_enter Try.func52, Try.ntmps52
    go_wp2
    go_ret
    exact ⟨rfl, rfl⟩
end Go.Proofs.Ytinbdpfjpcgikaa

namespace Go.Proofs.Ytinbdpfjpcgikaa
open Go Go.RowKit
set_option linter.unusedVariables false
set_option linter.unusedSimpArgs false

theorem arr_equal (d : Nat) (a b a' b' : Int) (V : World) : (Op.equalIn (d + 2) 62 (.agg #[.int .i64 a, .int .i64 b]) (.agg #[.int .i64 a', .int .i64 b'])).run Try.prog V = .ok (a == a' && b == b') V := by
  obtain ⟨i, hi⟩ : ∃ i, Try.prog.info? 3 = some i := Option.isSome_iff_exists.1 (by kernel_rfl)
  rw [run_equalIn_array V (d + 1) _ _ Try.underlying62 hi]
  have h1 : Try.prog.cellsOf 3 = 1 := by kernel_rfl
  rw [h1]
  have p0 : ∀ x y : Int, (part 3 #[.int .i64 x, .int .i64 y] 0).run Try.prog V = .ok (.int .i64 x) V := fun x y => by kernel_rfl
  have p1 : ∀ x y : Int, (part 3 #[.int .i64 x, .int .i64 y] 1).run Try.prog V = .ok (.int .i64 y) V := fun x y => by kernel_rfl
  have q : ∀ x y : Int, (Op.equalIn (d + 1) 3 (.int .i64 x) (.int .i64 y)).run Try.prog V = .ok (x == y) V := fun x y => run_equalIn_int V d _ _ _ _ _ Try.underlying3
  have hr : List.range 2 = [0, 1] := rfl
  rw [hr]
  simp only [Op.eqItems, Sem.run_bind, Nat.zero_mul, Nat.one_mul, p0, p1, q, Result.andThen_ok, Sem.run_ite, Sem.run_pure]
  cases (a == a') <;> cases (b == b') <;> simp [Result.andThen_ok]
theorem pen_equal (d : Nat) (a b c a' b' c' : Int) (V : World) : (Op.equalIn (d + 2) 64 (.agg #[.int .i64 a, .int .i64 b, .int .i64 c]) (.agg #[.int .i64 a', .int .i64 b', .int .i64 c'])).run Try.prog V = .ok (a == a' && (b == b' && c == c')) V := by
  rw [run_equalIn_struct V (d + 1) 64 _ _ (by kernel_rfl) (by kernel_rfl)]
  have p0 : ∀ x y z : Int, (part 3 #[.int .i64 x, .int .i64 y, .int .i64 z] 0).run Try.prog V = .ok (.int .i64 x) V := fun x y z => by kernel_rfl
  have p1 : ∀ x y z : Int, (part 3 #[.int .i64 x, .int .i64 y, .int .i64 z] 1).run Try.prog V = .ok (.int .i64 y) V := fun x y z => by kernel_rfl
  have p2 : ∀ x y z : Int, (part 3 #[.int .i64 x, .int .i64 y, .int .i64 z] 2).run Try.prog V = .ok (.int .i64 z) V := fun x y z => by kernel_rfl
  have q : ∀ x y : Int, (Op.equalIn (d + 1) 3 (.int .i64 x) (.int .i64 y)).run Try.prog V = .ok (x == y) V := fun x y => run_equalIn_int V d _ _ _ _ _ Try.underlying3
  simp only [Program.fieldsOf, Try.underlying64, Op.eqFields, Sem.run_bind, p0, p1, p2, q, Result.andThen_ok, Sem.run_ite, Sem.run_pure]
  cases (a == a') <;> cases (b == b') <;> cases (c == c') <;> simp [Result.andThen_ok]
theorem cell_equal (x y : Cl) (V : World) : (Op.equalIn 10000 66 (clV x) (clV y)).run Try.prog V = .ok (decide (x = y)) V := by
  obtain ⟨r, m0, m1, cw, ⟨fg, bg, fl⟩⟩ := x
  obtain ⟨r', m0', m1', cw', ⟨fg', bg', fl'⟩⟩ := y
  unfold clV
  rw [run_equalIn_struct V 9999 66 _ _ (by kernel_rfl) (by kernel_rfl)]
  have p0 : ∀ a b c d e f g : Int, (part 3 #[.int .i64 a, .int .i64 b, .int .i64 c, .int .i64 d, .int .i64 e, .int .i64 f, .int .i64 g] 0).run Try.prog V = .ok (.int .i64 a) V := fun _ _ _ _ _ _ _ => by kernel_rfl
  have p1 : ∀ a b c d e f g : Int, (part 62 #[.int .i64 a, .int .i64 b, .int .i64 c, .int .i64 d, .int .i64 e, .int .i64 f, .int .i64 g] 1).run Try.prog V = .ok (.agg #[.int .i64 b, .int .i64 c]) V := fun _ _ _ _ _ _ _ => by kernel_rfl
  have p2 : ∀ a b c d e f g : Int, (part 3 #[.int .i64 a, .int .i64 b, .int .i64 c, .int .i64 d, .int .i64 e, .int .i64 f, .int .i64 g] 3).run Try.prog V = .ok (.int .i64 d) V := fun _ _ _ _ _ _ _ => by kernel_rfl
  have p3 : ∀ a b c d e f g : Int, (part 64 #[.int .i64 a, .int .i64 b, .int .i64 c, .int .i64 d, .int .i64 e, .int .i64 f, .int .i64 g] 4).run Try.prog V = .ok (.agg #[.int .i64 e, .int .i64 f, .int .i64 g]) V := fun _ _ _ _ _ _ _ => by kernel_rfl
  have q : ∀ x y : Int, (Op.equalIn 9999 3 (.int .i64 x) (.int .i64 y)).run Try.prog V = .ok (x == y) V := fun x y => run_equalIn_int V 9998 _ _ _ _ _ Try.underlying3
  have qa := fun a b a' b' => arr_equal 9997 a b a' b' V
  have qp := fun a b c a' b' c' => pen_equal 9997 a b c a' b' c' V
  simp only [Program.fieldsOf, Try.underlying66, Op.eqFields, Sem.run_bind, p0, p1, p2, p3, q, qa, qp, Result.andThen_ok, Sem.run_ite, Sem.run_pure]
  have e : decide ((⟨r, m0, m1, cw, ⟨fg, bg, fl⟩⟩ : Cl) = ⟨r', m0', m1', cw', ⟨fg', bg', fl'⟩⟩) = (r == r' && ((m0 == m0' && m1 == m1') && (cw == cw' && (fg == fg' && (bg == bg' && fl == fl'))))) := by
    rw [Bool.eq_iff_iff]
    simp [and_assoc]
  rw [e]
  cases (r == r') <;> cases (m0 == m0' && m1 == m1') <;> cases (cw == cw') <;> cases (fg == fg' && (bg == bg' && fl == fl')) <;> simp [Result.andThen_ok]
theorem cell_neq (x y : Cl) (V : World) : (binOp .neq 66 (clV x) (clV y)).run Try.prog V = .ok (.bool (!decide (x = y))) V := by
  have h := cell_equal x y V
  unfold clV at h ⊢
  rw [run_neq_struct, h]
  rfl
theorem cell_eql (x y : Cl) (V : World) : (binOp .eql 66 (clV x) (clV y)).run Try.prog V = .ok (.bool (decide (x = y))) V := by
  have h := cell_equal x y V
  unfold clV at h ⊢
  rw [run_eql_struct, h]
  rfl
theorem pen_eql (p q : Pn) (V : World) : (binOp .eql 64 (.agg #[.int .i64 p.fg, .int .i64 p.bg, .int .i64 p.fl]) (.agg #[.int .i64 q.fg, .int .i64 q.bg, .int .i64 q.fl])).run Try.prog V = .ok (.bool (decide (p = q))) V := by
  have h := pen_equal 9998 p.fg p.bg p.fl q.fg q.bg q.fl V
  rw [run_eql_struct, h]
  obtain ⟨a, b, c⟩ := p
  obtain ⟨a', b', c'⟩ := q
  have e : decide ((⟨a, b, c⟩ : Pn) = ⟨a', b', c'⟩) = (a == a' && (b == b' && c == c')) := by
    rw [Bool.eq_iff_iff]; simp
  rw [e]
  rfl
theorem pen_neq (p q : Pn) (V : World) : (binOp .neq 64 (.agg #[.int .i64 p.fg, .int .i64 p.bg, .int .i64 p.fl]) (.agg #[.int .i64 q.fg, .int .i64 q.bg, .int .i64 q.fl])).run Try.prog V = .ok (.bool (!decide (p = q))) V := by
  have h := pen_equal 9998 p.fg p.bg p.fl q.fg q.bg q.fl V
  rw [run_neq_struct, h]
  obtain ⟨a, b, c⟩ := p
  obtain ⟨a', b', c'⟩ := q
  have e : decide ((⟨a, b, c⟩ : Pn) = ⟨a', b', c'⟩) = (a == a' && (b == b' && c == c')) := by
    rw [Bool.eq_iff_iff]; simp
  rw [e]
  rfl
end Go.Proofs.Ytinbdpfjpcgikaa

namespace Go.Proofs.Ytinbdpfjpcgikaa
open Go Go.RowKit
set_option linter.unusedVariables false
set_option linter.unusedSimpArgs false

set_option maxRecDepth 100000 in
set_option maxHeartbeats 400000 in
theorem torn8_c (A : Option Addr) (c : Nat) (l : List Cl) (k : Nat) (w : World) (hin : InC w A c l) (hk : k < l.length) : Calls Try.prog 46 #[.slice A l.length c, .int .i64 (k : Int)] w fun e w' => e = .returned (.bool (decide (BadAt l k))) ∧ w = w' := by
  obtain ⟨x, hx⟩ : ∃ x, l[k]? = some x := ⟨_, List.getElem?_eq_getElem hk⟩
  have hwx : wAt l k = x.w := wAt_some hx
  have hcap := hin.cap
  have hmax := hin.len
  unfold maxLen at hmax
  obtain ⟨b, o, rfl, pb, -, -, -, k3, -, -, -⟩ := hin.at_ hx
  have z1 : (k : Int) < (l.length : Int) := by omega
  generalize hR : decide (BadAt l k) = R
  have HR := Lib.hid hR
  clear hR
  by_cases w2 : x.w = 2
  · have e2 : (x.w == 2) = true := by rw [w2]; rfl
    by_cases hl : k + 1 = l.length
    · have HS : Hid (R = true) := Lib.hid (by
        rw [← HR.out]
        refine decide_eq_true (.inl ⟨by omega, ?_⟩)
        rw [wAt_none (by omega)]; omega)
      have z2 : ((k : Int) == (l.length : Int) - 1) = true := beq_iff_eq.2 (by omega)
      clear hx hwx w2 hl hin
      go_enter Try.func46, Try.ntmps46
      go_wp2
      go_ret
      exact ⟨ret_bool HS.out.symm, rfl⟩
    · obtain ⟨y, hy⟩ : ∃ y, l[k + 1]? = some y := ⟨_, List.getElem?_eq_getElem (by omega)⟩
      have hwy : wAt l (k + 1) = y.w := wAt_some hy
      obtain ⟨b', o', e, _, -, -, -, n3, -, -, -⟩ := hin.at_ hy
      injection e with e
      injection e with e1 e2
      subst e1; subst e2
      have z2 : ((k : Int) == (l.length : Int) - 1) = false := beq_eq_false_iff_ne.2 (by omega)
      have z3 : (k : Int) + 1 < (l.length : Int) := by omega
      have HS : Hid (R = (y.w != 0)) := Lib.hid (by
        rw [← HR.out]
        by_cases h : y.w = 0
        · rw [h]; exact decide_eq_false (by unfold BadAt; omega)
        · rw [bne_iff_ne.2 h]; exact decide_eq_true (by unfold BadAt; omega))
      clear hx hwx w2 hl hin hy hwy
      go_enter Try.func46, Try.ntmps46
      go_wp2
      go_ret
      exact ⟨ret_bool HS.out.symm, rfl⟩
  · have e2 : (x.w == 2) = false := beq_eq_false_iff_ne.2 w2
    by_cases w0 : x.w = 0
    · have e0 : (x.w == 0) = true := by rw [w0]; rfl
      by_cases hl : k = 0
      · have HS : Hid (R = true) := Lib.hid (by
          rw [← HR.out]
          exact decide_eq_true (.inr ⟨by omega, .inl hl⟩))
        have z2 : ((k : Int) == 0) = true := beq_iff_eq.2 (by omega)
        clear hx hwx w2 w0 hl hin
        go_enter Try.func46, Try.ntmps46
        go_wp2
        go_ret
        exact ⟨ret_bool HS.out.symm, rfl⟩
      · obtain ⟨j, rfl⟩ : ∃ j, k = j + 1 := ⟨k - 1, by omega⟩
        obtain ⟨y, hy⟩ : ∃ y, l[j]? = some y := ⟨_, List.getElem?_eq_getElem (by omega)⟩
        have hwy : wAt l (j + 1 - 1) = y.w := wAt_some hy
        obtain ⟨b', o', e, _, -, -, -, n3, -, -, -⟩ := hin.at_ hy
        injection e with e
        injection e with e1 e2
        subst e1; subst e2
        have ej : ((j + 1 : Nat) : Int) = (j : Int) + 1 := by omega
        have z2 : ((j : Int) + 1 == 0) = false := beq_eq_false_iff_ne.2 (by omega)
        have z3 : (j : Int) + 1 < (l.length : Int) := by omega
        have HS : Hid (R = (y.w != 2)) := Lib.hid (by
          rw [← HR.out]
          by_cases h : y.w = 2
          · rw [h]; exact decide_eq_false (by unfold BadAt; omega)
          · rw [bne_iff_ne.2 h]; exact decide_eq_true (by unfold BadAt; omega))
        clear hx hwx w2 w0 hl hin hy hwy z1
        rw [ej]
        clear ej
        go_enter Try.func46, Try.ntmps46
        go_wp2
        go_ret
        exact ⟨ret_bool HS.out.symm, rfl⟩
    · have e0 : (x.w == 0) = false := beq_eq_false_iff_ne.2 w0
      have HS : Hid (R = false) := Lib.hid (by
        rw [← HR.out]
        exact decide_eq_false (by unfold BadAt; omega))
      clear hx hwx w2 w0 hin
      go_enter Try.func46, Try.ntmps46
      go_wp2
      go_ret
      exact ⟨ret_bool HS.out.symm, rfl⟩
def MayC (c : Cl) : Prop := (0 ≤ c.w ∧ c.w ≤ 2) ∧ (LetC c.r ∧ LetC c.m0 ∧ LetC c.m1) ∧ (c.m0 ≠ 0 ∨ c.m1 = 0) ∧ (c.r ≠ 0 ∨ c.m0 = 0) ∧ (c.w ≠ 0 ∨ c.r = 0) ∧ (c.w ≠ 2 ∨ c.r ≠ 0)
instance (c : Cl) : Decidable (MayC c) := inferInstanceAs (Decidable (_ ∧ _ ∧ _ ∧ _ ∧ _ ∧ _))
theorem one_may {c : Cl} : OneC c ↔ SaneN c.pen ∧ MayC c := by
  unfold OneC MayC
  exact ⟨fun h => ⟨h.2.2.1, h.1, h.2.1, h.2.2.2⟩, fun h => ⟨h.2.1, h.2.2.1, h.1, h.2.2.2⟩⟩
theorem arr_eql (a b c d : Int) (V : World) : (binOp .eql 62 (.agg #[.int .i64 a, .int .i64 b]) (.agg #[.int .i64 c, .int .i64 d])).run Try.prog V = .ok (.bool (a == c && b == d)) V := by
  have h := arr_equal 9998 a b c d V
  rw [run_eql_struct, h]
  rfl
set_option maxRecDepth 100000 in
set_option maxHeartbeats 400000 in
theorem may8_c (x : Cl) (b o : Nat) (w : World)
    (h0 : w.cell? ⟨b, o, none⟩ = some (.int .i64 x.r)) (h1 : w.cell? ⟨b, o + 1, none⟩ = some (.int .i64 x.m0)) (h2 : w.cell? ⟨b, o + 2, none⟩ = some (.int .i64 x.m1)) (h3 : w.cell? ⟨b, o + 3, none⟩ = some (.int .i64 x.w)) :
    Calls Try.prog 45 #[.pointer (some ⟨b, o, none⟩)] w fun e w' => e = .returned (.bool (decide (MayC x))) ∧ w = w' := by
  obtain ⟨r, m0, m1, cw, p⟩ := x
  simp only at h0 h1 h2 h3
  generalize hR : decide (MayC ⟨r, m0, m1, cw, p⟩) = R
  have HR := Lib.hid hR
  clear hR
  by_cases hr : r = 0
  · have er : (r == 0) = true := by rw [hr]; rfl
    have hq := fun V => arr_eql m0 m1 0 0 V
    by_cases hw : cw = 0 ∨ cw = 1
    · have HS : Hid (R = (m0 == 0 && m1 == 0)) := Lib.hid (by
        rw [← HR.out, Bool.eq_iff_iff]
        simp only [decide_eq_true_eq, Bool.and_eq_true, beq_iff_eq]
        unfold MayC LetC
        simp only
        omega)
      rcases (show cw = 0 ∨ (cw ≠ 0 ∧ cw = 1) by omega) with k | ⟨k, k'⟩
      · have e0 : (cw == 0) = true := by rw [k]; rfl
        clear hr hw k
        go_enter Try.func45, Try.ntmps45
        go_wp2
        go_ret
        exact ⟨ret_bool HS.out.symm, rfl⟩
      · have e0 : (cw == 0) = false := beq_eq_false_iff_ne.2 k
        have e1 : (cw == 1) = true := by rw [k']; rfl
        clear hr hw k k'
        go_enter Try.func45, Try.ntmps45
        go_wp2
        go_ret
        exact ⟨ret_bool HS.out.symm, rfl⟩
    · have HS : Hid (R = false) := Lib.hid (by
        rw [← HR.out]
        refine decide_eq_false ?_
        unfold MayC LetC
        simp only
        omega)
      have e0 : (cw == 0) = false := beq_eq_false_iff_ne.2 (by omega)
      have e1 : (cw == 1) = false := beq_eq_false_iff_ne.2 (by omega)
      clear hr hw
      go_enter Try.func45, Try.ntmps45
      go_wp2
      go_ret
      exact ⟨ret_bool HS.out.symm, rfl⟩
  · have er : (r == 0) = false := beq_eq_false_iff_ne.2 hr
    have c0 := fun V => letter8_c r V
    have c1 := fun V => letter8_c m0 V
    have c2 := fun V => letter8_c m1 V
    by_cases hm : m0 = 0 ∧ m1 ≠ 0
    · have HS : Hid (R = false) := Lib.hid (by
        rw [← HR.out]
        refine decide_eq_false ?_
        unfold MayC LetC
        simp only
        omega)
      have e0 : (m0 == 0) = true := by rw [hm.1]; rfl
      have e1 : (m1 != 0) = true := bne_iff_ne.2 hm.2
      clear hr hm c0 c1 c2
      go_enter Try.func45, Try.ntmps45
      go_wp2
      go_ret
      exact ⟨ret_bool HS.out.symm, rfl⟩
    · have HE : Hid (R = (decide (cw = 1 ∨ cw = 2) && decide (LetC r) && decide (LetC m0) && decide (LetC m1))) := Lib.hid (by
        rw [← HR.out, Bool.eq_iff_iff]
        simp only [decide_eq_true_eq, Bool.and_eq_true]
        unfold MayC LetC
        simp only
        omega)
      generalize decide (LetC r) = l0 at *
      generalize decide (LetC m0) = l1 at *
      generalize decide (LetC m1) = l2 at *
      clear HR
      by_cases hm0 : m0 = 0
      · have e0 : (m0 == 0) = true := by rw [hm0]; rfl
        have e1 : (m1 != 0) = false := by rw [show m1 = 0 by omega]; rfl
        clear hm hm0
        rcases (show cw = 1 ∨ (cw ≠ 1 ∧ cw = 2) ∨ (cw ≠ 1 ∧ cw ≠ 2) by omega) with k | ⟨k, k'⟩ | ⟨k, k'⟩
        · have f1 : (cw == 1) = true := by rw [k]; rfl
          have HK : Hid (cw = 1) := Lib.hid k
          clear k hr
          go_enter Try.func45, Try.ntmps45
          cases l0 with
          | false =>
            have HS : Hid (R = false) := Lib.hid (by rw [HE.out]; simp)
            go_wp2_with fail
            refine (c0 _).mono ?_
            rintro e w' ⟨rfl, rfl⟩
            clear c0 HE
            go_wp2_with fail
            go_ret
            exact ⟨ret_bool HS.out.symm, rfl⟩
          | true =>
            go_wp2_with fail
            refine (c0 _).mono ?_
            rintro e w' ⟨rfl, rfl⟩
            clear c0
            cases l1 with
            | false =>
              have HS : Hid (R = false) := Lib.hid (by rw [HE.out]; simp)
              go_wp2_with fail
              refine (c1 _).mono ?_
              rintro e w' ⟨rfl, rfl⟩
              clear c1 HE
              go_wp2_with fail
              go_ret
              exact ⟨ret_bool HS.out.symm, rfl⟩
            | true =>
              have HS : Hid (R = l2) := Lib.hid (by rw [HE.out]; simp [HK.out])
              clear HE
              go_wp2_with fail
              refine (c1 _).mono ?_
              rintro e w' ⟨rfl, rfl⟩
              clear c1
              go_wp2_with fail
              refine (c2 _).mono ?_
              rintro e w' ⟨rfl, rfl⟩
              clear c2
              go_wp2_with fail
              go_ret
              exact ⟨ret_bool HS.out.symm, rfl⟩
        · have f1 : (cw == 1) = false := beq_eq_false_iff_ne.2 k
          have f2 : (cw == 2) = true := by rw [k']; rfl
          have HK : Hid (cw = 2) := Lib.hid k'
          clear k k' hr
          go_enter Try.func45, Try.ntmps45
          cases l0 with
          | false =>
            have HS : Hid (R = false) := Lib.hid (by rw [HE.out]; simp)
            go_wp2_with fail
            refine (c0 _).mono ?_
            rintro e w' ⟨rfl, rfl⟩
            clear c0 HE
            go_wp2_with fail
            go_ret
            exact ⟨ret_bool HS.out.symm, rfl⟩
          | true =>
            go_wp2_with fail
            refine (c0 _).mono ?_
            rintro e w' ⟨rfl, rfl⟩
            clear c0
            cases l1 with
            | false =>
              have HS : Hid (R = false) := Lib.hid (by rw [HE.out]; simp)
              go_wp2_with fail
              refine (c1 _).mono ?_
              rintro e w' ⟨rfl, rfl⟩
              clear c1 HE
              go_wp2_with fail
              go_ret
              exact ⟨ret_bool HS.out.symm, rfl⟩
            | true =>
              have HS : Hid (R = l2) := Lib.hid (by rw [HE.out]; simp [HK.out])
              clear HE
              go_wp2_with fail
              refine (c1 _).mono ?_
              rintro e w' ⟨rfl, rfl⟩
              clear c1
              go_wp2_with fail
              refine (c2 _).mono ?_
              rintro e w' ⟨rfl, rfl⟩
              clear c2
              go_wp2_with fail
              go_ret
              exact ⟨ret_bool HS.out.symm, rfl⟩
        · have f1 : (cw == 1) = false := beq_eq_false_iff_ne.2 k
          have f2 : (cw == 2) = false := beq_eq_false_iff_ne.2 k'
          have HS : Hid (R = false) := Lib.hid (by rw [HE.out, decide_eq_false (by omega : ¬ (cw = 1 ∨ cw = 2))]; simp)
          clear k k' hr HE c0 c1 c2
          go_enter Try.func45, Try.ntmps45
          go_wp2
          go_ret
          exact ⟨ret_bool HS.out.symm, rfl⟩
      · have e0 : (m0 == 0) = false := beq_eq_false_iff_ne.2 hm0
        clear hm hm0
        rcases (show cw = 1 ∨ (cw ≠ 1 ∧ cw = 2) ∨ (cw ≠ 1 ∧ cw ≠ 2) by omega) with k | ⟨k, k'⟩ | ⟨k, k'⟩
        · have f1 : (cw == 1) = true := by rw [k]; rfl
          have HK : Hid (cw = 1) := Lib.hid k
          clear k hr
          go_enter Try.func45, Try.ntmps45
          cases l0 with
          | false =>
            have HS : Hid (R = false) := Lib.hid (by rw [HE.out]; simp)
            go_wp2_with fail
            refine (c0 _).mono ?_
            rintro e w' ⟨rfl, rfl⟩
            clear c0 HE
            go_wp2_with fail
            go_ret
            exact ⟨ret_bool HS.out.symm, rfl⟩
          | true =>
            go_wp2_with fail
            refine (c0 _).mono ?_
            rintro e w' ⟨rfl, rfl⟩
            clear c0
            cases l1 with
            | false =>
              have HS : Hid (R = false) := Lib.hid (by rw [HE.out]; simp)
              go_wp2_with fail
              refine (c1 _).mono ?_
              rintro e w' ⟨rfl, rfl⟩
              clear c1 HE
              go_wp2_with fail
              go_ret
              exact ⟨ret_bool HS.out.symm, rfl⟩
            | true =>
              have HS : Hid (R = l2) := Lib.hid (by rw [HE.out]; simp [HK.out])
              clear HE
              go_wp2_with fail
              refine (c1 _).mono ?_
              rintro e w' ⟨rfl, rfl⟩
              clear c1
              go_wp2_with fail
              refine (c2 _).mono ?_
              rintro e w' ⟨rfl, rfl⟩
              clear c2
              go_wp2_with fail
              go_ret
              exact ⟨ret_bool HS.out.symm, rfl⟩
        · have f1 : (cw == 1) = false := beq_eq_false_iff_ne.2 k
          have f2 : (cw == 2) = true := by rw [k']; rfl
          have HK : Hid (cw = 2) := Lib.hid k'
          clear k k' hr
          go_enter Try.func45, Try.ntmps45
          cases l0 with
          | false =>
            have HS : Hid (R = false) := Lib.hid (by rw [HE.out]; simp)
            go_wp2_with fail
            refine (c0 _).mono ?_
            rintro e w' ⟨rfl, rfl⟩
            clear c0 HE
            go_wp2_with fail
            go_ret
            exact ⟨ret_bool HS.out.symm, rfl⟩
          | true =>
            go_wp2_with fail
            refine (c0 _).mono ?_
            rintro e w' ⟨rfl, rfl⟩
            clear c0
            cases l1 with
            | false =>
              have HS : Hid (R = false) := Lib.hid (by rw [HE.out]; simp)
              go_wp2_with fail
              refine (c1 _).mono ?_
              rintro e w' ⟨rfl, rfl⟩
              clear c1 HE
              go_wp2_with fail
              go_ret
              exact ⟨ret_bool HS.out.symm, rfl⟩
            | true =>
              have HS : Hid (R = l2) := Lib.hid (by rw [HE.out]; simp [HK.out])
              clear HE
              go_wp2_with fail
              refine (c1 _).mono ?_
              rintro e w' ⟨rfl, rfl⟩
              clear c1
              go_wp2_with fail
              refine (c2 _).mono ?_
              rintro e w' ⟨rfl, rfl⟩
              clear c2
              go_wp2_with fail
              go_ret
              exact ⟨ret_bool HS.out.symm, rfl⟩
        · have f1 : (cw == 1) = false := beq_eq_false_iff_ne.2 k
          have f2 : (cw == 2) = false := beq_eq_false_iff_ne.2 k'
          have HS : Hid (R = false) := Lib.hid (by rw [HE.out, decide_eq_false (by omega : ¬ (cw = 1 ∨ cw = 2))]; simp)
          clear k k' hr HE c0 c1 c2
          go_enter Try.func45, Try.ntmps45
          go_wp2
          go_ret
          exact ⟨ret_bool HS.out.symm, rfl⟩
end Go.Proofs.Ytinbdpfjpcgikaa

namespace Go.Proofs.Ytinbdpfjpcgikaa
set_option linter.unusedVariables false
set_option linter.unusedSimpArgs false

/-- The first i cells are mended. -/
def hybL (l : List Cl) (i : Nat) : List Cl := (mendL l).take i ++ l.drop i
theorem hyb_len (l : List Cl) (i : Nat) : (hybL l i).length = l.length := by
  unfold hybL; rw [List.length_append, List.length_take, List.length_drop, mend_len]; omega
theorem hyb_zero (l : List Cl) : hybL l 0 = l := by simp [hybL]
theorem hyb_all (l : List Cl) : hybL l l.length = mendL l := by
  unfold hybL; rw [List.drop_of_length_le (Nat.le_refl _), List.append_nil, List.take_of_length_le (by rw [mend_len]; exact Nat.le_refl _)]
theorem hyb_at (l : List Cl) (i j : Nat) : (hybL l i)[j]? = if j < i then (mendL l)[j]? else l[j]? := by
  unfold hybL
  by_cases hi : i ≤ l.length
  · have hlen : ((mendL l).take i).length = i := by rw [List.length_take, mend_len]; omega
    by_cases hj : j < i
    · rw [if_pos hj, List.getElem?_append_left (by omega), List.getElem?_take, if_pos hj]
    · rw [if_neg hj, List.getElem?_append_right (by omega), hlen, List.getElem?_drop]
      congr 1; omega
  · rw [List.drop_of_length_le (by omega), List.append_nil, List.take_of_length_le (by rw [mend_len]; omega)]
    by_cases hj : j < i
    · rw [if_pos hj]
    · rw [if_neg hj, List.getElem?_eq_none (by rw [mend_len]; omega), List.getElem?_eq_none (by omega)]
theorem hyb_w (l : List Cl) (i j : Nat) : wAt (hybL l i) j = if j < i then (if BadAt l j then 1 else wAt l j) else wAt l j := by
  by_cases hj : j < i
  · rw [if_pos hj, ← mend_w]
    exact w_iff (by rw [hyb_at, if_pos hj])
  · rw [if_neg hj]
    exact w_iff (by rw [hyb_at, if_neg hj])
/-- Whether a cell is to be mended is told by what has been mended ahead of it as well. -/
theorem hyb_bad (l : List Cl) (i : Nat) : BadAt (hybL l i) i ↔ BadAt l i := by
  have h0 : wAt (hybL l i) i = wAt l i := by rw [hyb_w, if_neg (by omega)]
  have h1 : wAt (hybL l i) (i + 1) = wAt l (i + 1) := by rw [hyb_w, if_neg (by omega)]
  by_cases hi : i = 0
  · subst hi
    unfold BadAt
    rw [h0, h1]
  · have h2 : wAt (hybL l i) (i - 1) = if BadAt l (i - 1) then 1 else wAt l (i - 1) := by rw [hyb_w, if_pos (by omega)]
    unfold BadAt
    rw [h0, h1, h2]
    have key : wAt l i = 0 → ((if BadAt l (i - 1) then (1 : Int) else wAt l (i - 1)) ≠ 2 ↔ wAt l (i - 1) ≠ 2) := by
      intro hw
      by_cases hb : BadAt l (i - 1)
      · rw [if_pos hb]
        refine ⟨fun _ h2 => ?_, fun _ => by omega⟩
        rcases hb with hb | hb
        · rw [show i - 1 + 1 = i from by omega] at hb; exact hb.2 hw
        · omega
      · rw [if_neg hb]
    constructor
    · rintro (h | ⟨h, h3⟩)
      · exact .inl h
      · refine .inr ⟨h, h3.imp id fun h4 => ?_⟩
        exact (key h).1 h4
    · rintro (h | ⟨h, h3⟩)
      · exact .inl h
      · refine .inr ⟨h, h3.imp id fun h4 => ?_⟩
        exact (key h).2 h4
theorem hyb_step {l : List Cl} {i : Nat} {c : Cl} (h : l[i]? = some c) : (hybL l i).set i (if BadAt l i then blankC c.pen else c) = hybL l (i + 1) := by
  have hi : i < l.length := (List.getElem?_eq_some_iff.1 h).1
  apply List.ext_getElem?
  intro j
  rw [List.getElem?_set, hyb_at, hyb_len]
  by_cases hj : i = j
  · subst hj
    rw [if_pos rfl, if_pos hi, hyb_at, if_pos (show i < i + 1 by omega), mend_at, h]
    rfl
  · rw [if_neg hj, hyb_at]
    by_cases h2 : j < i
    · rw [if_pos h2, if_pos (by omega)]
    · rw [if_neg h2, if_neg (by omega)]
/-- Nothing is stored where nothing is bad. -/
theorem hyb_skip {l : List Cl} {i : Nat} (h : ¬ BadAt l i) : hybL l i = hybL l (i + 1) := by
  apply List.ext_getElem?
  intro j
  rw [hyb_at, hyb_at]
  by_cases h1 : j < i
  · rw [if_pos h1, if_pos (by omega)]
  · rw [if_neg h1]
    by_cases h2 : j = i
    · subst h2
      rw [if_pos (by omega), mend_good h]
    · rw [if_neg (by omega)]
end Go.Proofs.Ytinbdpfjpcgikaa

namespace Go.Proofs.Ytinbdpfjpcgikaa
set_option linter.unusedVariables false
set_option linter.unusedSimpArgs false

/-- A cell with what has to stand behind it. -/
def wholeL (c : Cl) : List Cl := if c.w = 2 then [c, halfC c.pen] else [c]
theorem whole_len (c : Cl) : (wholeL c).length = if c.w = 2 then 2 else 1 := by unfold wholeL; split <;> rfl
theorem put_parts {l : List Cl} {k : Nat} {c : Cl} (hk : k + (wholeL c).length ≤ l.length) : putL l k c = l.take k ++ (wholeL c ++ l.drop (k + (wholeL c).length)) := by
  unfold putL
  rw [whole_len] at hk ⊢
  unfold wholeL
  by_cases h : c.w = 2
  · simp only [if_pos h] at hk ⊢
    have h1 : (l.set k c) = l.take k ++ c :: l.drop (k + 1) := by rw [List.set_eq_take_append_cons_drop, if_pos (by omega)]
    have h2 : (l.take k).length = k := by rw [List.length_take]; omega
    have h3 : l.drop (k + 1) = l[k + 1] :: l.drop (k + 2) := List.drop_eq_getElem_cons (by omega)
    rw [h1, List.set_append_right _ _ (by omega), h2, show k + 1 - k = 1 by omega, h3]
    rfl
  · simp only [if_neg h] at hk ⊢
    rw [List.set_eq_take_append_cons_drop, if_pos (by omega)]
    rfl
theorem whole_sane (c : Cl) : SaneR ⟨wholeL c, false, 0, false⟩ ↔ OneC c ∧ c.w ≠ 0 := by
  constructor
  · intro h
    have hc : (wholeL c)[0]? = some c := by unfold wholeL; split <;> rfl
    have h1 := h.one (i := 0) hc
    refine ⟨h1, fun h0 => h.good 0 (.inr ⟨?_, .inl rfl⟩)⟩
    simp only
    rw [wAt_some hc]; exact h0
  · rintro ⟨h1, h0⟩
    have hw : c.w = 1 ∨ c.w = 2 := by have := h1.1; omega
    refine ⟨by simp only [whole_len]; split <;> omega, ?_, ?_, by simp, by simp⟩
    · intro x hx
      unfold wholeL at hx
      split at hx
      · simp at hx
        rcases hx with rfl | rfl
        · exact h1
        · exact half_one h1.2.2.1
      · simp at hx; subst hx; exact h1
    · simp only
      rw [mend_same]
      intro i hb
      have hi := bad_lt hb
      rw [whole_len] at hi
      unfold BadAt wholeL at hb
      rcases hw with hw | hw
      · rw [if_neg (by omega)] at hi hb
        obtain rfl : i = 0 := by omega
        simp [wAt, hw] at hb
      · rw [if_pos hw] at hi hb
        obtain rfl | rfl : i = 0 ∨ i = 1 := by omega
        · simp [wAt, hw, halfC] at hb
        · simp [wAt, hw, halfC] at hb
theorem whole_w {c : Cl} (h : OneC c) (h0 : c.w ≠ 0) : ((wholeL c).length : Int) = c.w := by
  have := h.1
  rw [whole_len]; split <;> omega
theorem put_laid {r : Rw} {k : Nat} {c : Cl} (hr : SaneR r) (h1 : SaneR ⟨wholeL c, false, 0, false⟩) (hk : (k : Int) ≤ (r.cs.length : Int) - ((wholeL c).length : Int)) :
    putR r (k : Int) c = { r with cs := mendL (r.cs.take k ++ (wholeL c ++ r.cs.drop (k + (wholeL c).length))) } := by
  obtain ⟨h2, h3⟩ := (whole_sane c).1 h1
  have hw := whole_w h2 h3
  unfold putR
  rw [if_pos ⟨hr, h2, h3, by omega, by omega⟩, put_parts (by omega)]
  rfl
theorem put_not {r : Rw} {k : Int} {c : Cl} (h : ¬ (SaneR r ∧ SaneR ⟨wholeL c, false, 0, false⟩ ∧ 0 ≤ k ∧ k ≤ (r.cs.length : Int) - ((wholeL c).length : Int))) : putR r k c = r := by
  unfold putR
  rw [if_neg]
  rintro ⟨hr, h2, h3, h4, h5⟩
  have hw := whole_w h2 h3
  exact h ⟨hr, (whole_sane c).2 ⟨h2, h3⟩, h4, by omega⟩
theorem fit_le (w : Nat) (a : Int) : fitN w a ≤ w := by unfold fitN; omega
theorem erase_laid {r : Rw} {a b : Int} {p : Pn} (hr : SaneR r) (hp : SaneN p) (h : fitN r.cs.length a < fitN r.cs.length b) :
    eraseR r a b p = { r with cs := mendL (r.cs.take (fitN r.cs.length a) ++ (List.replicate (fitN r.cs.length b - fitN r.cs.length a) (blankC p) ++ r.cs.drop (fitN r.cs.length b))) } := by
  unfold eraseR
  rw [if_pos ⟨hr, hp⟩]
  have e : eraseL r.cs a b p = r.cs.take (fitN r.cs.length a) ++ (List.replicate (fitN r.cs.length b - fitN r.cs.length a) (blankC p) ++ r.cs.drop (fitN r.cs.length b)) := by
    have hb := fit_le r.cs.length b
    apply List.ext_getElem?
    intro i
    have hl1 : (r.cs.take (fitN r.cs.length a)).length = fitN r.cs.length a := by rw [List.length_take]; omega
    rw [erase_at, List.getElem?_append, hl1]
    by_cases h1 : i < fitN r.cs.length a
    · rw [if_pos h1, List.getElem?_take, if_pos h1]
      have : ¬ (a ≤ (i : Int) ∧ (i : Int) < b) := by unfold fitN at h1; omega
      cases r.cs[i]? with
      | none => rfl
      | some c => simp [this]
    · rw [if_neg h1, List.getElem?_append, List.length_replicate]
      by_cases h2 : i < fitN r.cs.length b
      · rw [if_pos (by omega), List.getElem?_replicate, if_pos (by omega), List.getElem?_eq_getElem (by omega : i < r.cs.length)]
        have : (a ≤ (i : Int) ∧ (i : Int) < b) := by unfold fitN at h1 h2; omega
        simp [this]
      · rw [if_neg (by omega), List.getElem?_drop, show fitN r.cs.length b + (i - fitN r.cs.length a - (fitN r.cs.length b - fitN r.cs.length a)) = i by omega]
        cases hx : r.cs[i]? with
        | none => rfl
        | some c =>
          have hi := (List.getElem?_eq_some_iff.1 hx).1
          have : ¬ (a ≤ (i : Int) ∧ (i : Int) < b) := by unfold fitN at h2; omega
          simp [this]
  rw [e]
theorem erase_not {r : Rw} {a b : Int} {p : Pn} (h : ¬ (SaneR r ∧ SaneN p ∧ fitN r.cs.length a < fitN r.cs.length b)) : eraseR r a b p = r := by
  unfold eraseR
  split
  · rename_i hs
    refine Rw.same ?_
    have hn : ¬ fitN r.cs.length a < fitN r.cs.length b := fun k => h ⟨hs.1, hs.2, k⟩
    have e : eraseL r.cs a b p = r.cs := by
      apply List.ext_getElem?
      intro i
      rw [erase_at]
      cases hx : r.cs[i]? with
      | none => rfl
      | some c =>
        have hi := (List.getElem?_eq_some_iff.1 hx).1
        have : ¬ (a ≤ (i : Int) ∧ (i : Int) < b) := by unfold fitN at hn; omega
        simp [this]
    rw [e, hs.1.2.2.1]
  · rfl
theorem ins_laid {r : Rw} {k n t : Int} {p : Pn} (h : MoveOk r k t p) : insR r k n t p = { r with cs := mendL (insL r.cs k.toNat (moveN k n t) t.toNat p) } := by unfold insR; rw [if_pos h]
theorem del_laid {r : Rw} {k n t : Int} {p : Pn} (h : MoveOk r k t p) : delR r k n t p = { r with cs := mendL (delL r.cs k.toNat (moveN k n t) t.toNat p) } := by unfold delR; rw [if_pos h]
theorem ins_not {r : Rw} {k n t : Int} {p : Pn} (h : ¬ MoveOk r k t p) : insR r k n t p = r := by unfold insR; rw [if_neg h]
theorem del_not {r : Rw} {k n t : Int} {p : Pn} (h : ¬ MoveOk r k t p) : delR r k n t p = r := by unfold delR; rw [if_neg h]
theorem rep_set (n k : Nat) (x y : Cl) (hk : k < n) : (List.replicate k x ++ List.replicate (n - k) y).set k x = List.replicate (k + 1) x ++ List.replicate (n - (k + 1)) y := by
  rw [List.set_append_right _ _ (by rw [List.length_replicate]; omega), List.length_replicate, Nat.sub_self, show n - k = (n - (k + 1)) + 1 by omega, List.replicate_succ, List.set_cons_zero, List.replicate_succ', List.append_assoc]
  rfl
end Go.Proofs.Ytinbdpfjpcgikaa

namespace Go.Proofs.Ytinbdpfjpcgikaa
open Go Go.RowKit
set_option linter.unusedVariables false
set_option linter.unusedSimpArgs false

theorem Box.put3p {w W : World} {B g : Nat} {t : TypeId} {o0 o1 o2 : Value} (h : Box W g t #[o0, o1, o2]) (hb : Below B w W) (hg : B ≤ g) (v0 v1 v2 : Value) :
    Box (((W.setCell ⟨g, 0, none⟩ v0).setCell ⟨g, 1, none⟩ v1).setCell ⟨g, 2, none⟩ v2) g t #[v0, v1, v2] ∧
    Below B w (((W.setCell ⟨g, 0, none⟩ v0).setCell ⟨g, 1, none⟩ v1).setCell ⟨g, 2, none⟩ v2) :=
  have h0 : Box (W.setCell ⟨g, 0, none⟩ v0) g t #[v0, o1, o2] := h.set_ 0 v0
  have h1 : Box ((W.setCell ⟨g, 0, none⟩ v0).setCell ⟨g, 1, none⟩ v1) g t #[v0, v1, o2] := h0.set_ 1 v1
  ⟨h1.set_ 2 v2, ((hb.setCell (p := ⟨g, 0, none⟩) hg v0).setCell (p := ⟨g, 1, none⟩) hg v1).setCell (p := ⟨g, 2, none⟩) hg v2⟩
theorem Box.far3 {W : World} {g g' : Nat} {t : TypeId} {cs : Array Value} (h : Box W g t cs) (hg : g ≠ g') (v0 v1 v2 : Value) :
    Box (((W.setCell ⟨g', 0, none⟩ v0).setCell ⟨g', 1, none⟩ v1).setCell ⟨g', 2, none⟩ v2) g t cs :=
  ((h.far (p := ⟨g', _, none⟩) hg _).far (p := ⟨g', _, none⟩) hg _).far (p := ⟨g', _, none⟩) hg _
/-- Of a row: the row in the call's own variable, the pen that was had, and all cells so far. -/
structure SnM (w wr : World) (l : List Cl) (A : Option Addr) (c : Nat) (y1 : Bool) (y2 : Int) (y3 : Bool) (p : Pn) (i : Nat) : Prop where
  b1 : Box wr w.heap.size 35 #[.slice A l.length c, .bool y1, .int .i64 y2, .bool y3]
  b2 : Box wr (w.heap.size + 1) 64 #[.int .i64 p.fg, .int .i64 p.bg, .int .i64 p.fl]
  bl : Below w.heap.size w wr
  sn : SaneN p
  all : ∀ k y, k < i → l[k]? = some y → OneC y ∧ ¬ BadAt l k
theorem SnM.on {w wr v : World} {l : List Cl} {A : Option Addr} {c : Nat} {y1 : Bool} {y2 : Int} {y3 : Bool} {p : Pn} {i : Nat} (h : SnM w wr l A c y1 y2 y3 p i) (hv : Below wr.heap.size wr v) : SnM w v l A c y1 y2 y3 p i :=
  ⟨h.b1.below hv h.b1.lt, h.b2.below hv h.b2.lt, h.bl.trans (hv.mono h.bl.size), h.sn, h.all⟩
theorem SnM.put {w wr : World} {l : List Cl} {A : Option Addr} {c : Nat} {y1 : Bool} {y2 : Int} {y3 : Bool} {p : Pn} {i : Nat} (h : SnM w wr l A c y1 y2 y3 p i) (q : Pn) (hq : SaneN q) :
    SnM w (((wr.setCell ⟨w.heap.size + 1, 0, none⟩ (.int .i64 q.fg)).setCell ⟨w.heap.size + 1, 1, none⟩ (.int .i64 q.bg)).setCell ⟨w.heap.size + 1, 2, none⟩ (.int .i64 q.fl)) l A c y1 y2 y3 q i :=
  have h1 := h.b2.put3p h.bl (Nat.le_succ _) (.int .i64 q.fg) (.int .i64 q.bg) (.int .i64 q.fl)
  ⟨h.b1.far3 (by omega) _ _ _, h1.1, h1.2, hq, h.all⟩
theorem sane_len {r : Rw} (h : ¬ (1 ≤ r.cs.length ∧ r.cs.length ≤ 4096 ∧ 0 ≤ r.dir ∧ r.dir ≤ 2)) : decide (SaneR r) = false :=
  decide_eq_false fun k => h ⟨k.1.1, k.1.2, k.2.2.2⟩
set_option maxRecDepth 100000 in
set_option maxHeartbeats 1000000 in
theorem sane8_b (r : Rw) (A : Option Addr) (c : Nat) (w : World) (hin : InC w A c r.cs) (hok : RwOk r) : Calls Try.prog 37 #[.agg #[.slice A r.cs.length c, .bool r.wrap, .int .i64 r.dir, .bool r.ex]] w fun e w' => e = .returned (.bool (decide (SaneR r))) ∧ Below w.heap.size w w' := by
  obtain ⟨l, y1, y2, y3⟩ := r
  obtain ⟨hd, hcs⟩ := hok
  have hlen := hin.len
  unfold maxLen at hlen
  simp only at hin hd hcs hlen ⊢
  have hY : Box (w.alloc (.cells #[.slice A l.length c, .bool y1, .int .i64 y2, .bool y3] 35)) w.heap.size 35 #[.slice A l.length c, .bool y1, .int .i64 y2, .bool y3] := Box.new w _ _
  have hb : Below w.heap.size w (w.alloc (.cells #[.slice A l.length c, .bool y1, .int .i64 y2, .bool y3] 35)) := (Below.refl _ _).alloc (Nat.le_refl _) _
  have hs : (w.alloc (.cells #[.slice A l.length c, .bool y1, .int .i64 y2, .bool y3] 35)).heap.size = w.heap.size + 1 := by simp
  generalize hR : decide (SaneR ⟨l, y1, y2, y3⟩) = R
  have HR := Lib.hid hR
  have HC := Lib.hid hcs
  have HI0 := Lib.hid hin
  have hw8 := fun V => width8_c (l.length : Int) V (by unfold I64; omega)
  have HLE : Hid (¬ (1 ≤ l.length ∧ l.length ≤ 4096 ∧ 0 ≤ y2 ∧ y2 ≤ 2) → R = false) := Lib.hid fun h => by rw [← HR.out]; exact sane_len h
  have hcap := hin.cap
  have hmax := hin.max
  have hk0 := hY.cell 0
  have hk2 := hY.cell 2
  have HYB := Lib.hid (And.intro hY (And.intro hb hs))
  have hszl : w.heap.size < (w.alloc (.cells #[.slice A l.length c, .bool y1, .int .i64 y2, .bool y3] 35)).heap.size := by omega
  clear hR hcs hin hY hb hs hk0 hk2
  by_cases hlen1 : 1 ≤ l.length ∧ l.length ≤ 4096
  · have hmx : max 1 (min (l.length : Int) 4096) = (l.length : Int) := by omega
    rw [hmx] at hw8
    have hne : ((l.length : Int) != (l.length : Int)) = false := by simp
    have HW := Lib.hid hw8
    clear hw8 hmx
    go_enter Try.func37, Try.ntmps37
    go_upto_region 1 with fail
    generalize w.alloc (.cells #[.slice A l.length c, .bool y1, .int .i64 y2, .bool y3] 35) = W at *
    have m0 := Ext.cell (w := W) (B := W.heap.size) (p := ⟨w.heap.size, 0, none⟩) hszl (HYB.out.1.cell 0)
    have m2 := Ext.cell (w := W) (B := W.heap.size) (p := ⟨w.heap.size, 2, none⟩) hszl (HYB.out.1.cell 2)
    rcases (show y2 < 0 ∨ (0 ≤ y2 ∧ 2 < y2) ∨ (0 ≤ y2 ∧ y2 ≤ 2) by omega) with k | ⟨k, k'⟩ | ⟨k, k'⟩
    · have HS := Lib.hid (HLE.out (by omega))
      have zd : decide (y2 < 0) = true := decide_eq_true k
      refine region_plan [([0, 1, 2, 3, 4, 5], [6]), ([7, 8, 9, 10, 11, 12, 13, 14, 15, 16, 17], [])] (fun w' => ∃ u : Ext W W.heap.size, w' = u.val) (by kernel_rfl) (by kernel_rfl) (fun _ _ _ _ _ h => h) ⟨⟨_, (Below.refl _ _).drew⟩, rfl⟩ ?_
      simp only [wpPlan, sel, List.take_succ_cons, List.take_zero, List.drop_succ_cons, List.drop_zero, List.cons_append, List.nil_append]
      repeat (go_big_quiet_step (fail))
      refine wpQuiet_nil ?_
      unfold wpChain
      go_wp2_with fail
      refine (HW.out _).mono ?_
      rintro e v1 ⟨rfl, rfl⟩
      go_wp2_with fail
      refine ⟨⟨⟨_, (Below.refl _ _).drew⟩, rfl⟩, ?_⟩
      unfold wpChain
      repeat (go_big_quiet_step (fail))
      refine wpQuiet_nil ?_
      unfold wpChain
      go_wp2_with fail
      go_ret
      exact ⟨ret_bool HS.out.symm, HYB.out.2.1.drew⟩
    · have HS := Lib.hid (HLE.out (by omega))
      have zd : decide (y2 < 0) = false := decide_eq_false (by omega)
      refine region_plan [([0, 1, 2, 3, 4, 5], [6]), ([7, 8, 9, 10, 11, 12, 13, 14, 15, 16, 17], [])] (fun w' => ∃ u : Ext W W.heap.size, w' = u.val) (by kernel_rfl) (by kernel_rfl) (fun _ _ _ _ _ h => h) ⟨⟨_, (Below.refl _ _).drew⟩, rfl⟩ ?_
      simp only [wpPlan, sel, List.take_succ_cons, List.take_zero, List.drop_succ_cons, List.drop_zero, List.cons_append, List.nil_append]
      repeat (go_big_quiet_step (fail))
      refine wpQuiet_nil ?_
      unfold wpChain
      go_wp2_with fail
      refine (HW.out _).mono ?_
      rintro e v1 ⟨rfl, rfl⟩
      go_wp2_with fail
      refine ⟨⟨⟨_, (Below.refl _ _).drew⟩, rfl⟩, ?_⟩
      unfold wpChain
      repeat (go_big_quiet_step (fail))
      refine wpQuiet_nil ?_
      unfold wpChain
      go_wp2_with fail
      go_ret
      exact ⟨ret_bool HS.out.symm, HYB.out.2.1.drew⟩
    · have zd : decide (y2 < 0) = false := decide_eq_false (by omega)
      have HTL : Hid (R = true ↔ ∀ j y, l[j]? = some y → OneC y ∧ ¬ BadAt l j) := Lib.hid (by
        rw [← HR.out, decide_eq_true_iff]
        refine ⟨fun h j y hy => ⟨h.one hy, h.good j⟩, fun h => ⟨hlen1, fun x hx => ?_, ?_, k, k'⟩⟩
        · obtain ⟨j, hj, rfl⟩ := List.getElem_of_mem hx
          exact (h j _ (List.getElem?_eq_getElem hj)).1
        · simp only
          rw [mend_same]
          intro j hb
          obtain ⟨y, hy⟩ : ∃ y, l[j]? = some y := ⟨_, List.getElem?_eq_getElem (bad_lt hb)⟩
          exact (h j y hy).2 hb)
      refine region_plan [([0, 1, 2, 3, 4, 5], [6]), ([7, 8, 9, 10, 11, 12, 13, 14, 15, 16, 17], [])] (fun w' => ∃ u : Ext W W.heap.size, w' = u.val) (by kernel_rfl) (by kernel_rfl) (fun _ _ _ _ _ h => h) ⟨⟨_, (Below.refl _ _).drew⟩, rfl⟩ ?_
      simp only [wpPlan, sel, List.take_succ_cons, List.take_zero, List.drop_succ_cons, List.drop_zero, List.cons_append, List.nil_append]
      repeat (go_big_quiet_step (fail))
      refine wpQuiet_nil ?_
      unfold wpChain
      go_wp2_with fail
      refine (HW.out _).mono ?_
      rintro e v1 ⟨rfl, rfl⟩
      go_wp2_with fail
      refine ⟨⟨⟨_, (Below.refl _ _).drew⟩, rfl⟩, ?_⟩
      unfold wpChain
      repeat (go_big_quiet_step (fail))
      refine wpQuiet_nil ?_
      unfold wpChain
      go_upto_region 4 with fail
      have hM0 : SnM w (W.alloc (.cells #[.int .i64 0, .int .i64 0, .int .i64 0] 64)).drew l A c y1 y2 y3 zeroN 0 := by
        have hs := HYB.out.2.2
        have h2 := Box.new W 64 #[.int .i64 0, .int .i64 0, .int .i64 0]
        rw [hs] at h2
        refine ⟨(HYB.out.1.alloc _).drew, h2.drew, (HYB.out.2.1.alloc (by omega) _).drew, zeroN_sane, fun k y h => absurd h (Nat.not_lt_zero _)⟩
      have HM0 := Lib.hid hM0
      have hsz := HYB.out.2.2
      have hk0 : (W.alloc (.cells #[.int .i64 0, .int .i64 0, .int .i64 0] 64)).cell? ⟨w.heap.size, 0, none⟩ = some (.slice A l.length c) := HM0.out.b1.cell 0
      rw [hsz]
      clear hM0 m0 m2 HW zd hne hszl k k' HYB hsz
      generalize (W.alloc (.cells #[.int .i64 0, .int .i64 0, .int .i64 0] 64)) = W1 at *
      go_wp2_with fail
      go_loopw [27] (fun u27 wr => ∃ (i : Nat) (p : Pn), i ≤ l.length ∧ u27 = .int .i64 (i : Int) ∧ Hid (SnM w wr l A c y1 y2 y3 p i)) (fun u27 _ => l.length - (intOf u27).toNat)
      case atStart => exact ⟨0, zeroN, Nat.zero_le _, rfl, HM0⟩
      case round =>
        obtain ⟨i, p, hi, rfl, HM⟩ := hrel
        clear HM0 hk0
        by_cases hlt : i < l.length
        · have z1 : (i : Int) < (l.length : Int) := by omega
          obtain ⟨x, hx⟩ : ∃ x, l[i]? = some x := ⟨_, List.getElem?_eq_getElem hlt⟩
          obtain ⟨g, o, rfl, gB, p0, p1, p2, p3, p4, p5, p6⟩ := (HI0.out.on HM.out.bl).at_ hx
          have k0 : wr.cell? ⟨w.heap.size, 0, none⟩ = some (.slice (some ⟨g, o, none⟩) l.length c) := HM.out.b1.cell 0
          have hpok : PnOk x.pen := (HC.out x (List.mem_of_getElem? hx)).2.2.2.2
          have HX := Lib.hid hx
          have n4 := Ext.cell (w := wr) (B := wr.heap.size) (p := ⟨g, o + i * 7 + 4, none⟩) gB p4
          have n5 := Ext.cell (w := wr) (B := wr.heap.size) (p := ⟨g, o + i * 7 + 5, none⟩) gB p5
          have n6 := Ext.cell (w := wr) (B := wr.heap.size) (p := ⟨g, o + i * 7 + 6, none⟩) gB p6
          have q0 := Ext.cell (w := wr) (B := wr.heap.size) (p := ⟨w.heap.size + 1, 0, none⟩) HM.out.b2.lt (HM.out.b2.cell 0)
          have q1 := Ext.cell (w := wr) (B := wr.heap.size) (p := ⟨w.heap.size + 1, 1, none⟩) HM.out.b2.lt (HM.out.b2.cell 1)
          have q2 := Ext.cell (w := wr) (B := wr.heap.size) (p := ⟨w.heap.size + 1, 2, none⟩) HM.out.b2.lt (HM.out.b2.cell 2)
          have hpn := fun V => pen_neq x.pen p V
          clear hx p0 p1 p2 p3 p4 p5 p6
          go_upto_region 8 with fail
          by_cases hpe : x.pen = p
          · have HSN : Hid (SaneN x.pen) := Lib.hid (by rw [hpe]; exact HM.out.sn)
            rw [decide_eq_true hpe] at hpn
            clear hpe
            refine region_plan [([0, 1, 2, 3, 4, 5, 6, 7, 8, 9, 10], [11]), ([12, 13], [])] (fun w' => ∃ u : Ext wr wr.heap.size, w' = u.val) (by kernel_rfl) (by kernel_rfl) (fun _ _ _ _ _ h => h) ⟨⟨_, (Below.refl _ _).drew⟩, rfl⟩ ?_
            simp only [wpPlan, sel, List.take_succ_cons, List.take_zero, List.drop_succ_cons, List.drop_zero, List.cons_append, List.nil_append]
            repeat (go_big_quiet_step (fail))
            refine wpQuiet_nil ?_
            unfold wpChain
            refine ⟨⟨⟨_, (Below.refl _ _).drew⟩, rfl⟩, ?_⟩
            unfold wpChain
            simp only [Act.put, List.setIfInBounds_toArray, List.set_cons_succ, List.set_cons_zero]
            repeat (go_big_quiet_step (fail))
            refine wpQuiet_nil ?_
            unfold wpChain
            have HM1 : Hid (SnM w wr.drew l (some ⟨g, o, none⟩) c y1 y2 y3 p i) := Lib.hid (HM.out.on (Below.refl _ _).drew)
            go_upto_region 10 with fail
            generalize wr.drew = V1 at *
            clear n4 n5 n6 q0 q1 q2 hpn k0 HM
            obtain ⟨f0, f1, f2⟩ : V1.frozen? ⟨w.heap.size + 1, 0, none⟩ = false ∧ V1.frozen? ⟨w.heap.size + 1, 1, none⟩ = false ∧ V1.frozen? ⟨w.heap.size + 1, 2, none⟩ = false := ⟨HM1.out.b2.free 0, HM1.out.b2.free 1, HM1.out.b2.free 2⟩
            obtain ⟨j0, j1, j2⟩ : V1.cell? ⟨w.heap.size + 1, 0, none⟩ = some (.int .i64 p.fg) ∧ V1.cell? ⟨w.heap.size + 1, 1, none⟩ = some (.int .i64 p.bg) ∧ V1.cell? ⟨w.heap.size + 1, 2, none⟩ = some (.int .i64 p.fl) := ⟨HM1.out.b2.cell 0, HM1.out.b2.cell 1, HM1.out.b2.cell 2⟩
            obtain ⟨g', o', eA, -, -, -, -, -, p4, p5, p6⟩ := (HI0.out.on HM1.out.bl).at_ HX.out
            injection eA with eA
            injection eA with eA1 eA2
            subst eA1; subst eA2
            go_upto_region 11 with fail
            have HM2 := Lib.hid (HM1.out.put x.pen HSN.out)
            clear f0 f1 f2 j0 j1 j2 p4 p5 p6 HM1
            generalize ((V1.setCell ⟨w.heap.size + 1, 0, none⟩ (.int .i64 x.pen.fg)).setCell ⟨w.heap.size + 1, 1, none⟩ (.int .i64 x.pen.bg)).setCell ⟨w.heap.size + 1, 2, none⟩ (.int .i64 x.pen.fl) = V2 at *
            obtain ⟨g', o', eA, -, p0, p1, p2, p3, -, -, -⟩ := (HI0.out.on HM2.out.bl).at_ HX.out
            injection eA with eA
            injection eA with eA1 eA2
            subst eA1; subst eA2
            have hmay := may8_c x g (o + i * 7) V2 p0 p1 p2 p3
            have htorn := torn8_c (some ⟨g, o, none⟩) c l i V2 (HI0.out.on HM2.out.bl) hlt
            have k0 : V2.cell? ⟨w.heap.size, 0, none⟩ = some (.slice (some ⟨g, o, none⟩) l.length c) := HM2.out.b1.cell 0
            clear p0 p1 p2 p3
            cases hm : decide (MayC x) with
            | false =>
              rw [hm] at hmay
              have HS : Hid (R = false) := Lib.hid (by
                cases hr : R with
                | false => rfl
                | true => exact absurd (one_may.1 (HTL.out.1 hr i x HX.out).1).2 (of_decide_eq_false hm))
              clear hm htorn
              go_wp2_with fail
              refine hmay.mono ?_
              rintro e w' ⟨rfl, rfl⟩
              clear hmay
              go_wp2_with fail
              go_ret
              exact ⟨ret_bool HS.out.symm, HM2.out.bl⟩
            | true =>
              rw [hm] at hmay
              have HMY : Hid (MayC x) := Lib.hid (of_decide_eq_true hm)
              clear hm
              cases ht : decide (BadAt l i) with
              | true =>
                rw [ht] at htorn
                have HS : Hid (R = false) := Lib.hid (by
                  cases hr : R with
                  | false => rfl
                  | true => exact absurd (of_decide_eq_true ht) (HTL.out.1 hr i x HX.out).2)
                clear ht
                go_wp2_with fail
                refine hmay.mono ?_
                rintro e w' ⟨rfl, rfl⟩
                clear hmay
                go_wp2_with fail
                refine htorn.mono ?_
                rintro e w' ⟨rfl, rfl⟩
                clear htorn
                go_wp2_with fail
                go_ret
                exact ⟨ret_bool HS.out.symm, HM2.out.bl⟩
              | false =>
                rw [ht] at htorn
                have HM3 : Hid (SnM w V2 l (some ⟨g, o, none⟩) c y1 y2 y3 x.pen (i + 1)) := Lib.hid ⟨HM2.out.b1, HM2.out.b2, HM2.out.bl, HSN.out, fun k y hk hy => by
                  rcases Nat.lt_succ_iff_lt_or_eq.1 hk with h | h
                  · exact HM2.out.all k y h hy
                  · subst h
                    have e := HX.out.symm.trans hy
                    injection e with e
                    subst e
                    exact ⟨one_may.2 ⟨HSN.out, HMY.out⟩, of_decide_eq_false ht⟩⟩
                clear ht
                go_wp2_with fail
                refine hmay.mono ?_
                rintro e w' ⟨rfl, rfl⟩
                clear hmay
                go_wp2_with fail
                refine htorn.mono ?_
                rintro e w' ⟨rfl, rfl⟩
                clear htorn
                go_wp2_with fail
                exact ⟨⟨i + 1, x.pen, by omega, by go_num, HM3⟩, by simp [intOf]; omega⟩
          · rw [decide_eq_false hpe] at hpn
            have hsn := fun V => sane7_c x.pen V hpok
            cases hsd : decide (SaneN x.pen) with
            | true =>
              rw [hsd] at hsn
              have HSN : Hid (SaneN x.pen) := Lib.hid (of_decide_eq_true hsd)
              clear hpe hsd
              refine region_plan [([0, 1, 2, 3, 4, 5, 6, 7, 8, 9, 10], [11]), ([12, 13], [])] (fun w' => ∃ u : Ext wr wr.heap.size, w' = u.val) (by kernel_rfl) (by kernel_rfl) (fun _ _ _ _ _ h => h) ⟨⟨_, (Below.refl _ _).drew⟩, rfl⟩ ?_
              simp only [wpPlan, sel, List.take_succ_cons, List.take_zero, List.drop_succ_cons, List.drop_zero, List.cons_append, List.nil_append]
              repeat (go_big_quiet_step (fail))
              refine wpQuiet_nil ?_
              unfold wpChain
              go_wp2_with fail
              refine (hsn _).mono ?_
              rintro e v1 ⟨rfl, hv1⟩
              have hv2 : Below wr.heap.size wr v1 := (Below.refl wr.heap.size wr).drew.trans hv1
              have HM1 : Hid (SnM w v1 l (some ⟨g, o, none⟩) c y1 y2 y3 p i) := Lib.hid (HM.out.on hv2)
              have HV2 := Lib.hid hv2
              clear hv1 hv2 hsn
              go_wp2_with fail
              refine ⟨⟨⟨_, HV2.out⟩, rfl⟩, ?_⟩
              unfold wpChain
              repeat (go_big_quiet_step (fail))
              refine wpQuiet_nil ?_
              unfold wpChain
              go_upto_region 10 with fail
              clear HV2
              generalize v1 = V1 at *
              clear n4 n5 n6 q0 q1 q2 hpn k0 HM
              obtain ⟨f0, f1, f2⟩ : V1.frozen? ⟨w.heap.size + 1, 0, none⟩ = false ∧ V1.frozen? ⟨w.heap.size + 1, 1, none⟩ = false ∧ V1.frozen? ⟨w.heap.size + 1, 2, none⟩ = false := ⟨HM1.out.b2.free 0, HM1.out.b2.free 1, HM1.out.b2.free 2⟩
              obtain ⟨j0, j1, j2⟩ : V1.cell? ⟨w.heap.size + 1, 0, none⟩ = some (.int .i64 p.fg) ∧ V1.cell? ⟨w.heap.size + 1, 1, none⟩ = some (.int .i64 p.bg) ∧ V1.cell? ⟨w.heap.size + 1, 2, none⟩ = some (.int .i64 p.fl) := ⟨HM1.out.b2.cell 0, HM1.out.b2.cell 1, HM1.out.b2.cell 2⟩
              obtain ⟨g', o', eA, -, -, -, -, -, p4, p5, p6⟩ := (HI0.out.on HM1.out.bl).at_ HX.out
              injection eA with eA
              injection eA with eA1 eA2
              subst eA1; subst eA2
              go_upto_region 11 with fail
              have HM2 := Lib.hid (HM1.out.put x.pen HSN.out)
              clear f0 f1 f2 j0 j1 j2 p4 p5 p6 HM1
              generalize ((V1.setCell ⟨w.heap.size + 1, 0, none⟩ (.int .i64 x.pen.fg)).setCell ⟨w.heap.size + 1, 1, none⟩ (.int .i64 x.pen.bg)).setCell ⟨w.heap.size + 1, 2, none⟩ (.int .i64 x.pen.fl) = V2 at *
              obtain ⟨g', o', eA, -, p0, p1, p2, p3, -, -, -⟩ := (HI0.out.on HM2.out.bl).at_ HX.out
              injection eA with eA
              injection eA with eA1 eA2
              subst eA1; subst eA2
              have hmay := may8_c x g (o + i * 7) V2 p0 p1 p2 p3
              have htorn := torn8_c (some ⟨g, o, none⟩) c l i V2 (HI0.out.on HM2.out.bl) hlt
              have k0 : V2.cell? ⟨w.heap.size, 0, none⟩ = some (.slice (some ⟨g, o, none⟩) l.length c) := HM2.out.b1.cell 0
              clear p0 p1 p2 p3
              cases hm : decide (MayC x) with
              | false =>
                rw [hm] at hmay
                have HS : Hid (R = false) := Lib.hid (by
                  cases hr : R with
                  | false => rfl
                  | true => exact absurd (one_may.1 (HTL.out.1 hr i x HX.out).1).2 (of_decide_eq_false hm))
                clear hm htorn
                go_wp2_with fail
                refine hmay.mono ?_
                rintro e w' ⟨rfl, rfl⟩
                clear hmay
                go_wp2_with fail
                go_ret
                exact ⟨ret_bool HS.out.symm, HM2.out.bl⟩
              | true =>
                rw [hm] at hmay
                have HMY : Hid (MayC x) := Lib.hid (of_decide_eq_true hm)
                clear hm
                cases ht : decide (BadAt l i) with
                | true =>
                  rw [ht] at htorn
                  have HS : Hid (R = false) := Lib.hid (by
                    cases hr : R with
                    | false => rfl
                    | true => exact absurd (of_decide_eq_true ht) (HTL.out.1 hr i x HX.out).2)
                  clear ht
                  go_wp2_with fail
                  refine hmay.mono ?_
                  rintro e w' ⟨rfl, rfl⟩
                  clear hmay
                  go_wp2_with fail
                  refine htorn.mono ?_
                  rintro e w' ⟨rfl, rfl⟩
                  clear htorn
                  go_wp2_with fail
                  go_ret
                  exact ⟨ret_bool HS.out.symm, HM2.out.bl⟩
                | false =>
                  rw [ht] at htorn
                  have HM3 : Hid (SnM w V2 l (some ⟨g, o, none⟩) c y1 y2 y3 x.pen (i + 1)) := Lib.hid ⟨HM2.out.b1, HM2.out.b2, HM2.out.bl, HSN.out, fun k y hk hy => by
                    rcases Nat.lt_succ_iff_lt_or_eq.1 hk with h | h
                    · exact HM2.out.all k y h hy
                    · subst h
                      have e := HX.out.symm.trans hy
                      injection e with e
                      subst e
                      exact ⟨one_may.2 ⟨HSN.out, HMY.out⟩, of_decide_eq_false ht⟩⟩
                  clear ht
                  go_wp2_with fail
                  refine hmay.mono ?_
                  rintro e w' ⟨rfl, rfl⟩
                  clear hmay
                  go_wp2_with fail
                  refine htorn.mono ?_
                  rintro e w' ⟨rfl, rfl⟩
                  clear htorn
                  go_wp2_with fail
                  exact ⟨⟨i + 1, x.pen, by omega, by go_num, HM3⟩, by simp [intOf]; omega⟩
            | false =>
              rw [hsd] at hsn
              have HS : Hid (R = false) := Lib.hid (by
                cases hr : R with
                | false => rfl
                | true => exact absurd (one_may.1 (HTL.out.1 hr i x HX.out).1).1 (of_decide_eq_false hsd))
              clear hpe hsd
              refine region_plan [([0, 1, 2, 3, 4, 5, 6, 7, 8, 9, 10], [11]), ([12, 13], [])] (fun w' => ∃ u : Ext wr wr.heap.size, w' = u.val) (by kernel_rfl) (by kernel_rfl) (fun _ _ _ _ _ h => h) ⟨⟨_, (Below.refl _ _).drew⟩, rfl⟩ ?_
              simp only [wpPlan, sel, List.take_succ_cons, List.take_zero, List.drop_succ_cons, List.drop_zero, List.cons_append, List.nil_append]
              repeat (go_big_quiet_step (fail))
              refine wpQuiet_nil ?_
              unfold wpChain
              go_wp2_with fail
              refine (hsn _).mono ?_
              rintro e v1 ⟨rfl, hv1⟩
              have hv2 : Below wr.heap.size wr v1 := (Below.refl wr.heap.size wr).drew.trans hv1
              have HV2 := Lib.hid hv2
              clear hv1 hv2 hsn
              go_wp2_with fail
              refine ⟨⟨⟨_, HV2.out⟩, rfl⟩, ?_⟩
              unfold wpChain
              repeat (go_big_quiet_step (fail))
              refine wpQuiet_nil ?_
              unfold wpChain
              go_wp2_with fail
              go_ret
              exact ⟨ret_bool HS.out.symm, HM.out.bl.trans (HV2.out.mono HM.out.bl.size)⟩
        · obtain rfl : i = l.length := by omega
          have z1 : ¬ (l.length : Int) < (l.length : Int) := by omega
          have HS : Hid (R = true) := Lib.hid (HTL.out.2 fun j y hy => HM.out.all j y (List.getElem?_eq_some_iff.1 hy).1 hy)
          go_wp2_with fail
          go_ret
          exact ⟨ret_bool HS.out.symm, HM.out.bl⟩
  · have hne : ((l.length : Int) != max 1 (min (l.length : Int) 4096)) = true := bne_iff_ne.2 (by omega)
    have HS := Lib.hid (HLE.out (by omega))
    generalize max 1 (min (l.length : Int) 4096) = mx at *
    have HW := Lib.hid hw8
    clear hw8 hlen1
    go_enter Try.func37, Try.ntmps37
    go_upto_region 1 with fail
    generalize w.alloc (.cells #[.slice A l.length c, .bool y1, .int .i64 y2, .bool y3] 35) = W at *
    have m0 := Ext.cell (w := W) (B := W.heap.size) (p := ⟨w.heap.size, 0, none⟩) hszl (HYB.out.1.cell 0)
    have m2 := Ext.cell (w := W) (B := W.heap.size) (p := ⟨w.heap.size, 2, none⟩) hszl (HYB.out.1.cell 2)
    refine region_plan [([0, 1, 2, 3, 4, 5], [6]), ([7, 8, 9, 10, 11, 12, 13, 14, 15, 16, 17], [])] (fun w' => ∃ u : Ext W W.heap.size, w' = u.val) (by kernel_rfl) (by kernel_rfl) (fun _ _ _ _ _ h => h) ⟨⟨_, (Below.refl _ _).drew⟩, rfl⟩ ?_
    simp only [wpPlan, sel, List.take_succ_cons, List.take_zero, List.drop_succ_cons, List.drop_zero, List.cons_append, List.nil_append]
    repeat (go_big_quiet_step (fail))
    refine wpQuiet_nil ?_
    unfold wpChain
    go_wp2_with fail
    refine (HW.out _).mono ?_
    rintro e v1 ⟨rfl, rfl⟩
    go_wp2_with fail
    refine ⟨⟨⟨_, (Below.refl _ _).drew⟩, rfl⟩, ?_⟩
    unfold wpChain
    repeat (go_big_quiet_step (fail))
    refine wpQuiet_nil ?_
    unfold wpChain
    go_wp2_with fail
    go_ret
    exact ⟨ret_bool HS.out.symm, HYB.out.2.1.drew⟩
theorem sane8_c : Sane8C := fun r A c w hin hok => sane8_b r A c w hin hok
end Go.Proofs.Ytinbdpfjpcgikaa

namespace Go.Proofs.Ytinbdpfjpcgikaa
open Go Go.RowKit
set_option linter.unusedVariables false
set_option linter.unusedSimpArgs false

theorem sane10_bad {es : List Rl} {m : Int} {k : Nat} {x : Rl} (hx : es[k]? = some x) (h : ¬ SaneR x.r) : decide (SaneK ⟨rws es, m⟩) = false :=
  decide_eq_false fun q => h (q.1 x.r (List.mem_map.2 ⟨x, List.mem_of_getElem? hx, rfl⟩))
theorem sane10_all {es : List Rl} {m : Int} (h0 : 0 ≤ m ∧ m ≤ 200 ∧ (es.length : Int) ≤ m) (h : ∀ (k : Nat) e, k < es.length → es[k]? = some e → SaneR e.r) : decide (SaneK ⟨rws es, m⟩) = true :=
  decide_eq_true ⟨fun r hr => by
    obtain ⟨x, hx, rfl⟩ := List.mem_map.1 hr
    obtain ⟨k, hk, hk2⟩ := List.getElem_of_mem hx
    exact h k x hk (by rw [List.getElem?_eq_getElem hk, hk2]), h0.1, h0.2.1, by simp only [rws_length]; exact h0.2.2⟩
theorem sane10_out {es : List Rl} {m : Int} (h0 : ¬ (0 ≤ m ∧ m ≤ 200 ∧ (es.length : Int) ≤ m)) : decide (SaneK ⟨rws es, m⟩) = false :=
  decide_eq_false fun q => h0 ⟨q.2.1, q.2.2.1, by have := q.2.2.2; simp only [rws_length] at this; exact this⟩
set_option maxRecDepth 100000 in
set_option maxHeartbeats 1000000 in
theorem sane10_c : Sane10C := by
  intro A c es m w hin hok hm hes
  generalize hR : decide (SaneK ⟨rws es, m⟩) = R
  have hcap := hin.rows.cap
  have hmax := hin.rows.max
  unfold maxLen at hmax
  have hgb : Below w.heap.size w (w.alloc (.cells #[.slice A es.length c, .int .i64 m] 27)) := (Below.refl _ _).alloc (Nat.le_refl _) _
  have HG := Lib.hid (And.intro (Box.new w 27 #[.slice A es.length c, .int .i64 m]) (And.intro hgb (hin.on hgb)))
  have hw9 := fun V => within10_c m 200 V hm (by unfold I64; decide)
  unfold I64 at hm
  obtain ⟨hm0, hm1⟩ := hm
  clear hgb hin
  have HR := Lib.hid hR
  have HOK := Lib.hid hok
  clear hR hok
  go_enter Try.func24, Try.ntmps24
  go_upto_region 1 with fail
  generalize w.alloc (.cells #[.slice A es.length c, .int .i64 m] 27) = W at *
  have m0 := Ext.cell (w := W) (B := W.heap.size) (p := ⟨w.heap.size, 0, none⟩) HG.out.1.lt (HG.out.1.cell 0)
  have m1 := Ext.cell (w := W) (B := W.heap.size) (p := ⟨w.heap.size, 1, none⟩) HG.out.1.lt (HG.out.1.cell 1)
  by_cases hl : 0 ≤ m ∧ m ≤ 200
  · have e1 : max 0 (min m 200) = m := by omega
    rw [e1] at hw9
    have en : (m != m) = false := by simp
    have HW9 := Lib.hid hw9
    clear hw9 e1
    by_cases hle : (es.length : Int) ≤ m
    · have HL := Lib.hid (And.intro hl.1 (And.intro hl.2 hle))
      have zg : decide ((es.length : Int) > m) = false := by simp; omega
      have zg2 : ¬ (es.length : Int) > m := by omega
      clear hl hle
      refine region_plan [([0, 1, 2, 3], [4]), ([5, 6, 7, 8, 9, 10, 11, 12, 13], [])] (fun w' => ∃ u : Ext W W.heap.size, w' = u.val) (by kernel_rfl) (by kernel_rfl) (fun _ _ _ _ _ h => h) ⟨⟨_, (Below.refl _ _).drew⟩, rfl⟩ ?_
      simp only [wpPlan, sel, List.take_succ_cons, List.take_zero, List.drop_succ_cons, List.drop_zero, List.cons_append, List.nil_append]
      repeat (go_big_quiet_step (fail))
      refine wpQuiet_nil ?_
      unfold wpChain
      go_wp2_with fail
      refine (HW9.out _).mono ?_
      rintro e v1 ⟨rfl, rfl⟩
      go_wp2_with fail
      refine ⟨⟨⟨_, (Below.refl _ _).drew⟩, rfl⟩, ?_⟩
      unfold wpChain
      repeat (go_big_quiet_step (fail))
      refine wpQuiet_nil ?_
      unfold wpChain
      clear m0 m1 HW9 zg
      have k0 : W.drew.cell? ⟨w.heap.size, 0, none⟩ = some (.slice A es.length c) := HG.out.1.cell 0
      go_wp2_with fail
      have hdr : Below W.heap.size W W.drew := (Below.refl _ _).drew
      go_loopw [22] (fun u22 wr => ∃ i : Nat, i ≤ es.length ∧ u22 = .int .i64 (i : Int) ∧ Hid (∀ (k : Nat) e, k < i → es[k]? = some e → SaneR e.r) ∧ Hid (Below W.heap.size W wr)) (fun u22 _ => es.length - (intOf u22).toNat)
      case atStart => exact ⟨0, Nat.zero_le _, rfl, Lib.hid (fun k y h => absurd h (Nat.not_lt_zero _)), Lib.hid hdr⟩
      case round =>
        obtain ⟨i, hi, rfl, HT, HV⟩ := hrel
        clear hdr k0
        by_cases hlt : i < es.length
        · obtain ⟨x, hx⟩ : ∃ x, es[i]? = some x := ⟨_, List.getElem?_eq_getElem hlt⟩
          have z1 : (i : Int) < (es.length : Int) := by omega
          have hI := HG.out.2.2.on HV.out
          obtain ⟨b, o, rfl, hB, p0, p1, p2, p3⟩ := hI.rows.at_ hx
          have hal : Below wr.heap.size wr (wr.alloc (.cells #[.slice x.A x.r.cs.length x.c, .bool x.r.wrap, .int .i64 x.r.dir, .bool x.r.ex] 35)) := (Below.refl _ _).alloc (Nat.le_refl _) _
          have hX := Box.new wr 35 #[.slice x.A x.r.cs.length x.c, .bool x.r.wrap, .int .i64 x.r.dir, .bool x.r.ex]
          have hsn := sane8_b x.r x.A x.c (wr.alloc (.cells #[.slice x.A x.r.cs.length x.c, .bool x.r.wrap, .int .i64 x.r.dir, .bool x.r.ex] 35)) ((hI.els x (List.mem_of_getElem? hx)).on hal) (HOK.out x.r (List.mem_map.2 ⟨x, List.mem_of_getElem? hx, rfl⟩))
          have HXX := Lib.hid (And.intro hX (HV.out.trans (hal.mono HV.out.size)))
          have HX := Lib.hid hx
          clear hx hI hX hal
          have hbW : b < wr.heap.size := hB
          go_upto_region 6 with fail
          generalize wr.alloc (.cells #[.slice x.A x.r.cs.length x.c, .bool x.r.wrap, .int .i64 x.r.dir, .bool x.r.ex] 35) = V at *
          obtain ⟨r0, r1, r2, r3⟩ : V.cell? ⟨wr.heap.size, 0, none⟩ = some (.slice x.A x.r.cs.length x.c) ∧ V.cell? ⟨wr.heap.size, 1, none⟩ = some (.bool x.r.wrap) ∧ V.cell? ⟨wr.heap.size, 2, none⟩ = some (.int .i64 x.r.dir) ∧ V.cell? ⟨wr.heap.size, 3, none⟩ = some (.bool x.r.ex) := ⟨HXX.out.1.cell 0, HXX.out.1.cell 1, HXX.out.1.cell 2, HXX.out.1.cell 3⟩
          clear p0 p1 p2 p3 hB hbW
          cases hs : decide (SaneR x.r) with
          | false =>
            have HF : Hid (R = false) := Lib.hid (by rw [← HR.out]; exact sane10_bad HX.out (of_decide_eq_false hs))
            rw [hs] at hsn
            clear hs
            go_wp2_with fail
            refine hsn.mono ?_
            rintro e v1 ⟨rfl, hv1⟩
            have HV1 := Lib.hid (HXX.out.2.trans (hv1.mono HXX.out.2.size))
            clear hv1 hsn r0 r1 r2 r3
            go_wp2_with fail
            go_ret
            exact ⟨ret_bool HF.out.symm, HG.out.2.1.trans (HV1.out.mono HG.out.2.1.size)⟩
          | true =>
            have HT1 : Hid (∀ (k : Nat) e, k < i + 1 → es[k]? = some e → SaneR e.r) := Lib.hid (fun k e hk he => by
              rcases Nat.lt_or_ge k i with h | h
              · exact HT.out k e h he
              · obtain rfl : k = i := by omega
                have := HX.out
                rw [he] at this
                injection this with this
                subst this
                exact of_decide_eq_true hs)
            rw [hs] at hsn
            clear hs
            go_wp2_with fail
            refine hsn.mono ?_
            rintro e v1 ⟨rfl, hv1⟩
            have HV1 := Lib.hid (HXX.out.2.trans (hv1.mono HXX.out.2.size))
            clear hv1 hsn r0 r1 r2 r3
            go_wp2_with fail
            exact ⟨⟨i + 1, by omega, by simp, HT1, HV1⟩, by simp [intOf]; omega⟩
        · obtain rfl : i = es.length := by omega
          have z1 : ¬ (es.length : Int) < (es.length : Int) := by omega
          have HF : Hid (R = true) := Lib.hid (by rw [← HR.out]; exact sane10_all HL.out HT.out)
          go_wp2_with fail
          go_ret
          exact ⟨ret_bool HF.out.symm, HG.out.2.1.trans (HV.out.mono HG.out.2.1.size)⟩
    · have HF : Hid (R = false) := Lib.hid (by rw [← HR.out]; exact sane10_out (by omega))
      have zg : decide ((es.length : Int) > m) = true := by simp; omega
      have zg2 : (es.length : Int) > m := by omega
      clear hl hle
      refine region_plan [([0, 1, 2, 3], [4]), ([5, 6, 7, 8, 9, 10, 11, 12, 13], [])] (fun w' => ∃ u : Ext W W.heap.size, w' = u.val) (by kernel_rfl) (by kernel_rfl) (fun _ _ _ _ _ h => h) ⟨⟨_, (Below.refl _ _).drew⟩, rfl⟩ ?_
      simp only [wpPlan, sel, List.take_succ_cons, List.take_zero, List.drop_succ_cons, List.drop_zero, List.cons_append, List.nil_append]
      repeat (go_big_quiet_step (fail))
      refine wpQuiet_nil ?_
      unfold wpChain
      go_wp2_with fail
      refine (HW9.out _).mono ?_
      rintro e v1 ⟨rfl, rfl⟩
      go_wp2_with fail
      refine ⟨⟨⟨_, (Below.refl _ _).drew⟩, rfl⟩, ?_⟩
      unfold wpChain
      repeat (go_big_quiet_step (fail))
      refine wpQuiet_nil ?_
      unfold wpChain
      clear m0 m1 HW9
      go_wp2_with fail
      go_ret
      exact ⟨ret_bool HF.out.symm, HG.out.2.1.drew⟩
  · have en : (m != max 0 (min m 200)) = true := by simp; omega
    have HF : Hid (R = false) := Lib.hid (by rw [← HR.out]; exact sane10_out (by omega))
    generalize hK : max 0 (min m 200) = K at *
    have HW9 := Lib.hid hw9
    clear hl hw9 hK
    refine region_plan [([0, 1, 2, 3], [4]), ([5, 6, 7, 8, 9, 10, 11, 12, 13], [])] (fun w' => ∃ u : Ext W W.heap.size, w' = u.val) (by kernel_rfl) (by kernel_rfl) (fun _ _ _ _ _ h => h) ⟨⟨_, (Below.refl _ _).drew⟩, rfl⟩ ?_
    simp only [wpPlan, sel, List.take_succ_cons, List.take_zero, List.drop_succ_cons, List.drop_zero, List.cons_append, List.nil_append]
    repeat (go_big_quiet_step (fail))
    refine wpQuiet_nil ?_
    unfold wpChain
    go_wp2_with fail
    refine (HW9.out _).mono ?_
    rintro e v1 ⟨rfl, rfl⟩
    go_wp2_with fail
    refine ⟨⟨⟨_, (Below.refl _ _).drew⟩, rfl⟩, ?_⟩
    unfold wpChain
    repeat (go_big_quiet_step (fail))
    refine wpQuiet_nil ?_
    unfold wpChain
    clear m0 m1 HW9
    go_wp2_with fail
    go_ret
    exact ⟨ret_bool HF.out.symm, HG.out.2.1.drew⟩
end Go.Proofs.Ytinbdpfjpcgikaa

namespace Go.Proofs.Ytinbdpfjpcgikaa
open Go Go.RowKit
set_option linter.unusedVariables false
set_option linter.unusedSimpArgs false

theorem sum10_take {l : List Rw} {k : Nat} {r : Rw} (h : l[k]? = some r) : sumC (l.take (k + 1)) = sumC (l.take k) + r.cs.length := by
  obtain ⟨hk, he⟩ := List.getElem?_eq_some_iff.1 h
  rw [List.take_succ_eq_append_getElem hk, sumC_app, he]
  simp [sumC]
theorem sum10_le {l : List Rw} (h : ∀ r ∈ l, SaneR r) : sumC l ≤ 4096 * l.length := by
  induction l with
  | nil => simp [sumC]
  | cons x l ih =>
    have h1 := (h x (by simp)).1.2
    have h2 := ih fun r hr => h r (by simp [hr])
    simp only [sumC, List.length_cons]
    omega
set_option maxRecDepth 100000 in
set_option maxHeartbeats 1000000 in
theorem cells10_c : Cells10C := by
  intro A c es m w hin hok hm hes
  generalize hR : cellsK ⟨rws es, m⟩ = R
  have hcap := hin.rows.cap
  have hmax := hin.rows.max
  unfold maxLen at hmax
  have hgb : Below w.heap.size w (w.alloc (.cells #[.slice A es.length c, .int .i64 m] 27)) := (Below.refl _ _).alloc (Nat.le_refl _) _
  have HG := Lib.hid (And.intro (Box.new w 27 #[.slice A es.length c, .int .i64 m]) (And.intro hgb (hin.on hgb)))
  have hs := fun V hI => sane10_c A c es m V hI hok hm hes
  have HSS := Lib.hid hs
  have HR := Lib.hid hR
  clear hR hgb hin hs hok hm
  go_enter Try.func22, Try.ntmps22
  go_upto_region 1 with fail
  generalize w.alloc (.cells #[.slice A es.length c, .int .i64 m] 27) = W at *
  have k0 : W.cell? ⟨w.heap.size, 0, none⟩ = some (.slice A es.length c) := HG.out.1.cell 0
  have k1 : W.cell? ⟨w.heap.size, 1, none⟩ = some (.int .i64 m) := HG.out.1.cell 1
  have h1 := HSS.out W HG.out.2.2
  cases hq : decide (SaneK ⟨rws es, m⟩) with
  | false =>
    rw [hq] at h1
    have HF : Hid (R = 0) := Lib.hid (by rw [← HR.out]; unfold cellsK; rw [if_neg (of_decide_eq_false hq)])
    clear hq
    go_wp2_with fail
    refine h1.mono ?_
    rintro e v1 ⟨rfl, hb⟩
    have hbl := HG.out.2.1.trans (hb.mono HG.out.2.1.size)
    clear hb h1 k0 k1
    go_wp2_with fail
    go_ret
    refine ⟨?_, hbl⟩
    rw [HF.out]
    rfl
  | true =>
    rw [hq] at h1
    have hS := of_decide_eq_true hq
    have HF : Hid (R = sumC (rws es)) := Lib.hid (by rw [← HR.out]; unfold cellsK; rw [if_pos hS])
    have HS := Lib.hid hS
    have hl200 : es.length ≤ 200 := by have := hS.few; simp only [rws_length] at this; exact this
    clear hq hS
    go_wp2_with fail
    refine h1.mono ?_
    rintro e v1 ⟨rfl, hb⟩
    have hbx := HG.out.1.below hb HG.out.1.lt
    have HV0 := Lib.hid hb
    clear hb h1 k0 k1
    have k0 : v1.cell? ⟨w.heap.size, 0, none⟩ = some (.slice A es.length c) := hbx.cell 0
    clear hbx
    go_wp2_with fail
    go_loopw [3, 12] (fun u3 u12 wr => ∃ i s : Nat, i ≤ es.length ∧ u12 = .int .i64 (i : Int) ∧ u3 = .int .i64 (s : Int) ∧ Hid (s = sumC ((rws es).take i)) ∧ Hid (Below W.heap.size W wr)) (fun _ u12 _ => es.length - (intOf u12).toNat)
    case atStart => exact ⟨0, 0, Nat.zero_le _, rfl, rfl, Lib.hid (by simp [sumC]), HV0⟩
    case round =>
      obtain ⟨i, sm, hi, rfl, rfl, HT, HV⟩ := hrel
      clear HV0 k0
      by_cases hlt : i < es.length
      · obtain ⟨x, hx⟩ : ∃ x, es[i]? = some x := ⟨_, List.getElem?_eq_getElem hlt⟩
        have z1 : (i : Int) < (es.length : Int) := by omega
        have hxl : x.r.cs.length ≤ 4096 := (HS.out.1 x.r (List.mem_of_getElem? (rws_at hx))).1.2
        have hsl : sm ≤ 819200 := by
          rw [HT.out]
          have h2 := sum10_le (l := (rws es).take i) (fun r hr => HS.out.1 r (List.mem_of_mem_take hr))
          have h3 : ((rws es).take i).length ≤ 200 := by rw [List.length_take, rws_length]; omega
          omega
        have HT1 : Hid (sm + x.r.cs.length = sumC ((rws es).take (i + 1))) := Lib.hid (by rw [sum10_take (rws_at hx), HT.out])
        have hI := HG.out.2.2.on HV.out
        obtain ⟨b, o, rfl, hB, p0, p1, p2, p3⟩ := hI.rows.at_ hx
        have hal : Below wr.heap.size wr (wr.alloc (.cells #[.slice x.A x.r.cs.length x.c, .bool x.r.wrap, .int .i64 x.r.dir, .bool x.r.ex] 35)) := (Below.refl _ _).alloc (Nat.le_refl _) _
        have hX := Box.new wr 35 #[.slice x.A x.r.cs.length x.c, .bool x.r.wrap, .int .i64 x.r.dir, .bool x.r.ex]
        have HV1 := Lib.hid (HV.out.trans (hal.mono HV.out.size))
        have hbW : b < wr.heap.size := hB
        clear hI hal hx
        go_upto_region 7 with fail
        generalize wr.alloc (.cells #[.slice x.A x.r.cs.length x.c, .bool x.r.wrap, .int .i64 x.r.dir, .bool x.r.ex] 35) = V at *
        have r0 : V.cell? ⟨wr.heap.size, 0, none⟩ = some (.slice x.A x.r.cs.length x.c) := hX.cell 0
        clear p0 p1 p2 p3 hB hbW hX
        go_wp2_with fail
        exact ⟨⟨i + 1, sm + x.r.cs.length, by omega, by simp, by simp, HT1, HV1⟩, by simp [intOf]; omega⟩
      · obtain rfl : i = es.length := by omega
        have z1 : ¬ (es.length : Int) < (es.length : Int) := by omega
        have HE : Hid (R = sm) := Lib.hid (by rw [HF.out, HT.out]; rw [show es.length = (rws es).length from (rws_length es).symm, List.take_length])
        go_wp2_with fail
        go_ret
        refine ⟨?_, HG.out.2.1.trans (HV.out.mono HG.out.2.1.size)⟩
        rw [HE.out]
        rfl
end Go.Proofs.Ytinbdpfjpcgikaa

namespace Go.Proofs.Ytinbdpfjpcgikaa
open Go Go.RowKit
set_option linter.unusedVariables false
set_option linter.unusedSimpArgs false

theorem RdG.at2 {w : World} {b o c : Nat} {l : List Rl} {k : Nat} {e : Rl} (h : RdG w (some ⟨b, o, none⟩) c l) (hx : l[k]? = some e) : b < w.heap.size ∧
    w.cell? ⟨b, o + k * 4, none⟩ = some (.slice e.A e.r.cs.length e.c) ∧ w.cell? ⟨b, o + k * 4 + 1, none⟩ = some (.bool e.r.wrap) ∧ w.cell? ⟨b, o + k * 4 + 2, none⟩ = some (.int .i64 e.r.dir) ∧ w.cell? ⟨b, o + k * 4 + 3, none⟩ = some (.bool e.r.ex) := by
  obtain ⟨b', o', ha, hB, h0, h1, h2, h3⟩ := h.at_ hx
  injection ha with ha
  injection ha with ha ho
  subst ha; subst ho
  exact ⟨hB, h0, h1, h2, h3⟩
end Go.Proofs.Ytinbdpfjpcgikaa

namespace Go.Proofs.Ytinbdpfjpcgikaa
open Go Go.RowKit
set_option linter.unusedVariables false
set_option linter.unusedSimpArgs false

theorem Box.put4r {w W : World} {B g : Nat} {t : TypeId} {o0 o1 o2 o3 : Value} (h : Box W g t #[o0, o1, o2, o3]) (hb : Below B w W) (hg : B ≤ g) (v0 v1 v2 v3 : Value) :
    Box ((((W.setCell ⟨g, 0, none⟩ v0).setCell ⟨g, 1, none⟩ v1).setCell ⟨g, 2, none⟩ v2).setCell ⟨g, 3, none⟩ v3) g t #[v0, v1, v2, v3] ∧
    Below B w ((((W.setCell ⟨g, 0, none⟩ v0).setCell ⟨g, 1, none⟩ v1).setCell ⟨g, 2, none⟩ v2).setCell ⟨g, 3, none⟩ v3) :=
  have h0 : Box (W.setCell ⟨g, 0, none⟩ v0) g t #[v0, o1, o2, o3] := h.set_ 0 v0
  have h1 : Box ((W.setCell ⟨g, 0, none⟩ v0).setCell ⟨g, 1, none⟩ v1) g t #[v0, v1, o2, o3] := h0.set_ 1 v1
  have h2 : Box (((W.setCell ⟨g, 0, none⟩ v0).setCell ⟨g, 1, none⟩ v1).setCell ⟨g, 2, none⟩ v2) g t #[v0, v1, v2, o3] := h1.set_ 2 v2
  ⟨h2.set_ 3 v3, (((hb.setCell (p := ⟨g, 0, none⟩) hg v0).setCell (p := ⟨g, 1, none⟩) hg v1).setCell (p := ⟨g, 2, none⟩) hg v2).setCell (p := ⟨g, 3, none⟩) hg v3⟩
/-- Cells in memory stay where another box is stored to. -/
theorem InC.box4 {W : World} {A : Option Addr} {c g : Nat} {l : List Cl} {t : TypeId} {cs : Array Value} (h : InC W A c l) (hb : Box W g t cs) (hne : ∀ b o, A = some ⟨b, o, none⟩ → b ≠ g) (v0 v1 v2 v3 : Value) :
    InC ((((W.setCell ⟨g, 0, none⟩ v0).setCell ⟨g, 1, none⟩ v1).setCell ⟨g, 2, none⟩ v2).setCell ⟨g, 3, none⟩ v3) A c l := by
  refine ⟨fun hl => ?_, h.cap, h.max⟩
  obtain ⟨b, o, e, hB, hc⟩ := h.rd hl
  have hn := hne b o e
  refine ⟨b, o, e, by simpa using hB, fun k x hx j u hu => ?_⟩
  rw [← hc k x hx j u hu]
  have hstep : ∀ (V : World) (i : Nat) (v : Value) (q : Nat), (V.setCell ⟨g, i, none⟩ v).cell? ⟨b, q, none⟩ = V.cell? ⟨b, q, none⟩ := fun V i v q => by
    have := Below.heap_setCell V ⟨g, i, none⟩ v b (by simpa using hn)
    unfold World.cell?
    simp only [this]
  rw [hstep, hstep, hstep, hstep]
theorem own_ne {W : World} {base g : Nat} {A : Option Addr} {c : Nat} {l : List Cl} (h : OwnC W base A c l) (hg : g < base) : ∀ b o, A = some ⟨b, o, none⟩ → b ≠ g := by
  intro b o e
  subst e
  rcases h.2 with ⟨hv, _⟩ | ⟨g', _, _, hv, hb, _⟩
  · injection hv with hv; cases hv
  · injection hv with hv; injection hv with hv; injection hv with hv
    omega
theorem InC.far4 {W : World} {A : Option Addr} {c g : Nat} {l : List Cl} {t : TypeId} {cs : Array Value} (h : InC W A c l) (hb : Box W g t cs) (hcs : cs.size ≤ 6) (v0 v1 v2 v3 : Value) :
    InC ((((W.setCell ⟨g, 0, none⟩ v0).setCell ⟨g, 1, none⟩ v1).setCell ⟨g, 2, none⟩ v2).setCell ⟨g, 3, none⟩ v3) A c l := by
  by_cases hl : l = []
  · subst hl
    exact InC.nil h.max
  · refine h.box4 hb (fun b o e he => ?_) v0 v1 v2 v3
    subst he
    obtain ⟨x, m, rfl⟩ := List.exists_cons_of_ne_nil hl
    obtain ⟨b', o', e', _, hc⟩ := h.rd hl
    rw [e] at e'
    injection e' with e'
    injection e' with e1 e2
    subst e1; subst e2
    have h6 := hc 0 x rfl 6 _ rfl
    rw [hb.cell, Array.getElem?_eq_none (by omega)] at h6
    cases h6
/-- The answer's place is stored to: the class of worlds holds behind it. -/
theorem below_four {w0 W : World} {B g : Nat} (h : Below B w0 W) (hg : B ≤ g) (v0 v1 v2 v3 : Value) : Below B w0 ((((W.setCell ⟨g, 0, none⟩ v0).setCell ⟨g, 1, none⟩ v1).setCell ⟨g, 2, none⟩ v2).setCell ⟨g, 3, none⟩ v3) :=
  (((h.setCell (p := ⟨g, 0, none⟩) hg v0).setCell (p := ⟨g, 1, none⟩) hg v1).setCell (p := ⟨g, 2, none⟩) hg v2).setCell (p := ⟨g, 3, none⟩) hg v3
end Go.Proofs.Ytinbdpfjpcgikaa
