/- Cells compared with '=='. -/
import Derived.Test.YtcadbapccdclaaaMem08
import Derived.Test.YtcadbapccdclaaaChecked
import Derived.ChangeKeysEq
import Derived.Laws.StructEq
namespace Go.Proofs.Ytcadbapccdclaaa
open Go Go.RowKit
set_option linter.unusedVariables false
set_option linter.unusedSimpArgs false

theorem arr_equal (d : Nat) (a b a' b' : Int) (V : World) : (Op.equalIn (d + 2) 45 (.agg #[.int .i64 a, .int .i64 b]) (.agg #[.int .i64 a', .int .i64 b'])).run Try.prog V = .ok (a == a' && b == b') V := by
  obtain ⟨i, hi⟩ : ∃ i, Try.prog.info? 3 = some i := Option.isSome_iff_exists.1 (by kernel_rfl)
  rw [run_equalIn_array V (d + 1) _ _ Try.underlying45 hi]
  have h1 : Try.prog.cellsOf 3 = 1 := by kernel_rfl
  rw [h1]
  have p0 : ∀ x y : Int, (part 3 #[.int .i64 x, .int .i64 y] 0).run Try.prog V = .ok (.int .i64 x) V := fun x y => by kernel_rfl
  have p1 : ∀ x y : Int, (part 3 #[.int .i64 x, .int .i64 y] 1).run Try.prog V = .ok (.int .i64 y) V := fun x y => by kernel_rfl
  have q : ∀ x y : Int, (Op.equalIn (d + 1) 3 (.int .i64 x) (.int .i64 y)).run Try.prog V = .ok (x == y) V := fun x y => run_equalIn_int V d _ _ _ _ _ Try.underlying3
  have hr : List.range 2 = [0, 1] := rfl
  rw [hr]
  simp only [Op.eqItems, Sem.run_bind, Nat.zero_mul, Nat.one_mul, p0, p1, q, Result.andThen_ok, Sem.run_ite, Sem.run_pure]
  cases (a == a') <;> cases (b == b') <;> simp [Result.andThen_ok]
theorem pen_equal (d : Nat) (a b c a' b' c' : Int) (V : World) : (Op.equalIn (d + 2) 31 (.agg #[.int .i64 a, .int .i64 b, .int .i64 c]) (.agg #[.int .i64 a', .int .i64 b', .int .i64 c'])).run Try.prog V = .ok (a == a' && (b == b' && c == c')) V := by
  rw [run_equalIn_struct V (d + 1) 31 _ _ (by kernel_rfl) (by kernel_rfl)]
  have p0 : ∀ x y z : Int, (part 3 #[.int .i64 x, .int .i64 y, .int .i64 z] 0).run Try.prog V = .ok (.int .i64 x) V := fun x y z => by kernel_rfl
  have p1 : ∀ x y z : Int, (part 3 #[.int .i64 x, .int .i64 y, .int .i64 z] 1).run Try.prog V = .ok (.int .i64 y) V := fun x y z => by kernel_rfl
  have p2 : ∀ x y z : Int, (part 3 #[.int .i64 x, .int .i64 y, .int .i64 z] 2).run Try.prog V = .ok (.int .i64 z) V := fun x y z => by kernel_rfl
  have q : ∀ x y : Int, (Op.equalIn (d + 1) 3 (.int .i64 x) (.int .i64 y)).run Try.prog V = .ok (x == y) V := fun x y => run_equalIn_int V d _ _ _ _ _ Try.underlying3
  simp only [Program.fieldsOf, Try.underlying31, Op.eqFields, Sem.run_bind, p0, p1, p2, q, Result.andThen_ok, Sem.run_ite, Sem.run_pure]
  cases (a == a') <;> cases (b == b') <;> cases (c == c') <;> simp [Result.andThen_ok]
theorem cell_equal (x y : Cl) (V : World) : (Op.equalIn 10000 47 (clV x) (clV y)).run Try.prog V = .ok (decide (x = y)) V := by
  obtain ⟨r, m0, m1, cw, ⟨fg, bg, fl⟩⟩ := x
  obtain ⟨r', m0', m1', cw', ⟨fg', bg', fl'⟩⟩ := y
  unfold clV
  rw [run_equalIn_struct V 9999 47 _ _ (by kernel_rfl) (by kernel_rfl)]
  have p0 : ∀ a b c d e f g : Int, (part 3 #[.int .i64 a, .int .i64 b, .int .i64 c, .int .i64 d, .int .i64 e, .int .i64 f, .int .i64 g] 0).run Try.prog V = .ok (.int .i64 a) V := fun _ _ _ _ _ _ _ => by kernel_rfl
  have p1 : ∀ a b c d e f g : Int, (part 45 #[.int .i64 a, .int .i64 b, .int .i64 c, .int .i64 d, .int .i64 e, .int .i64 f, .int .i64 g] 1).run Try.prog V = .ok (.agg #[.int .i64 b, .int .i64 c]) V := fun _ _ _ _ _ _ _ => by kernel_rfl
  have p2 : ∀ a b c d e f g : Int, (part 3 #[.int .i64 a, .int .i64 b, .int .i64 c, .int .i64 d, .int .i64 e, .int .i64 f, .int .i64 g] 3).run Try.prog V = .ok (.int .i64 d) V := fun _ _ _ _ _ _ _ => by kernel_rfl
  have p3 : ∀ a b c d e f g : Int, (part 31 #[.int .i64 a, .int .i64 b, .int .i64 c, .int .i64 d, .int .i64 e, .int .i64 f, .int .i64 g] 4).run Try.prog V = .ok (.agg #[.int .i64 e, .int .i64 f, .int .i64 g]) V := fun _ _ _ _ _ _ _ => by kernel_rfl
  have q : ∀ x y : Int, (Op.equalIn 9999 3 (.int .i64 x) (.int .i64 y)).run Try.prog V = .ok (x == y) V := fun x y => run_equalIn_int V 9998 _ _ _ _ _ Try.underlying3
  have qa := fun a b a' b' => arr_equal 9997 a b a' b' V
  have qp := fun a b c a' b' c' => pen_equal 9997 a b c a' b' c' V
  simp only [Program.fieldsOf, Try.underlying47, Op.eqFields, Sem.run_bind, p0, p1, p2, p3, q, qa, qp, Result.andThen_ok, Sem.run_ite, Sem.run_pure]
  have e : decide ((⟨r, m0, m1, cw, ⟨fg, bg, fl⟩⟩ : Cl) = ⟨r', m0', m1', cw', ⟨fg', bg', fl'⟩⟩) = (r == r' && ((m0 == m0' && m1 == m1') && (cw == cw' && (fg == fg' && (bg == bg' && fl == fl'))))) := by
    rw [Bool.eq_iff_iff]
    simp [and_assoc]
  rw [e]
  cases (r == r') <;> cases (m0 == m0' && m1 == m1') <;> cases (cw == cw') <;> cases (fg == fg' && (bg == bg' && fl == fl')) <;> simp [Result.andThen_ok]
theorem cell_neq (x y : Cl) (V : World) : (binOp .neq 47 (clV x) (clV y)).run Try.prog V = .ok (.bool (!decide (x = y))) V := by
  have h := cell_equal x y V
  unfold clV at h ⊢
  rw [run_neq_struct, h]
  rfl
theorem cell_eql (x y : Cl) (V : World) : (binOp .eql 47 (clV x) (clV y)).run Try.prog V = .ok (.bool (decide (x = y))) V := by
  have h := cell_equal x y V
  unfold clV at h ⊢
  rw [run_eql_struct, h]
  rfl
theorem pen_eql (p q : Pn) (V : World) : (binOp .eql 31 (.agg #[.int .i64 p.fg, .int .i64 p.bg, .int .i64 p.fl]) (.agg #[.int .i64 q.fg, .int .i64 q.bg, .int .i64 q.fl])).run Try.prog V = .ok (.bool (decide (p = q))) V := by
  have h := pen_equal 9998 p.fg p.bg p.fl q.fg q.bg q.fl V
  rw [run_eql_struct, h]
  obtain ⟨a, b, c⟩ := p
  obtain ⟨a', b', c'⟩ := q
  have e : decide ((⟨a, b, c⟩ : Pn) = ⟨a', b', c'⟩) = (a == a' && (b == b' && c == c')) := by
    rw [Bool.eq_iff_iff]; simp
  rw [e]
  rfl
theorem pen_neq (p q : Pn) (V : World) : (binOp .neq 31 (.agg #[.int .i64 p.fg, .int .i64 p.bg, .int .i64 p.fl]) (.agg #[.int .i64 q.fg, .int .i64 q.bg, .int .i64 q.fl])).run Try.prog V = .ok (.bool (!decide (p = q))) V := by
  have h := pen_equal 9998 p.fg p.bg p.fl q.fg q.bg q.fl V
  rw [run_neq_struct, h]
  obtain ⟨a, b, c⟩ := p
  obtain ⟨a', b', c'⟩ := q
  have e : decide ((⟨a, b, c⟩ : Pn) = ⟨a', b', c'⟩) = (a == a' && (b == b' && c == c')) := by
    rw [Bool.eq_iff_iff]; simp
  rw [e]
  rfl
end Go.Proofs.Ytcadbapccdclaaa
