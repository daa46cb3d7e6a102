/- What the rows' condition gives the walks: the table of the flags. -/
import Derived.Test.YtlcnlfjjglcobaaDoorClose7
namespace Go.Proofs.YtlcnlfjjglcobaaDoor
open Go Go.RowKit Go.ChangeShapes Go.WideShapes Go.ChangeAt Go.Deep
set_option linter.unusedVariables false
set_option linter.unusedSimpArgs false

theorem flat3_at {α : Type} (f : α → List Value) (hf : ∀ x, (f x).length = 3) {l : List α} {k : Nat} {x : α} (h : l[k]? = some x) (j : Nat) (hj : j < 3) : (l.flatMap f)[k * 3 + j]? = (f x)[j]? := by
  induction l generalizing k with
  | nil => simp at h
  | cons y l ih =>
    rw [List.flatMap_cons]
    cases k with
    | zero =>
      simp at h; subst h
      rw [List.getElem?_append_left (by rw [hf]; omega)]
      simp
    | succ k =>
      simp at h
      rw [List.getElem?_append_right (by rw [hf]; omega), ← ih h, hf]
      congr 1
      omega
def rowD {H : Type} (x : Int × Int × Int) : DataW H := .agg [.lit (.int .i64 x.1), .lit (.int .i64 x.2.1), .lit (.int .i64 x.2.2)]
theorem trod_row3 {H : Type} {enc : TypeId × Value → H} {W : World} {base : Nat} {sp : Nat → Bool} {held : Bool} {fuel : Nat} {cs : List Value} {x : Int × Int × Int} {p : List MemPlace}
    (h : DataW.trod enc Tryd.prog W base sp held fuel 44 cs = some (rowD x, p)) : cs = [.int .i64 x.1, .int .i64 x.2.1, .int .i64 x.2.2] := by
  obtain ⟨xs, n, _, hx, hl, hlen, hg⟩ := DataW.trod_struct Tryd.underlying44 h
  have hC : Tryd.prog.cellsOf 44 = 3 := by kernel_rfl
  have hI : Tryd.prog.cellsOf 3 = 1 := by kernel_rfl
  match cs, hl.trans hC with
  | [c0, c1, c2], _ =>
    have g0 : DataW.trod enc Tryd.prog W base sp held n 3 (([c0, c1, c2].drop 0).take (Tryd.prog.cellsOf 3)) = xs[0]? := hg 0 _ rfl
    have g1 : DataW.trod enc Tryd.prog W base sp held n 3 (([c0, c1, c2].drop 1).take (Tryd.prog.cellsOf 3)) = xs[1]? := hg 1 _ rfl
    have g2 : DataW.trod enc Tryd.prog W base sp held n 3 (([c0, c1, c2].drop 2).take (Tryd.prog.cellsOf 3)) = xs[2]? := hg 2 _ rfl
    rw [hI] at g0 g1 g2
    match xs, hlen with
    | [y0, y1, y2], _ =>
      simp at g0 g1 g2
      obtain ⟨k0, e0, d0, _⟩ := DataW.trod_int Tryd.underlying3 g0
      obtain ⟨k1, e1, d1, _⟩ := DataW.trod_int Tryd.underlying3 g1
      obtain ⟨k2, e2, d2, _⟩ := DataW.trod_int Tryd.underlying3 g2
      simp only [List.cons.injEq, and_true] at e0 e1 e2
      subst e0 e1 e2 d0 d1 d2
      simp [rowD] at hx
      obtain ⟨⟨h0, h1, h2⟩, _⟩ := hx
      rw [h0, h1, h2]
theorem togs_data : (Rows.laid_lapwing_pen_toggles : DataW Unit) = .agg (rowsT.map rowD) := by rfl
theorem tog_of_laid {W : World} {L : List (String × DataW Unit)} (h : laidMet Tryd.prog L W) (h1 : ("lapwing/pen.toggles", Rows.laid_lapwing_pen_toggles) ∈ L) : Tog W := by
  have r := Lib.laidMet.reads h h1
  rw [togs_data] at r
  have n1 : Tryd.prog.globalNamed "lapwing/pen.toggles" = some 0 := by kernel_rfl
  have y1 : (Tryd.prog.globals[0]?).map (·.type) = some 45 := by kernel_rfl
  have c1 : Tryd.prog.cellsOf 44 = 3 := by kernel_rfl
  have c2 : Tryd.prog.cellsOf 45 = 27 := by kernel_rfl
  obtain ⟨g, t, cs, fuel, p, hg, hty, hvar, hd⟩ := r
  obtain rfl := Option.some.inj (n1.symm.trans hg)
  obtain rfl := Option.some.inj (y1.symm.trans hty)
  intro k v hv
  rw [World.var?_cell hg hvar k, ← Array.getElem?_toList]
  have hk : k < 27 := (List.getElem?_eq_some_iff.1 hv).1
  cases fuel with
  | zero => simp [DataW.trod] at hd
  | succ fuel =>
    simp only [DataW.trod, Tryd.underlying45, c1, c2] at hd
    split at hd
    · rename_i hl
      obtain ⟨xs, hm, hx⟩ := Option.map_eq_some_iff.1 hd
      have hxs : xs.map (·.1) = rowsT.map rowD := by
        have := congrArg Prod.fst hx
        simpa using this
      obtain ⟨i, j, hj, hij⟩ : ∃ i j, j < 3 ∧ k = i * 3 + j := ⟨k / 3, k % 3, by omega, by omega⟩
      have hi : i < 9 := by omega
      obtain ⟨y, hy, hf⟩ := Lib.mapM_at hm i i (by simp [hi])
      obtain ⟨x, hxr⟩ : ∃ x, rowsT[i]? = some x := ⟨_, List.getElem?_eq_getElem (by exact hi)⟩
      have hyx : y.1 = rowD x := by
        have h2 : (xs.map (·.1))[i]? = some y.1 := by simp [hy]
        rw [hxs, List.getElem?_map, hxr] at h2
        exact (Option.some.inj h2).symm
      obtain ⟨y1', y2'⟩ := y
      simp only at hyx
      subst hyx
      have hcs := trod_row3 hf
      have hcell : cs.toList[i * 3 + j]? = ([.int .i64 x.1, .int .i64 x.2.1, .int .i64 x.2.2] : List Value)[j]? := by
        have := congrArg (·[j]?) hcs
        simpa [List.getElem?_take, List.getElem?_drop, hj] using this
      rw [hij, hcell, ← hv, hij]
      exact (flat3_at (fun x : Int × Int × Int => [Value.int .i64 x.1, .int .i64 x.2.1, .int .i64 x.2.2]) (fun _ => rfl) hxr j hj).symm
    · cases hd
end Go.Proofs.YtlcnlfjjglcobaaDoor
