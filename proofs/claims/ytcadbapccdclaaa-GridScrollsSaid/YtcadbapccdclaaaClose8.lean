/- Arguments: a pen, a cell, a row. -/
import Derived.Test.YtcadbapccdclaaaOwn
import Derived.ChangeSame
import Derived.Laws.IdiomArrays
import Derived.Test.YtcadbapccdclaaaTrod5
import Derived.Test.YtcadbapccdclaaaMem08
namespace Go.Proofs.Ytcadbapccdclaaa
open Go Go.RowKit Go.ChangeShapes Go.WideShapes Go.ChangeAt Go.Deep
set_option linter.unusedVariables false
set_option linter.unusedSimpArgs false

section
variable {H : Type} {enc : TypeId × Value → H} {W : World}
theorem pen_cells {fuel : Nat} {c0 c1 c2 : Value} {x : DataW H × List MemPlace} (h : DataW.trod enc Try.prog W 0 (fun _ => true) true fuel 31 [c0, c1, c2] = some x) :
    ∃ p : Pn, c0 = .int .i64 p.fg ∧ c1 = .int .i64 p.bg ∧ c2 = .int .i64 p.fl ∧ PnOk p := by
  have hI : Try.prog.cellsOf 3 = 1 := by kernel_rfl
  obtain ⟨xs, n, _, hx, _, hlen, hg⟩ := DataW.trod_struct Try.underlying31 h
  have g0 : DataW.trod enc Try.prog W 0 (fun _ => true) true n 3 (([c0, c1, c2].drop 0).take (Try.prog.cellsOf 3)) = xs[0]? := hg 0 _ rfl
  have g1 : DataW.trod enc Try.prog W 0 (fun _ => true) true n 3 (([c0, c1, c2].drop 1).take (Try.prog.cellsOf 3)) = xs[1]? := hg 1 _ rfl
  have g2 : DataW.trod enc Try.prog W 0 (fun _ => true) true n 3 (([c0, c1, c2].drop 2).take (Try.prog.cellsOf 3)) = xs[2]? := hg 2 _ rfl
  rw [hI] at g0 g1 g2
  match xs, hlen with
  | [y0, y1, y2], _ =>
    simp at g0 g1 g2
    obtain ⟨k0, e0, _, w0⟩ := DataW.trod_int Try.underlying3 g0
    obtain ⟨k1, e1, _, w1⟩ := DataW.trod_int Try.underlying3 g1
    obtain ⟨k2, e2, _, w2⟩ := DataW.trod_int Try.underlying3 g2
    simp only [List.cons.injEq, and_true] at e0 e1 e2
    exact ⟨⟨k0, k1, k2⟩, e0, e1, e2, wf_i64 w0, wf_i64 w1, wf_i64 w2⟩
theorem arr2_cells {fuel : Nat} {c0 c1 : Value} {x : DataW H × List MemPlace} (h : DataW.trod enc Try.prog W 0 (fun _ => true) true fuel 45 [c0, c1] = some x) :
    ∃ a b : Int, c0 = .int .i64 a ∧ c1 = .int .i64 b ∧ I64 a ∧ I64 b := by
  have hI : Try.prog.cellsOf 3 = 1 := by kernel_rfl
  cases fuel with
  | zero => simp [DataW.trod] at h
  | succ n =>
    unfold DataW.trod at h
    rw [Try.underlying45] at h
    have r2 : List.range 2 = [0, 1] := rfl
    simp [r2, hI] at h
    obtain ⟨_, h⟩ := h
    cases h0 : DataW.trod enc Try.prog W 0 (fun _ => true) true n 3 [c0] with
    | none => simp [h0] at h
    | some y0 =>
      cases h1 : DataW.trod enc Try.prog W 0 (fun _ => true) true n 3 [c1] with
      | none => simp [h0, h1] at h
      | some y1 =>
        obtain ⟨k0, e0, _, w0⟩ := DataW.trod_int Try.underlying3 h0
        obtain ⟨k1, e1, _, w1⟩ := DataW.trod_int Try.underlying3 h1
        simp only [List.cons.injEq, and_true] at e0 e1
        exact ⟨k0, k1, e0, e1, wf_i64 w0, wf_i64 w1⟩
set_option maxRecDepth 100000 in
theorem cell_cells {fuel : Nat} {cs : List Value} {x : DataW H × List MemPlace} (h : DataW.trod enc Try.prog W 0 (fun _ => true) true fuel 47 cs = some x) : ∃ e : Cl, cs = clCells e ∧ ClOk e := by
  obtain ⟨xs, n, _, hx, hl, hlen, hg⟩ := DataW.trod_struct Try.underlying47 h
  have hC : Try.prog.cellsOf 47 = 7 := by kernel_rfl
  have hI : Try.prog.cellsOf 3 = 1 := by kernel_rfl
  have hA : Try.prog.cellsOf 45 = 2 := by kernel_rfl
  have hP : Try.prog.cellsOf 31 = 3 := by kernel_rfl
  match cs, hl.trans hC with
  | [c0, c1, c2, c3, c4, c5, c6], _ =>
    have g0 : DataW.trod enc Try.prog W 0 (fun _ => true) true n 3 (([c0, c1, c2, c3, c4, c5, c6].drop 0).take (Try.prog.cellsOf 3)) = xs[0]? := hg 0 _ rfl
    have g1 : DataW.trod enc Try.prog W 0 (fun _ => true) true n 45 (([c0, c1, c2, c3, c4, c5, c6].drop 1).take (Try.prog.cellsOf 45)) = xs[1]? := hg 1 _ rfl
    have g2 : DataW.trod enc Try.prog W 0 (fun _ => true) true n 3 (([c0, c1, c2, c3, c4, c5, c6].drop 3).take (Try.prog.cellsOf 3)) = xs[2]? := hg 2 _ rfl
    have g3 : DataW.trod enc Try.prog W 0 (fun _ => true) true n 31 (([c0, c1, c2, c3, c4, c5, c6].drop 4).take (Try.prog.cellsOf 31)) = xs[3]? := hg 3 _ rfl
    rw [hI] at g0 g2
    rw [hA] at g1
    rw [hP] at g3
    match xs, hlen with
    | [y0, y1, y2, y3], _ =>
      simp at g0 g1 g2 g3
      obtain ⟨r, e0, _, w0⟩ := DataW.trod_int Try.underlying3 g0
      obtain ⟨m0, m1, e1, e1', w1, w1'⟩ := arr2_cells g1
      obtain ⟨cw, e2, _, w2⟩ := DataW.trod_int Try.underlying3 g2
      obtain ⟨p, e3, e4, e5, w3⟩ := pen_cells g3
      simp only [List.cons.injEq, and_true] at e0 e2
      subst e0 e1 e1' e2 e3 e4 e5
      exact ⟨⟨r, m0, m1, cw, p⟩, rfl, wf_i64 w0, w1, w1', wf_i64 w2, w3⟩
end
set_option maxRecDepth 100000 in
theorem penArg8 {H : Type} {enc : TypeId × Value → H} {W : World} {base : Nat} {v : Value} {d : DataW H} {ps : List MemPlace} (hok : Value.okWide Try.prog W .any base 31 v) (h : DataW.Trod enc Try.prog W 0 (fun _ => true) true 31 v d ps) :
    ∃ p, v = pnV p ∧ PnOk p := by
  obtain ⟨cs, rfl, hsz⟩ := okWide_struct Try.underlying31 hok
  have hC : Try.prog.cellsOf 31 = 3 := by kernel_rfl
  obtain ⟨l⟩ := cs
  match l, hsz.trans hC with
  | [c0, c1, c2], _ =>
    obtain ⟨fuel, hf⟩ := h
    obtain ⟨p, rfl, rfl, rfl, hp⟩ := pen_cells (W := W) hf
    exact ⟨p, rfl, hp⟩
set_option maxRecDepth 100000 in
theorem cellArg {H : Type} {enc : TypeId × Value → H} {W : World} {base : Nat} {v : Value} {d : DataW H} {ps : List MemPlace} (hok : Value.okWide Try.prog W .any base 47 v) (h : DataW.Trod enc Try.prog W 0 (fun _ => true) true 47 v d ps) :
    ∃ x, v = clV x ∧ ClOk x := by
  obtain ⟨cs, rfl, hsz⟩ := okWide_struct Try.underlying47 hok
  obtain ⟨l⟩ := cs
  obtain ⟨fuel, hf⟩ := h
  obtain ⟨e, he, hk⟩ := cell_cells (W := W) hf
  have he' : l = clCells e := he
  subst he'
  exact ⟨e, rfl, hk⟩
theorem cellsTab {H : Type} {enc : TypeId × Value → H} {W : World} {fuel : Nat} {v : Value} {x : DataW H × List MemPlace} (h : DataW.trod enc Try.prog W 0 (fun _ => true) true fuel 33 [v] = some x) :
    ∃ A c l, v = .slice A (List.length l) c ∧ InC W A c l ∧ ∀ e ∈ l, ClOk e := by
  have hC : Try.prog.cellsOf 47 = 7 := by kernel_rfl
  rcases open_slice Try.underlying33 h with ⟨hcs, hx⟩ | ⟨a, len, cap, m, n, D, Pl, hcs, hb, hl, hm, hmm, hx, hel⟩
  · simp only [List.cons.injEq, and_true] at hcs
    exact ⟨none, 0, [], hcs, InC.nil (Nat.zero_le _), by simp⟩
  · simp only [List.cons.injEq, and_true] at hcs
    simp only [if_true] at hmm
    subst hmm
    have one : ∀ k, k < m → ∃ e : Cl, (∀ j u, (clCells e)[j]? = some u → W.cell? ((a.add (k * 7)).add j) = some u) ∧ ClOk e := by
      intro k hk
      obtain ⟨cs', hc, hd⟩ := hel k hk
      rw [hC] at hc
      obtain ⟨_, hcl, hat⟩ := World.cells?_some hc
      obtain ⟨e, he, hok⟩ := cell_cells (W := W) hd
      refine ⟨e, fun j u hu => ?_, hok⟩
      have hj : j < 7 := (List.getElem?_eq_some_iff.1 hu).1
      rw [hat j hj, he, hu]
    let g : Nat → Cl := fun k => if hk : k < m then Classical.choose (one k hk) else ⟨0, 0, 0, 0, zeroN⟩
    have hg : ∀ k (hk : k < m), (∀ j u, (clCells (g k))[j]? = some u → W.cell? ((a.add (k * 7)).add j) = some u) ∧ ClOk (g k) := by
      intro k hk
      have := Classical.choose_spec (one k hk)
      simpa only [g, dif_pos hk] using this
    refine ⟨some a, m, (List.range len).map g, by rw [hcs]; simp, ⟨fun hne => ?_, by simp; omega, hm⟩, ?_⟩
    · have hlen : 0 < len := by
        rcases Nat.eq_zero_or_pos len with h0 | h0
        · subst h0; simp at hne
        · exact h0
      obtain ⟨b, o, spot⟩ := a
      have h0 := (hg 0 (by omega)).1 0 _ rfl
      have hspot : spot = none := by simpa [Addr.add] using World.cell?_spot h0
      subst hspot
      have add_mid : ∀ x j, (⟨b, x, none⟩ : Addr).add j = ⟨b, x + j, none⟩ := fun x j => by unfold Addr.add; split <;> simp_all
      have hbW : b < W.heap.size := by
        have := World.block_lt_of_cell? W _ h0
        simpa [add_mid] using this
      refine ⟨b, o, rfl, hbW, fun k x hx j u hu => ?_⟩
      rw [List.getElem?_map] at hx
      obtain ⟨k', hk', rfl⟩ := Option.map_eq_some_iff.1 hx
      obtain ⟨h1, h2⟩ := List.getElem?_eq_some_iff.1 hk'
      simp at h1 h2
      subst h2
      have h3 := (hg k (by omega)).1 j u hu
      simpa only [add_mid] using h3
    · intro e he
      obtain ⟨k, hk, rfl⟩ := List.mem_map.1 he
      exact (hg k (by have := List.mem_range.1 hk; omega)).2
set_option maxRecDepth 100000 in
theorem row_cells {H : Type} {enc : TypeId × Value → H} {W : World} {fuel : Nat} {cs : List Value} {x : DataW H × List MemPlace} (h : DataW.trod enc Try.prog W 0 (fun _ => true) true fuel 35 cs = some x) :
    ∃ (r : Rw) (A : Option Addr) (c : Nat), cs = (rwCells r A c).toList ∧ InC W A c r.cs ∧ RwOk r := by
  obtain ⟨xs, n, _, hx, hl, hlen, hg⟩ := DataW.trod_struct Try.underlying35 h
  have hC : Try.prog.cellsOf 35 = 4 := by kernel_rfl
  have hI : Try.prog.cellsOf 3 = 1 := by kernel_rfl
  have hB : Try.prog.cellsOf 4 = 1 := by kernel_rfl
  have hS : Try.prog.cellsOf 33 = 1 := by kernel_rfl
  match cs, hl.trans hC with
  | [c0, c1, c2, c3], _ =>
    have g0 : DataW.trod enc Try.prog W 0 (fun _ => true) true n 33 (([c0, c1, c2, c3].drop 0).take (Try.prog.cellsOf 33)) = xs[0]? := hg 0 _ rfl
    have g1 : DataW.trod enc Try.prog W 0 (fun _ => true) true n 4 (([c0, c1, c2, c3].drop 1).take (Try.prog.cellsOf 4)) = xs[1]? := hg 1 _ rfl
    have g2 : DataW.trod enc Try.prog W 0 (fun _ => true) true n 3 (([c0, c1, c2, c3].drop 2).take (Try.prog.cellsOf 3)) = xs[2]? := hg 2 _ rfl
    have g3 : DataW.trod enc Try.prog W 0 (fun _ => true) true n 4 (([c0, c1, c2, c3].drop 3).take (Try.prog.cellsOf 4)) = xs[3]? := hg 3 _ rfl
    rw [hI] at g2
    rw [hB] at g1 g3
    rw [hS] at g0
    match xs, hlen with
    | [y0, y1, y2, y3], _ =>
      simp at g0 g1 g2 g3
      obtain ⟨A, c, l, rfl, hin, hok⟩ := cellsTab g0
      obtain ⟨b1, e1, _⟩ := DataW.trod_bool Try.underlying4 g1
      obtain ⟨k2, e2, _, w2⟩ := DataW.trod_int Try.underlying3 g2
      obtain ⟨b3, e3, _⟩ := DataW.trod_bool Try.underlying4 g3
      simp only [List.cons.injEq, and_true] at e1 e2 e3
      subst e1 e2 e3
      exact ⟨⟨l, b1, k2, b3⟩, A, c, rfl, hin, wf_i64 w2, hok⟩
set_option maxRecDepth 100000 in
theorem rowArg {H : Type} {enc : TypeId × Value → H} {W : World} {base : Nat} {v : Value} {d : DataW H} {ps : List MemPlace} (hok : Value.okWide Try.prog W .any base 35 v) (h : DataW.Trod enc Try.prog W 0 (fun _ => true) true 35 v d ps) :
    ∃ (r : Rw) (A : Option Addr) (c : Nat), v = rwV r A c ∧ InC W A c r.cs ∧ RwOk r := by
  obtain ⟨cs, rfl, hsz⟩ := okWide_struct Try.underlying35 hok
  obtain ⟨l⟩ := cs
  obtain ⟨fuel, hf⟩ := h
  obtain ⟨r, A, c, he, h1, h2⟩ := row_cells (W := W) hf
  have he' : l = (rwCells r A c).toList := he
  subst he'
  exact ⟨r, A, c, rfl, h1, h2⟩
end Go.Proofs.Ytcadbapccdclaaa
