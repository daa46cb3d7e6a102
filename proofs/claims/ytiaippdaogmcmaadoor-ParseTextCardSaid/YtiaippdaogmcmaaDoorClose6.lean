/- Arguments: a slice of ints; a state as the document's. -/
import Derived.Test.YtiaippdaogmcmaaDoorClose5p
import Derived.Test.YtiaippdaogmcmaaDoorMem6
namespace Go.Proofs.YtiaippdaogmcmaaDoor
open Go Go.RowKit Go.ChangeShapes Go.WideShapes Go.ChangeAt Go.Deep
set_option linter.unusedVariables false
set_option linter.unusedSimpArgs false

set_option maxRecDepth 100000 in
theorem intsTab {H : Type} {enc : TypeId × Value → H} {W : World} {base : Nat} {v : Value} {d : DataW H} {ps : List MemPlace} (hok : Value.okWide Tryd.prog W .any base 22 v) (h : DataW.Trod enc Tryd.prog W 0 (fun _ => true) true 22 v d ps) :
    ∃ A c l, v = .slice A l.length c ∧ l.length ≤ c ∧ c ≤ maxLen ∧ (∀ z ∈ l, I64 z) ∧ Its W W.heap.size A l := by
  obtain ⟨A, len, cap, rfl⟩ := okWide_slice Tryd.underlying22 hok
  obtain ⟨fuel, hf⟩ := h
  rcases open_ints Tryd.underlying22 Tryd.underlying3 (by kernel_rfl) hf with ⟨hcs, hx⟩ | ⟨a, len', cap', zs, hcs, _, hl, hm, hz, hx, hcell, hwz⟩
  · simp [Value.cells] at hcs
    obtain ⟨rfl, rfl, rfl⟩ := hcs
    exact ⟨none, 0, [], rfl, Nat.le_refl _, Nat.zero_le _, by simp, Rd.nil⟩
  · simp [Value.cells] at hcs
    obtain ⟨rfl, rfl, rfl⟩ := hcs
    simp only [if_true] at hz
    refine ⟨some a, cap, zs.take len, by simp; omega, by simp; omega, hm, ?_, ?_⟩
    · intro z hz1
      obtain ⟨j, hj, rfl⟩ := List.mem_iff_getElem.1 (List.mem_of_mem_take hz1)
      have hb := range_i64 hwz j
      rw [List.getElem?_eq_getElem hj, Option.getD_some] at hb
      unfold I64
      omega
    · intro hne
      have hlen : 0 < len := by
        rcases Nat.eq_zero_or_pos len with h0 | h0
        · subst h0; simp at hne
        · exact h0
      obtain ⟨b, o, spot⟩ := a
      have hspot : spot = none := by simpa [Addr.add] using World.cell?_spot (hcell 0 (by omega))
      subst hspot
      have hbW : b < W.heap.size := by
        have := World.block_lt_of_cell? W _ (hcell 0 (by omega))
        simpa [Addr.add] using this
      refine ⟨b, o, rfl, hbW, fun k c hx => ?_⟩
      obtain ⟨hk, hz2⟩ := List.getElem?_eq_some_iff.1 hx
      simp at hk hz2
      have hcj := hcell k (by omega)
      have e : zs.getD k 0 = zs[k]'(by omega) := by simp [List.getD, List.getElem?_eq_getElem (show k < zs.length by omega)]
      rw [e, hz2] at hcj
      rw [Addr.add_lit] at hcj
      rw [hcj]
      rfl
set_option maxRecDepth 100000 in
theorem listCells {H : Type} {enc : TypeId × Value → H} {W : World} {fuel : Nat} {c0 c1 : Value} {x : DataW H × List MemPlace} (hf : DataW.trod enc Tryd.prog W 0 (fun _ => true) true fuel 33 [c0, c1] = some x) :
    ∃ A c es o, c0 = .slice A (List.length es) c ∧ c1 = .bool o ∧ InP W A c es := by
  have hA : Tryd.prog.cellsOf 24 = 1 := by kernel_rfl
  have hB : Tryd.prog.cellsOf 4 = 1 := by kernel_rfl
  obtain ⟨xs, n, _, hx, _, hlen, hg⟩ := DataW.trod_struct Tryd.underlying33 hf
  have g0 : DataW.trod enc Tryd.prog W 0 (fun _ => true) true n 24 (([c0, c1].drop 0).take (Tryd.prog.cellsOf 24)) = xs[0]? := hg 0 _ rfl
  have g1 : DataW.trod enc Tryd.prog W 0 (fun _ => true) true n 4 (([c0, c1].drop 1).take (Tryd.prog.cellsOf 4)) = xs[1]? := hg 1 _ rfl
  rw [hA] at g0
  rw [hB] at g1
  match xs, hlen with
  | [y0, y1], _ =>
    simp at g0 g1
    obtain ⟨A, c, es, rfl, h1, h2⟩ := nestTab g0
    obtain ⟨o, e1, _⟩ := DataW.trod_bool Tryd.underlying4 g1
    simp only [List.cons.injEq, and_true] at e1
    subst e1
    exact ⟨A, c, es, o, rfl, rfl, h1⟩
set_option maxRecDepth 100000 in
theorem stateArg {H : Type} {enc : TypeId × Value → H} {W : World} {base : Nat} {v : Value} {d : DataW H} {ps : List MemPlace} (hok : Value.okWide Tryd.prog W .any base 35 v) (h : DataW.Trod enc Tryd.prog W 0 (fun _ => true) true 35 v d ps) :
    ∃ s A c es, v = stV s A es.length c ∧ InS W A c es s ∧ Byt6 s := by
  obtain ⟨cs, rfl, hsz⟩ := okWide_struct Tryd.underlying35 hok
  have hC : Tryd.prog.cellsOf 35 = 7 := by kernel_rfl
  have hI : Tryd.prog.cellsOf 3 = 1 := by kernel_rfl
  have hS : Tryd.prog.cellsOf 9 = 1 := by kernel_rfl
  have hB : Tryd.prog.cellsOf 4 = 1 := by kernel_rfl
  have hL : Tryd.prog.cellsOf 33 = 2 := by kernel_rfl
  have hU : Tryd.prog.cellsOf 5 = 1 := by kernel_rfl
  obtain ⟨l⟩ := cs
  match l, hsz.trans hC with
  | [c0, c1, c2, c3, c4, c5, c6], _ =>
    obtain ⟨fuel, hf⟩ := h
    obtain ⟨xs, n, _, hx, _, hlen, hg⟩ := DataW.trod_struct Tryd.underlying35 hf
    have g0 : DataW.trod enc Tryd.prog W 0 (fun _ => true) true n 3 (([c0, c1, c2, c3, c4, c5, c6].drop 0).take (Tryd.prog.cellsOf 3)) = xs[0]? := hg 0 _ rfl
    have g1 : DataW.trod enc Tryd.prog W 0 (fun _ => true) true n 9 (([c0, c1, c2, c3, c4, c5, c6].drop 1).take (Tryd.prog.cellsOf 9)) = xs[1]? := hg 1 _ rfl
    have g2 : DataW.trod enc Tryd.prog W 0 (fun _ => true) true n 4 (([c0, c1, c2, c3, c4, c5, c6].drop 2).take (Tryd.prog.cellsOf 4)) = xs[2]? := hg 2 _ rfl
    have g3 : DataW.trod enc Tryd.prog W 0 (fun _ => true) true n 33 (([c0, c1, c2, c3, c4, c5, c6].drop 3).take (Tryd.prog.cellsOf 33)) = xs[3]? := hg 3 _ rfl
    have g4 : DataW.trod enc Tryd.prog W 0 (fun _ => true) true n 9 (([c0, c1, c2, c3, c4, c5, c6].drop 5).take (Tryd.prog.cellsOf 9)) = xs[4]? := hg 4 _ rfl
    have g5 : DataW.trod enc Tryd.prog W 0 (fun _ => true) true n 5 (([c0, c1, c2, c3, c4, c5, c6].drop 6).take (Tryd.prog.cellsOf 5)) = xs[5]? := hg 5 _ rfl
    rw [hI] at g0
    rw [hS] at g1 g4
    rw [hB] at g2
    rw [hL] at g3
    rw [hU] at g5
    match xs, hlen with
    | [y0, y1, y2, y3, y4, y5], _ =>
      simp at g0 g1 g2 g3 g4 g5
      obtain ⟨k0, e0, _, w0⟩ := DataW.trod_int Tryd.underlying3 g0
      obtain ⟨s1, e1, _⟩ := DataW.trod_string Tryd.underlying9 g1
      obtain ⟨o2, e2, _⟩ := DataW.trod_bool Tryd.underlying4 g2
      obtain ⟨A, c, es, o, rfl, rfl, hin⟩ := listCells g3
      obtain ⟨s4, e4, _⟩ := DataW.trod_string Tryd.underlying9 g4
      obtain ⟨k5, e5, _, w5⟩ := DataW.trod_int Tryd.underlying5 g5
      simp only [List.cons.injEq, and_true] at e0 e1 e2 e4 e5
      subst e0 e1 e2 e4 e5
      obtain ⟨b1, rfl, hb1⟩ := str_of s1
      obtain ⟨b4, rfl, hb4⟩ := str_of s4
      have h0 := wf_i64 w0
      have h5 := wf_u8 w5
      obtain ⟨n5, rfl⟩ : ∃ n : Nat, k5 = (n : Int) := ⟨k5.toNat, by omega⟩
      exact ⟨⟨k0, b1, o2, ⟨qs es, o⟩, b4, n5⟩, A, c, es, rfl, ⟨hin, rfl⟩, ⟨hb1, hb4, by simp only; omega, h0⟩⟩
end Go.Proofs.YtiaippdaogmcmaaDoor
