/- The document's example of chapter 9, over the contracts. -/
import Derived.Test.YtcadbapccdclaaaMem09b
import Derived.Test.YtcadbapccdclaaaMemC
import Derived.Test.YtcadbapccdclaaaChecked
import Derived.Deep.DeepCutAuto
namespace Go.Proofs.Ytcadbapccdclaaa
open Go Go.RowKit
set_option linter.unusedVariables false
set_option linter.unusedSimpArgs false

def exA9 : Cl := ⟨65, 0, 0, 1, zeroN⟩
def exR9 : Rw := ⟨[exA9, blankC zeroN], false, 0, false⟩
def exB9 : Rw := ⟨[blankC zeroN, blankC zeroN], false, 0, false⟩
def exC9 : Rw := ⟨[blankC ⟨0, 2, 0⟩, blankC ⟨0, 2, 0⟩], false, 0, false⟩
theorem ex9_new : newG 3 2 zeroN = [exB9, exB9, exB9] := by decide +kernel
theorem ex9_set : setG [exB9, exB9, exB9] 0 exR9 = [exR9, exB9, exB9] := by decide +kernel
theorem ex9_up : upG [exR9, exB9, exB9] 0 3 1 ⟨0, 2, 0⟩ = [exB9, exB9, exC9] := by decide +kernel
theorem ex9_gone : goneG [exR9, exB9, exB9] 0 3 1 ⟨0, 2, 0⟩ = [exR9] := by decide +kernel
theorem ex9_size : sizeG [exB9, exB9, exC9] = (3, 2) := by decide +kernel
theorem ex9_sane : SaneG [exB9, exB9, exC9] := by decide +kernel
theorem ex9_sane0 : SaneG [exB9, exB9, exB9] := by decide +kernel
theorem ex9_sane1 : SaneG [exR9, exB9, exB9] := by decide +kernel
theorem rws_three {es : List Rl} {a b c : Rw} (h : rws es = [a, b, c]) : ∃ x y z, es = [x, y, z] ∧ x.r = a ∧ y.r = b ∧ z.r = c := by
  match es, h with
  | [x, y, z], h =>
    simp [rws] at h
    exact ⟨x, y, z, rfl, h.1, h.2.1, h.2.2⟩
theorem rws_one {es : List Rl} {a : Rw} (h : rws es = [a]) : ∃ x, es = [x] ∧ x.r = a := by
  match es, h with
  | [x], h =>
    simp [rws] at h
    exact ⟨x, rfl, h⟩
theorem two_in (w : World) (g : Nat) (x y : Cl) (h : Box w g 47 (clCells x ++ clCells y).toArray) : InC w (some ⟨g, 0, none⟩) 2 [x, y] := by
  refine ⟨fun _ => ⟨g, 0, rfl, h.lt, fun k e hk j u hu => ?_⟩, by simp, by simp [maxLen]⟩
  have hj : j < 7 := (List.getElem?_eq_some_iff.1 hu).1
  have hc := h.cell (k * 7 + j)
  simp only [Nat.zero_add]
  rw [hc]
  have hk2 : k < 2 := by
    have := (List.getElem?_eq_some_iff.1 hk).1
    simpa using this
  have lx : (clCells x).length = 7 := rfl
  rcases (show k = 0 ∨ k = 1 by omega) with rfl | rfl
  · simp at hk; subst hk
    rw [List.getElem?_toArray, List.getElem?_append_left (by omega), Nat.zero_mul, Nat.zero_add, hu]
  · simp at hk; subst hk
    rw [List.getElem?_toArray, List.getElem?_append_right (by omega), lx, show 1 * 7 + j - 7 = j from by omega, hu]
set_option maxRecDepth 100000 in
set_option maxHeartbeats 1000000 in
theorem awake9_c (hn : New9C) (hset : Set9C) (hup : Up9C) (hsz : Size9C) (hs : Sane9C) (w : World) : Calls Try.prog 6 #[] w fun e w' => e = .returned (.bool true) ∧ Below w.heap.size w w' := by
  have h1 := hn 3 2 zeroN w (by unfold I64; decide) (by unfold I64; decide) zero_ok
  rw [ex9_new] at h1
  have h2 : ∀ (A : Option Addr) (c : Nat) (es : List Rl) (V : World) (B : Option Addr) (d : Nat), rws es = [exB9, exB9, exB9] → InG V A c es → InC V B d exR9.cs → Calls Try.prog 13 #[.agg #[.slice A es.length c], .int .i64 0, .agg #[.slice B 2 d, .bool false, .int .i64 0, .bool false]] V (GivesGr [exR9, exB9, exB9] V) := fun A c es V B d he hV hB => by
    have h := hset A c es 0 ⟨B, d, exR9⟩ V hV (he ▸ ex9_sane0.ok) (by unfold I64; decide) hB (ex9_sane1.2 exR9 (by simp)).1.ok
    rw [he, ex9_set] at h
    exact h
  have h3 : ∀ (A : Option Addr) (c : Nat) (es : List Rl) (V : World), rws es = [exR9, exB9, exB9] → InG V A c es → Calls Try.prog 9 #[.agg #[.slice A es.length c], .int .i64 0, .int .i64 3, .int .i64 1, .agg #[.int .i64 0, .int .i64 2, .int .i64 0]] V fun e w' => ∃ A1 c1 e1 A2 c2 e2, e = .returned (.tuple #[.agg #[.slice A1 (List.length e1) c1], .slice A2 (List.length e2) c2]) ∧ InG w' A1 c1 e1 ∧ rws e1 = [exB9, exB9, exC9] ∧ InG w' A2 c2 e2 ∧ rws e2 = [exR9] ∧ Below V.heap.size V w' := fun A c es V he hV => by
    have h := hup A c es 0 3 1 ⟨0, 2, 0⟩ V hV (he ▸ ex9_sane1.ok) (by unfold I64; decide) (by unfold I64; decide) (by unfold I64; decide) (SaneN.ok (by decide))
    rw [he, ex9_up, ex9_gone] at h
    exact h
  have h4 : ∀ (A : Option Addr) (c : Nat) (es : List Rl) (V : World), rws es = [exB9, exB9, exC9] → InG V A c es → Calls Try.prog 18 #[.agg #[.slice A es.length c]] V fun e w' => e = .returned (.tuple #[.int .i64 3, .int .i64 2]) ∧ Below V.heap.size V w' := fun A c es V he hV => by
    have h := hsz A c es V hV (he ▸ ex9_sane.ok)
    rw [he, ex9_size] at h
    exact h
  have h5 : ∀ (A : Option Addr) (c : Nat) (es : List Rl) (V : World), rws es = [exB9, exB9, exC9] → InG V A c es → Calls Try.prog 8 #[.agg #[.slice A es.length c]] V fun e w' => e = .returned (.bool true) ∧ Below V.heap.size V w' := fun A c es V he hV => by
    have h := hs A c es V hV (he ▸ ex9_sane.ok)
    rw [he, decide_eq_true ex9_sane] at h
    exact h
  have v0 : pnV zeroN = .agg #[.int .i64 0, .int .i64 0, .int .i64 0] := rfl
  rw [v0] at h1
  have H2 := Lib.hid h2
  have H3 := Lib.hid h3
  have H4 := Lib.hid h4
  have H5 := Lib.hid h5
  clear h2 h3 h4 h5 hn hset hup hsz hs v0
  go_enter Try.func6, Try.ntmps6
  go_wp2_with fail
  refine h1.mono ?_
  rintro e x1 ⟨A1, c1, es1, rfl, hc1, hr1, hb1⟩
  clear h1
  have g1 : Below x1.heap.size x1 (x1.alloc (.cells #[.slice A1 es1.length c1] 26)) := (Below.refl _ _).alloc (Nat.le_refl _) _
  have bx1 := Box.new x1 26 #[.slice A1 es1.length c1]
  have HB := Lib.hid (And.intro (hc1.on g1) (And.intro bx1 (hb1.trans (g1.mono hb1.size))))
  have HR1 := Lib.hid hr1
  clear hc1 hr1 hb1 g1 bx1
  go_upto_region 2 with fail
  generalize x1.alloc (.cells #[.slice A1 es1.length c1] 26) = W1 at *
  go_upto_region 3 with fail
  have hcl : Below W1.heap.size W1 (W1.alloc (.cells (clCells exA9 ++ clCells (blankC zeroN)).toArray 47)) := (Below.refl _ _).alloc (Nat.le_refl _) _
  have hti := two_in _ W1.heap.size exA9 (blankC zeroN) (Box.new W1 47 (clCells exA9 ++ clCells (blankC zeroN)).toArray)
  have ha2 : Below W1.heap.size W1 ((W1.alloc (.cells (clCells exA9 ++ clCells (blankC zeroN)).toArray 47)).alloc (.cells #[.slice (some ⟨W1.heap.size, 0, none⟩) 2 2, .bool false, .int .i64 0, .bool false] 35)) := hcl.alloc (by simp) _
  have hti2 := hti.on ((Below.refl _ _).alloc (Nat.le_refl _) (.cells #[.slice (some ⟨W1.heap.size, 0, none⟩) 2 2, .bool false, .int .i64 0, .bool false] 35))
  have hrow : Box ((W1.alloc (.cells (clCells exA9 ++ clCells (blankC zeroN)).toArray 47)).alloc (.cells #[.slice (some ⟨W1.heap.size, 0, none⟩) 2 2, .bool false, .int .i64 0, .bool false] 35)) (W1.heap.size + 1) 35 #[.slice (some ⟨W1.heap.size, 0, none⟩) 2 2, .bool false, .int .i64 0, .bool false] := by
    have h := Box.new (W1.alloc (.cells (clCells exA9 ++ clCells (blankC zeroN)).toArray 47)) 35 #[.slice (some ⟨W1.heap.size, 0, none⟩) 2 2, .bool false, .int .i64 0, .bool false]
    simpa using h
  have HW := Lib.hid (And.intro (HB.out.1.on ha2) (And.intro (HB.out.2.1.below ha2 HB.out.2.1.lt) (And.intro (HB.out.2.2.trans (ha2.mono HB.out.2.2.size)) (And.intro hti2 hrow))))
  clear hcl hti ha2 hti2 hrow HB
  have ec : (clCells exA9 ++ clCells (blankC zeroN)).toArray = #[.int .i64 65, .int .i64 0, .int .i64 0, .int .i64 1, .int .i64 0, .int .i64 0, .int .i64 0, .int .i64 0, .int .i64 0, .int .i64 0, .int .i64 1, .int .i64 0, .int .i64 0, .int .i64 0] := rfl
  rw [ec] at HW
  clear ec
  generalize (W1.alloc (.cells #[.int .i64 65, .int .i64 0, .int .i64 0, .int .i64 1, .int .i64 0, .int .i64 0, .int .i64 0, .int .i64 0, .int .i64 0, .int .i64 0, .int .i64 1, .int .i64 0, .int .i64 0, .int .i64 0] 47)).alloc (.cells #[.slice (some ⟨W1.heap.size, 0, none⟩) 2 2, .bool false, .int .i64 0, .bool false] 35) = W3 at *
  obtain ⟨hI1, hX1, hBL, hT, hRow⟩ := HW.out
  have k0 : W3.cell? ⟨x1.heap.size, 0, none⟩ = some (.slice A1 es1.length c1) := hX1.cell 0
  obtain ⟨j0, j1, j2, j3⟩ : W3.cell? ⟨W1.heap.size + 1, 0, none⟩ = some (.slice (some ⟨W1.heap.size, 0, none⟩) 2 2) ∧ W3.cell? ⟨W1.heap.size + 1, 1, none⟩ = some (.bool false) ∧ W3.cell? ⟨W1.heap.size + 1, 2, none⟩ = some (.int .i64 0) ∧ W3.cell? ⟨W1.heap.size + 1, 3, none⟩ = some (.bool false) := ⟨hRow.cell 0, hRow.cell 1, hRow.cell 2, hRow.cell 3⟩
  have c2 := H2.out A1 c1 es1 W3 (some ⟨W1.heap.size, 0, none⟩) 2 HR1.out hI1 hT
  have HBL := Lib.hid hBL
  clear hI1 hX1 hBL hT hRow HW H2
  go_wp2_with fail
  refine c2.mono ?_
  rintro e x2 ⟨A2, d2, es2, rfl, hc2, hr2, hb2⟩
  have c3 := H3.out A2 d2 es2 x2 hr2 hc2
  have HB2 := Lib.hid (HBL.out.trans (hb2.mono HBL.out.size))
  clear c2 hc2 hr2 hb2 HBL H3 k0 j0 j1 j2 j3
  go_wp2_with fail
  refine c3.mono ?_
  rintro e x3 ⟨A3, d3, es3, A4, d4, es4, rfl, hc3, hr3, hc4, hr4, hb3⟩
  have ga : Below x3.heap.size x3 (x3.alloc (.cells #[.slice A3 es3.length d3] 26)) := (Below.refl _ _).alloc (Nat.le_refl _) _
  have hb3' := HB2.out.trans (hb3.mono HB2.out.size)
  have HW := Lib.hid (And.intro (hc3.on ga) (And.intro (hc4.on ga) (And.intro (Box.new x3 26 #[.slice A3 es3.length d3]) (hb3'.trans (ga.mono hb3'.size)))))
  have HR3 := Lib.hid (And.intro hr3 hr4)
  clear c3 hc3 hr3 hc4 hr4 hb3 hb3' ga HB2
  go_upto_region 4 with fail
  generalize x3.alloc (.cells #[.slice A3 es3.length d3] 26) = W4 at *
  have k0 : W4.cell? ⟨x3.heap.size, 0, none⟩ = some (.slice A3 es3.length d3) := HW.out.2.2.1.cell 0
  have c4 := H4.out A3 d3 es3 W4 HR3.out.1 HW.out.1
  clear H4
  go_wp2_with fail
  refine c4.mono ?_
  rintro e x5 ⟨rfl, hb5⟩
  obtain ⟨hI3, hI4, hX3, hBL⟩ := HW.out
  have hI3 := hI3.on hb5
  have hI4 := hI4.on hb5
  have hX3 := hX3.below hb5 hX3.lt
  have hBL := hBL.trans (hb5.mono hBL.size)
  obtain ⟨u0, u1, u2, e3, -, -, hu2⟩ := rws_three HR3.out.1
  obtain ⟨t0, e4, ht0⟩ := rws_one HR3.out.2
  have hc5 := H5.out A3 d3 es3 x5 HR3.out.1 hI3
  subst e3
  subst e4
  have hg2 : ([u0, u1, u2] : List Rl)[2]? = some u2 := rfl
  have hg0 : ([t0] : List Rl)[0]? = some t0 := rfl
  obtain ⟨g3, o3, rfl, -, p0, -, -, -⟩ := hI3.rows.at_ hg2
  obtain ⟨g4, o4, rfl, -, q0, -, -, -⟩ := hI4.rows.at_ hg0
  have hin2 := hI3.els u2 (by simp)
  have hin0 := hI4.els t0 (by simp)
  rw [hu2] at hin2 p0
  rw [ht0] at hin0 q0
  obtain ⟨g5, o5, e5, -, -, -, -, -, -, r5, -⟩ := hin2.at_ (k := 0) (e := blankC ⟨0, 2, 0⟩) rfl
  obtain ⟨g6, o6, e6, -, r6, -, -, -, -, -, -⟩ := hin0.at_ (k := 0) (e := exA9) rfl
  rw [e5] at p0
  rw [e6] at q0
  have l3 := hI3.rows.cap
  have l4 := hI4.rows.cap
  have l5 := hin2.cap
  have l6 := hin0.cap
  have ln5 : exC9.cs.length = 2 := rfl
  have ln6 : exR9.cs.length = 2 := rfl
  rw [ln5] at p0 l5
  rw [ln6] at q0 l6
  have m0 : x5.cell? ⟨x3.heap.size, 0, none⟩ = some (.slice (some ⟨g3, o3, none⟩) 3 d3) := hX3.cell 0
  simp only [blankC, exA9, Nat.zero_mul, Nat.reduceMul, Nat.add_zero, List.length_cons, List.length_nil, Nat.zero_add, Nat.reduceAdd] at p0 q0 r5 r6 l3 l4 hc5
  have HL := Lib.hid hBL
  clear c4 hb5 hI3 hI4 hX3 hBL hin2 hin0 hu2 ht0 e5 e6 HW HR3 HR1 H5 hg2 hg0 k0 ln5 ln6
  go_wp2_with fail
  refine hc5.mono ?_
  rintro e x6 ⟨rfl, hb6⟩
  have HL2 := Lib.hid (HL.out.trans (hb6.mono HL.out.size))
  clear hc5 hb6 HL
  go_wp2_with fail
  go_ret
  exact ⟨rfl, HL2.out⟩
end Go.Proofs.Ytcadbapccdclaaa
