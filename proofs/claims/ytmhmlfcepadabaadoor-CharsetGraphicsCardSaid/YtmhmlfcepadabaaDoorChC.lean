/- Charset: Set, Lock, Shift, Map; by contracts. -/
import Derived.Test.YtmhmlfcepadabaaDoorChB
namespace Go.Proofs.YtmhmlfcepadabaaDoor
open Go Go.RowKit
set_option linter.unusedVariables false
set_option linter.unusedSimpArgs false

def shiftF (s : St) (n : Int) : St := if saneB s then (if onceB n then { s with on := n } else s) else newS
def lockF (s : St) (n : Int) (right : Bool) : St := if saneB s then (if placeB n then (if right then { s with gr := n } else { s with gl := n }) else s) else newS

theorem Box.seven {w : World} {g : Nat} {t : TypeId} {s : St} (h : Box w g t s.cells) : w.cell? ⟨g, 0, none⟩ = some (.int .u8 s.a) ∧ w.cell? ⟨g, 1, none⟩ = some (.int .u8 s.b) ∧ w.cell? ⟨g, 2, none⟩ = some (.int .u8 s.c) ∧ w.cell? ⟨g, 3, none⟩ = some (.int .u8 s.d) ∧ w.cell? ⟨g, 4, none⟩ = some (.int .i64 s.gl) ∧ w.cell? ⟨g, 5, none⟩ = some (.int .i64 s.gr) ∧ w.cell? ⟨g, 6, none⟩ = some (.int .i64 s.on) :=
  ⟨h.cell 0, h.cell 1, h.cell 2, h.cell 3, h.cell 4, h.cell 5, h.cell 6⟩
theorem St.v_eq (s : St) : s.v = .agg #[.int .u8 s.a, .int .u8 s.b, .int .u8 s.c, .int .u8 s.d, .int .i64 s.gl, .int .i64 s.gr, .int .i64 s.on] := rfl
def zeroC : Array Value := #[.int .u8 0, .int .u8 0, .int .u8 0, .int .u8 0, .int .i64 0, .int .i64 0, .int .i64 0]
/-- The parameter's variable and the result's. -/
theorem two_rows (w : World) (A B : Array Value) : Box ((w.alloc (.cells A 26)).alloc (.cells B 26)) w.heap.size 26 A ∧ Box ((w.alloc (.cells A 26)).alloc (.cells B 26)) (w.heap.size + 1) 26 B ∧ Below w.heap.size w ((w.alloc (.cells A 26)).alloc (.cells B 26)) ∧ w.heap.size + 1 < ((w.alloc (.cells A 26)).alloc (.cells B 26)).heap.size :=
  ⟨(Box.new w _ _).alloc _, by have := Box.new (w.alloc (.cells A 26)) 26 B; simpa using this, ((Below.refl _ _).alloc (Nat.le_refl _) _).alloc (by simp) _, by simp⟩
theorem Box.put7 {w W : World} {B g : Nat} {t : TypeId} {o0 o1 o2 o3 o4 o5 o6 : Value} (h : Box W g t #[o0, o1, o2, o3, o4, o5, o6]) (hb : Below B w W) (hg : B ≤ g) (v0 v1 v2 v3 v4 v5 v6 : Value) :
    Box (((((((W.setCell ⟨g, 0, none⟩ v0).setCell ⟨g, 1, none⟩ v1).setCell ⟨g, 2, none⟩ v2).setCell ⟨g, 3, none⟩ v3).setCell ⟨g, 4, none⟩ v4).setCell ⟨g, 5, none⟩ v5).setCell ⟨g, 6, none⟩ v6) g t #[v0, v1, v2, v3, v4, v5, v6] ∧
    Below B w (((((((W.setCell ⟨g, 0, none⟩ v0).setCell ⟨g, 1, none⟩ v1).setCell ⟨g, 2, none⟩ v2).setCell ⟨g, 3, none⟩ v3).setCell ⟨g, 4, none⟩ v4).setCell ⟨g, 5, none⟩ v5).setCell ⟨g, 6, none⟩ v6) :=
  by
    have h0 : Box ((W).setCell ⟨g, 0, none⟩ v0) g t #[v0, o1, o2, o3, o4, o5, o6] := h.set_ 0 v0
    have b0 : Below B w ((W).setCell ⟨g, 0, none⟩ v0) := hb.setCell (p := ⟨g, 0, none⟩) hg v0
    have h1 : Box (((W).setCell ⟨g, 0, none⟩ v0).setCell ⟨g, 1, none⟩ v1) g t #[v0, v1, o2, o3, o4, o5, o6] := h0.set_ 1 v1
    have b1 : Below B w (((W).setCell ⟨g, 0, none⟩ v0).setCell ⟨g, 1, none⟩ v1) := b0.setCell (p := ⟨g, 1, none⟩) hg v1
    have h2 : Box ((((W).setCell ⟨g, 0, none⟩ v0).setCell ⟨g, 1, none⟩ v1).setCell ⟨g, 2, none⟩ v2) g t #[v0, v1, v2, o3, o4, o5, o6] := h1.set_ 2 v2
    have b2 : Below B w ((((W).setCell ⟨g, 0, none⟩ v0).setCell ⟨g, 1, none⟩ v1).setCell ⟨g, 2, none⟩ v2) := b1.setCell (p := ⟨g, 2, none⟩) hg v2
    have h3 : Box (((((W).setCell ⟨g, 0, none⟩ v0).setCell ⟨g, 1, none⟩ v1).setCell ⟨g, 2, none⟩ v2).setCell ⟨g, 3, none⟩ v3) g t #[v0, v1, v2, v3, o4, o5, o6] := h2.set_ 3 v3
    have b3 : Below B w (((((W).setCell ⟨g, 0, none⟩ v0).setCell ⟨g, 1, none⟩ v1).setCell ⟨g, 2, none⟩ v2).setCell ⟨g, 3, none⟩ v3) := b2.setCell (p := ⟨g, 3, none⟩) hg v3
    have h4 : Box ((((((W).setCell ⟨g, 0, none⟩ v0).setCell ⟨g, 1, none⟩ v1).setCell ⟨g, 2, none⟩ v2).setCell ⟨g, 3, none⟩ v3).setCell ⟨g, 4, none⟩ v4) g t #[v0, v1, v2, v3, v4, o5, o6] := h3.set_ 4 v4
    have b4 : Below B w ((((((W).setCell ⟨g, 0, none⟩ v0).setCell ⟨g, 1, none⟩ v1).setCell ⟨g, 2, none⟩ v2).setCell ⟨g, 3, none⟩ v3).setCell ⟨g, 4, none⟩ v4) := b3.setCell (p := ⟨g, 4, none⟩) hg v4
    have h5 : Box (((((((W).setCell ⟨g, 0, none⟩ v0).setCell ⟨g, 1, none⟩ v1).setCell ⟨g, 2, none⟩ v2).setCell ⟨g, 3, none⟩ v3).setCell ⟨g, 4, none⟩ v4).setCell ⟨g, 5, none⟩ v5) g t #[v0, v1, v2, v3, v4, v5, o6] := h4.set_ 5 v5
    have b5 : Below B w (((((((W).setCell ⟨g, 0, none⟩ v0).setCell ⟨g, 1, none⟩ v1).setCell ⟨g, 2, none⟩ v2).setCell ⟨g, 3, none⟩ v3).setCell ⟨g, 4, none⟩ v4).setCell ⟨g, 5, none⟩ v5) := b4.setCell (p := ⟨g, 5, none⟩) hg v5
    have h6 : Box ((((((((W).setCell ⟨g, 0, none⟩ v0).setCell ⟨g, 1, none⟩ v1).setCell ⟨g, 2, none⟩ v2).setCell ⟨g, 3, none⟩ v3).setCell ⟨g, 4, none⟩ v4).setCell ⟨g, 5, none⟩ v5).setCell ⟨g, 6, none⟩ v6) g t #[v0, v1, v2, v3, v4, v5, v6] := h5.set_ 6 v6
    have b6 : Below B w ((((((((W).setCell ⟨g, 0, none⟩ v0).setCell ⟨g, 1, none⟩ v1).setCell ⟨g, 2, none⟩ v2).setCell ⟨g, 3, none⟩ v3).setCell ⟨g, 4, none⟩ v4).setCell ⟨g, 5, none⟩ v5).setCell ⟨g, 6, none⟩ v6) := b5.setCell (p := ⟨g, 6, none⟩) hg v6
    exact ⟨h6, b6⟩
theorem Box.free7 {W : World} {g : Nat} {t : TypeId} {cs : Array Value} (h : Box W g t cs) : W.frozen? ⟨g, 0, none⟩ = false ∧ W.frozen? ⟨g, 1, none⟩ = false ∧ W.frozen? ⟨g, 2, none⟩ = false ∧ W.frozen? ⟨g, 3, none⟩ = false ∧ W.frozen? ⟨g, 4, none⟩ = false ∧ W.frozen? ⟨g, 5, none⟩ = false ∧ W.frozen? ⟨g, 6, none⟩ = false :=
  ⟨h.free 0, h.free 1, h.free 2, h.free 3, h.free 4, h.free 5, h.free 6⟩
theorem Box.cells7 {W : World} {g : Nat} {t : TypeId} {o0 o1 o2 o3 o4 o5 o6 : Value} (h : Box W g t #[o0, o1, o2, o3, o4, o5, o6]) : W.cell? ⟨g, 0, none⟩ = some o0 ∧ W.cell? ⟨g, 1, none⟩ = some o1 ∧ W.cell? ⟨g, 2, none⟩ = some o2 ∧ W.cell? ⟨g, 3, none⟩ = some o3 ∧ W.cell? ⟨g, 4, none⟩ = some o4 ∧ W.cell? ⟨g, 5, none⟩ = some o5 ∧ W.cell? ⟨g, 6, none⟩ = some o6 :=
  ⟨h.cell 0, h.cell 1, h.cell 2, h.cell 3, h.cell 4, h.cell 5, h.cell 6⟩
theorem newS_eq : newS.v = .agg #[.int .u8 66, .int .u8 66, .int .u8 66, .int .u8 66, .int .i64 0, .int .i64 2, .int .i64 0] := rfl
theorem shift_c (s : St) (n : Int) (w : World) : Calls Tryd.prog 9 #[s.v, .int .i64 n] w fun e w' => e = .returned (shiftF s n).v ∧ Below w.heap.size w w' := by
  have hC := sane_c s
  rw [St.v_eq s] at hC ⊢
  obtain ⟨hA, hB, hbel, hsz⟩ := two_rows w s.cells zeroC
  go_enter Tryd.func9, Tryd.ntmps9
  go_wp2_with fail
  refine (hC _).mono ?_
  rintro e w1 ⟨rfl, hb1⟩
  have hA1 : Box w1 w.heap.size 26 s.cells := hA.below hb1 hA.lt
  have hB1 : Box w1 (w.heap.size + 1) 26 zeroC := hB.below hb1 hsz
  have hbel1 : Below w.heap.size w w1 := hbel.trans (hb1.mono hbel.size)
  clear hA hB hbel hb1 hsz hC
  cases hs : saneB s with
  | false =>
    go_wp2_with fail
    refine (new_c _).mono ?_
    rintro e w2 ⟨rfl, hb2⟩
    rw [newS_eq]
    have hB2 := hB1.below hb2 hB1.lt
    have hbel2 := hbel1.trans (hb2.mono hbel1.size)
    clear hb2
    obtain ⟨c0, c1, c2, c3, c4, c5, c6⟩ := hB2.cells7
    obtain ⟨f0, f1, f2, f3, f4, f5, f6⟩ := hB2.free7
    have hX := hB2.put7 hbel2 (by omega) (.int .u8 66) (.int .u8 66) (.int .u8 66) (.int .u8 66) (.int .i64 0) (.int .i64 2) (.int .i64 0)
    have HX := Lib.hid hX
    clear hX hB2
    go_wp2_with fail
    exact bodyPost_ret (ret_st rfl newS _ _ (w.heap.size + 1) _ rfl HX.out.1) rfl ⟨by simp [shiftF, hs], HX.out.2⟩
  | true =>
    obtain ⟨a0, a1, a2, a3, a4, a5, a6⟩ := hA1.seven
    have ff := hA1.free 6
    obtain ⟨c0, c1, c2, c3, c4, c5, c6⟩ := hB1.cells7
    obtain ⟨f0, f1, f2, f3, f4, f5, f6⟩ := hB1.free7
    go_wp2_with fail
    refine (isOnce_c n _).mono ?_
    rintro e w2 ⟨rfl, rfl⟩
    cases ho : onceB n with
    | false =>
      have hX := hB1.put7 hbel1 (by omega) (.int .u8 s.a) (.int .u8 s.b) (.int .u8 s.c) (.int .u8 s.d) (.int .i64 s.gl) (.int .i64 s.gr) (.int .i64 s.on)
      have HX := Lib.hid hX
      clear hX hB1 hA1
      go_wp2_with fail
      exact bodyPost_ret (ret_st rfl s _ _ (w.heap.size + 1) _ rfl HX.out.1) rfl ⟨by simp [shiftF, hs, ho], HX.out.2⟩
    | true =>
      have hb9 := hbel1.setCell (p := ⟨w.heap.size, 6, none⟩) (Nat.le_refl _) (.int .i64 n)
      have hX := (hB1.far (p := ⟨w.heap.size, 6, none⟩) (by simp) (.int .i64 n)).put7 hb9 (by omega) (.int .u8 s.a) (.int .u8 s.b) (.int .u8 s.c) (.int .u8 s.d) (.int .i64 s.gl) (.int .i64 s.gr) (.int .i64 n)
      have HX := Lib.hid hX
      clear hX hB1 hA1 hb9
      go_wp2_with fail
      exact bodyPost_ret (ret_st rfl { s with on := n } _ _ (w.heap.size + 1) _ rfl HX.out.1) rfl ⟨by simp [shiftF, hs, ho], HX.out.2⟩
theorem lock_c (s : St) (n : Int) (right : Bool) (w : World) : Calls Tryd.prog 11 #[s.v, .int .i64 n, .bool right] w fun e w' => e = .returned (lockF s n right).v ∧ Below w.heap.size w w' := by
  have hC := sane_c s
  rw [St.v_eq s] at hC ⊢
  obtain ⟨hA, hB, hbel, hsz⟩ := two_rows w s.cells zeroC
  go_enter Tryd.func11, Tryd.ntmps11
  go_wp2_with fail
  refine (hC _).mono ?_
  rintro e w1 ⟨rfl, hb1⟩
  have hA1 : Box w1 w.heap.size 26 s.cells := hA.below hb1 hA.lt
  have hB1 : Box w1 (w.heap.size + 1) 26 zeroC := hB.below hb1 hsz
  have hbel1 : Below w.heap.size w w1 := hbel.trans (hb1.mono hbel.size)
  clear hA hB hbel hb1 hsz hC
  cases hs : saneB s with
  | false =>
    go_wp2_with fail
    refine (new_c _).mono ?_
    rintro e w2 ⟨rfl, hb2⟩
    rw [newS_eq]
    have hB2 := hB1.below hb2 hB1.lt
    have hbel2 := hbel1.trans (hb2.mono hbel1.size)
    clear hb2
    obtain ⟨c0, c1, c2, c3, c4, c5, c6⟩ := hB2.cells7
    obtain ⟨f0, f1, f2, f3, f4, f5, f6⟩ := hB2.free7
    have hX := hB2.put7 hbel2 (by omega) (.int .u8 66) (.int .u8 66) (.int .u8 66) (.int .u8 66) (.int .i64 0) (.int .i64 2) (.int .i64 0)
    have HX := Lib.hid hX
    clear hX hB2
    go_wp2_with fail
    exact bodyPost_ret (ret_st rfl newS _ _ (w.heap.size + 1) _ rfl HX.out.1) rfl ⟨by simp [lockF, hs], HX.out.2⟩
  | true =>
    obtain ⟨a0, a1, a2, a3, a4, a5, a6⟩ := hA1.seven
    have f4' := hA1.free 4
    have f5' := hA1.free 5
    obtain ⟨c0, c1, c2, c3, c4, c5, c6⟩ := hB1.cells7
    obtain ⟨f0, f1, f2, f3, f4, f5, f6⟩ := hB1.free7
    go_wp2_with fail
    refine (isPlace_c n _).mono ?_
    rintro e w2 ⟨rfl, rfl⟩
    cases ho : placeB n with
    | false =>
      have hX := hB1.put7 hbel1 (by omega) (.int .u8 s.a) (.int .u8 s.b) (.int .u8 s.c) (.int .u8 s.d) (.int .i64 s.gl) (.int .i64 s.gr) (.int .i64 s.on)
      have HX := Lib.hid hX
      clear hX hB1 hA1
      go_wp2_with fail
      exact bodyPost_ret (ret_st rfl s _ _ (w.heap.size + 1) _ rfl HX.out.1) rfl ⟨by simp [lockF, hs, ho], HX.out.2⟩
    | true =>
      cases right with
      | true =>
        have hb9 := hbel1.setCell (p := ⟨w.heap.size, 5, none⟩) (Nat.le_refl _) (.int .i64 n)
        have hX := (hB1.far (p := ⟨w.heap.size, 5, none⟩) (by simp) (.int .i64 n)).put7 hb9 (by omega) (.int .u8 s.a) (.int .u8 s.b) (.int .u8 s.c) (.int .u8 s.d) (.int .i64 s.gl) (.int .i64 n) (.int .i64 s.on)
        have HX := Lib.hid hX
        clear hX hB1 hA1 hb9
        go_wp2_with fail
        exact bodyPost_ret (ret_st rfl { s with gr := n } _ _ (w.heap.size + 1) _ rfl HX.out.1) rfl ⟨by simp [lockF, hs, ho], HX.out.2⟩
      | false =>
        have hb9 := hbel1.setCell (p := ⟨w.heap.size, 4, none⟩) (Nat.le_refl _) (.int .i64 n)
        have hX := (hB1.far (p := ⟨w.heap.size, 4, none⟩) (by simp) (.int .i64 n)).put7 hb9 (by omega) (.int .u8 s.a) (.int .u8 s.b) (.int .u8 s.c) (.int .u8 s.d) (.int .i64 n) (.int .i64 s.gr) (.int .i64 s.on)
        have HX := Lib.hid hX
        clear hX hB1 hA1 hb9
        go_wp2_with fail
        exact bodyPost_ret (ret_st rfl { s with gl := n } _ _ (w.heap.size + 1) _ rfl HX.out.1) rfl ⟨by simp [lockF, hs, ho], HX.out.2⟩

def setG (s : St) (n f : Int) : St := if n = 0 then { s with a := f } else if n = 1 then { s with b := f } else if n = 2 then { s with c := f } else { s with d := f }
def setF (s : St) (n f : Int) : St := if saneB s then (if placeB n && setB f then setG s n f else s) else newS
theorem set_c (s : St) (n f : Int) (w : World) : Calls Tryd.prog 15 #[s.v, .int .i64 n, .int .u8 f] w fun e w' => e = .returned (setF s n f).v ∧ Below w.heap.size w w' := by
  have hC := sane_c s
  rw [St.v_eq s] at hC ⊢
  obtain ⟨hA, hB, hbel, hsz⟩ := two_rows w s.cells zeroC
  go_enter Tryd.func15, Tryd.ntmps15
  go_wp2_with fail
  refine (hC _).mono ?_
  rintro e w1 ⟨rfl, hb1⟩
  have hA1 : Box w1 w.heap.size 26 s.cells := hA.below hb1 hA.lt
  have hB1 : Box w1 (w.heap.size + 1) 26 zeroC := hB.below hb1 hsz
  have hbel1 : Below w.heap.size w w1 := hbel.trans (hb1.mono hbel.size)
  clear hA hB hbel hb1 hsz hC
  cases hs : saneB s with
  | false =>
    go_wp2_with fail
    refine (new_c _).mono ?_
    rintro e w2 ⟨rfl, hb2⟩
    rw [newS_eq]
    have hB2 := hB1.below hb2 hB1.lt
    have hbel2 := hbel1.trans (hb2.mono hbel1.size)
    clear hb2
    obtain ⟨c0, c1, c2, c3, c4, c5, c6⟩ := hB2.cells7
    obtain ⟨f0, f1, f2, f3, f4, f5, f6⟩ := hB2.free7
    have hX := hB2.put7 hbel2 (by omega) (.int .u8 66) (.int .u8 66) (.int .u8 66) (.int .u8 66) (.int .i64 0) (.int .i64 2) (.int .i64 0)
    have HX := Lib.hid hX
    clear hX hB2
    go_wp2_with fail
    exact bodyPost_ret (ret_st rfl newS _ _ (w.heap.size + 1) _ rfl HX.out.1) rfl ⟨by simp [setF, hs], HX.out.2⟩
  | true =>
    obtain ⟨a0, a1, a2, a3, a4, a5, a6⟩ := hA1.seven
    obtain ⟨e0, e1, e2, e3, _, _, _⟩ := hA1.free7
    obtain ⟨c0, c1, c2, c3, c4, c5, c6⟩ := hB1.cells7
    obtain ⟨f0, f1, f2, f3, f4, f5, f6⟩ := hB1.free7
    go_wp2_with fail
    refine (isPlace_c n _).mono ?_
    rintro e w2 ⟨rfl, rfl⟩
    cases ho : placeB n with
    | false =>
      have hX := hB1.put7 hbel1 (by omega) (.int .u8 s.a) (.int .u8 s.b) (.int .u8 s.c) (.int .u8 s.d) (.int .i64 s.gl) (.int .i64 s.gr) (.int .i64 s.on)
      have HX := Lib.hid hX
      clear hX hB1 hA1
      go_wp2_with fail
      exact bodyPost_ret (ret_st rfl s _ _ (w.heap.size + 1) _ rfl HX.out.1) rfl ⟨by simp [setF, hs, ho], HX.out.2⟩
    | true =>
      go_wp2_with fail
      refine (isSet_c f _).mono ?_
      rintro e w3 ⟨rfl, rfl⟩
      cases hf : setB f with
      | false =>
        have hX := hB1.put7 hbel1 (by omega) (.int .u8 s.a) (.int .u8 s.b) (.int .u8 s.c) (.int .u8 s.d) (.int .i64 s.gl) (.int .i64 s.gr) (.int .i64 s.on)
        have HX := Lib.hid hX
        clear hX hB1 hA1
        go_wp2_with fail
        exact bodyPost_ret (ret_st rfl s _ _ (w.heap.size + 1) _ rfl HX.out.1) rfl ⟨by simp [setF, hs, ho, hf], HX.out.2⟩
      | true =>
        have hp : n = 0 ∨ n = 1 ∨ n = 2 ∨ n = 3 := by simp [placeB] at ho; omega
        have HS : Hid (setF s n f = setG s n f) := Lib.hid (by simp [setF, hs, ho, hf])
        clear ho hs hf
        rcases hp with rfl | rfl | rfl | rfl
        · have hb9 := hbel1.setCell (p := ⟨w.heap.size, 0, none⟩) (Nat.le_refl _) (.int .u8 f)
          have hX := (hB1.far (p := ⟨w.heap.size, 0, none⟩) (by simp) (.int .u8 f)).put7 hb9 (by omega) (.int .u8 f) (.int .u8 s.b) (.int .u8 s.c) (.int .u8 s.d) (.int .i64 s.gl) (.int .i64 s.gr) (.int .i64 s.on)
          have HX := Lib.hid hX
          clear hX hB1 hA1 hb9
          go_wp2_with fail
          exact bodyPost_ret (ret_st rfl { s with a := f } _ _ (w.heap.size + 1) _ rfl HX.out.1) rfl ⟨by rw [HS.out]; rfl, HX.out.2⟩
        · have hb9 := hbel1.setCell (p := ⟨w.heap.size, 1, none⟩) (Nat.le_refl _) (.int .u8 f)
          have hX := (hB1.far (p := ⟨w.heap.size, 1, none⟩) (by simp) (.int .u8 f)).put7 hb9 (by omega) (.int .u8 s.a) (.int .u8 f) (.int .u8 s.c) (.int .u8 s.d) (.int .i64 s.gl) (.int .i64 s.gr) (.int .i64 s.on)
          have HX := Lib.hid hX
          clear hX hB1 hA1 hb9
          go_wp2_with fail
          exact bodyPost_ret (ret_st rfl { s with b := f } _ _ (w.heap.size + 1) _ rfl HX.out.1) rfl ⟨by rw [HS.out]; rfl, HX.out.2⟩
        · have hb9 := hbel1.setCell (p := ⟨w.heap.size, 2, none⟩) (Nat.le_refl _) (.int .u8 f)
          have hX := (hB1.far (p := ⟨w.heap.size, 2, none⟩) (by simp) (.int .u8 f)).put7 hb9 (by omega) (.int .u8 s.a) (.int .u8 s.b) (.int .u8 f) (.int .u8 s.d) (.int .i64 s.gl) (.int .i64 s.gr) (.int .i64 s.on)
          have HX := Lib.hid hX
          clear hX hB1 hA1 hb9
          go_wp2_with fail
          exact bodyPost_ret (ret_st rfl { s with c := f } _ _ (w.heap.size + 1) _ rfl HX.out.1) rfl ⟨by rw [HS.out]; rfl, HX.out.2⟩
        · have hb9 := hbel1.setCell (p := ⟨w.heap.size, 3, none⟩) (Nat.le_refl _) (.int .u8 f)
          have hX := (hB1.far (p := ⟨w.heap.size, 3, none⟩) (by simp) (.int .u8 f)).put7 hb9 (by omega) (.int .u8 s.a) (.int .u8 s.b) (.int .u8 s.c) (.int .u8 f) (.int .i64 s.gl) (.int .i64 s.gr) (.int .i64 s.on)
          have HX := Lib.hid hX
          clear hX hB1 hA1 hb9
          go_wp2_with fail
          exact bodyPost_ret (ret_st rfl { s with d := f } _ _ (w.heap.size + 1) _ rfl HX.out.1) rfl ⟨by rw [HS.out]; rfl, HX.out.2⟩
end Go.Proofs.YtmhmlfcepadabaaDoor
