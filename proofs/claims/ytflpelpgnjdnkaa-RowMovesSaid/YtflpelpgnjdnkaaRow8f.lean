/- Package row, walked: a row, a pen or a cell, and the answer in the call's own variables; a new row. -/
import Derived.Test.YtflpelpgnjdnkaaRow8d
import Derived.Test.YtflpelpgnjdnkaaRow8e
import Derived.Test.YtflpelpgnjdnkaaMem08b
namespace Go.Proofs.Ytflpelpgnjdnkaa
open Go Go.RowKit
set_option linter.unusedVariables false
set_option linter.unusedSimpArgs false

theorem InC.far4 {W : World} {A : Option Addr} {c g : Nat} {l : List Cl} {t : TypeId} {cs : Array Value} (h : InC W A c l) (hb : Box W g t cs) (hcs : cs.size ≤ 6) (v0 v1 v2 v3 : Value) :
    InC ((((W.setCell ⟨g, 0, none⟩ v0).setCell ⟨g, 1, none⟩ v1).setCell ⟨g, 2, none⟩ v2).setCell ⟨g, 3, none⟩ v3) A c l := by
  by_cases hl : l = []
  · subst hl
    exact InC.nil h.max
  · refine h.box4 hb (fun b o e he => ?_) v0 v1 v2 v3
    subst he
    obtain ⟨x, m, rfl⟩ := List.exists_cons_of_ne_nil hl
    obtain ⟨b', o', e', _, hc⟩ := h.rd hl
    rw [e] at e'
    injection e' with e'
    injection e' with e1 e2
    subst e1; subst e2
    have h6 := hc 0 x rfl 6 _ rfl
    rw [hb.cell, Array.getElem?_eq_none (by omega)] at h6
    cases h6
/-- A row, something else, and the answer's place. -/
structure Rw3 (w W : World) (r : Rw) (A : Option Addr) (c : Nat) (t : TypeId) (cs : Array Value) : Prop where
  b1 : Box W w.heap.size 24 #[.slice A r.cs.length c, .bool r.wrap, .int .i64 r.dir, .bool r.ex]
  b2 : Box W (w.heap.size + 1) t cs
  b3 : Box W (w.heap.size + 2) 24 #[.slice none 0 0, .bool false, .int .i64 0, .bool false]
  inr : InC W A c r.cs
  bel : Below w.heap.size w W
theorem Rw3.on {w W V : World} {r : Rw} {A : Option Addr} {c : Nat} {t : TypeId} {cs : Array Value} (h : Rw3 w W r A c t cs) (hb : Below W.heap.size W V) : Rw3 w V r A c t cs :=
  ⟨h.b1.below hb h.b1.lt, h.b2.below hb h.b2.lt, h.b3.below hb h.b3.lt, h.inr.on hb, h.bel.trans (hb.mono h.bel.size)⟩
theorem Rw3.new {w : World} {r : Rw} {A : Option Addr} {c : Nat} (t : TypeId) (cs : Array Value) (h : InC w A c r.cs) :
    Rw3 w (((w.alloc (.cells #[.slice A r.cs.length c, .bool r.wrap, .int .i64 r.dir, .bool r.ex] 24)).alloc (.cells cs t)).alloc (.cells #[.slice none 0 0, .bool false, .int .i64 0, .bool false] 24)) r A c t cs := by
  have hb : Below w.heap.size w (((w.alloc (.cells #[.slice A r.cs.length c, .bool r.wrap, .int .i64 r.dir, .bool r.ex] 24)).alloc (.cells cs t)).alloc (.cells #[.slice none 0 0, .bool false, .int .i64 0, .bool false] 24)) :=
    (((Below.refl _ _).alloc (Nat.le_refl _) _).alloc (by simp) _).alloc (by simp; omega) _
  refine ⟨((Box.new w _ _).alloc _).alloc _, ?_, ?_, h.on hb, hb⟩
  · exact (box8_1 w _ _ _).alloc _
  · have h := box8_1 (w.alloc (.cells #[.slice A r.cs.length c, .bool r.wrap, .int .i64 r.dir, .bool r.ex] 24)) (.cells cs t) 24 #[.slice none 0 0, .bool false, .int .i64 0, .bool false]
    simpa using h
theorem Rw3.fin {w W : World} {r : Rw} {A : Option Addr} {c : Nat} {t : TypeId} {cs : Array Value} (h : Rw3 w W r A c t cs) (s : Rw) (B : Option Addr) (d : Nat) (hs : InC W B d s.cs) :
    Box ((((W.setCell ⟨w.heap.size + 2, 0, none⟩ (.slice B s.cs.length d)).setCell ⟨w.heap.size + 2, 1, none⟩ (.bool s.wrap)).setCell ⟨w.heap.size + 2, 2, none⟩ (.int .i64 s.dir)).setCell ⟨w.heap.size + 2, 3, none⟩ (.bool s.ex)) (w.heap.size + 2) 24 (rwCells s B d) ∧
    InC ((((W.setCell ⟨w.heap.size + 2, 0, none⟩ (.slice B s.cs.length d)).setCell ⟨w.heap.size + 2, 1, none⟩ (.bool s.wrap)).setCell ⟨w.heap.size + 2, 2, none⟩ (.int .i64 s.dir)).setCell ⟨w.heap.size + 2, 3, none⟩ (.bool s.ex)) B d s.cs ∧
    Below w.heap.size w ((((W.setCell ⟨w.heap.size + 2, 0, none⟩ (.slice B s.cs.length d)).setCell ⟨w.heap.size + 2, 1, none⟩ (.bool s.wrap)).setCell ⟨w.heap.size + 2, 2, none⟩ (.int .i64 s.dir)).setCell ⟨w.heap.size + 2, 3, none⟩ (.bool s.ex)) :=
  have h4 := h.b3.put4r h.bel (by omega) (.slice B s.cs.length d) (.bool s.wrap) (.int .i64 s.dir) (.bool s.ex)
  ⟨h4.1, hs.far4 h.b3 (by simp) _ _ _ _, h4.2⟩
theorem Rw3.row {w W : World} {r : Rw} {A : Option Addr} {c : Nat} {t : TypeId} {cs : Array Value} (h : Rw3 w W r A c t cs) :
    W.cell? ⟨w.heap.size, 0, none⟩ = some (.slice A r.cs.length c) ∧ W.cell? ⟨w.heap.size, 1, none⟩ = some (.bool r.wrap) ∧ W.cell? ⟨w.heap.size, 2, none⟩ = some (.int .i64 r.dir) ∧ W.cell? ⟨w.heap.size, 3, none⟩ = some (.bool r.ex) :=
  ⟨h.b1.cell 0, h.b1.cell 1, h.b1.cell 2, h.b1.cell 3⟩
theorem Rw3.free {w W : World} {r : Rw} {A : Option Addr} {c : Nat} {t : TypeId} {cs : Array Value} (h : Rw3 w W r A c t cs) :
    (W.frozen? ⟨w.heap.size + 2, 0, none⟩ = false ∧ W.frozen? ⟨w.heap.size + 2, 1, none⟩ = false ∧ W.frozen? ⟨w.heap.size + 2, 2, none⟩ = false ∧ W.frozen? ⟨w.heap.size + 2, 3, none⟩ = false) ∧
    (W.cell? ⟨w.heap.size + 2, 0, none⟩ = some (.slice none 0 0) ∧ W.cell? ⟨w.heap.size + 2, 1, none⟩ = some (.bool false) ∧ W.cell? ⟨w.heap.size + 2, 2, none⟩ = some (.int .i64 0) ∧ W.cell? ⟨w.heap.size + 2, 3, none⟩ = some (.bool false)) :=
  ⟨⟨h.b3.free 0, h.b3.free 1, h.b3.free 2, h.b3.free 3⟩, h.b3.cell 0, h.b3.cell 1, h.b3.cell 2, h.b3.cell 3⟩
theorem Rw3.ext {w W : World} {r : Rw} {A : Option Addr} {c : Nat} {t : TypeId} {cs : Array Value} (h : Rw3 w W r A c t cs) :
    (∀ u : Ext W (w.heap.size + 2), u.val.cell? ⟨w.heap.size, 0, none⟩ = some (.slice A r.cs.length c)) ∧ (∀ u : Ext W (w.heap.size + 2), u.val.cell? ⟨w.heap.size, 1, none⟩ = some (.bool r.wrap)) ∧
    (∀ u : Ext W (w.heap.size + 2), u.val.cell? ⟨w.heap.size, 2, none⟩ = some (.int .i64 r.dir)) ∧ (∀ u : Ext W (w.heap.size + 2), u.val.cell? ⟨w.heap.size, 3, none⟩ = some (.bool r.ex)) :=
  ⟨Ext.cell (p := ⟨w.heap.size, 0, none⟩) (by simp) (h.b1.cell 0), Ext.cell (p := ⟨w.heap.size, 1, none⟩) (by simp) (h.b1.cell 1), Ext.cell (p := ⟨w.heap.size, 2, none⟩) (by simp) (h.b1.cell 2), Ext.cell (p := ⟨w.heap.size, 3, none⟩) (by simp) (h.b1.cell 3)⟩
/-- The answer's place is stored to: the class of worlds holds behind it. -/
theorem below_four {w0 W : World} {B g : Nat} (h : Below B w0 W) (hg : B ≤ g) (v0 v1 v2 v3 : Value) : Below B w0 ((((W.setCell ⟨g, 0, none⟩ v0).setCell ⟨g, 1, none⟩ v1).setCell ⟨g, 2, none⟩ v2).setCell ⟨g, 3, none⟩ v3) :=
  (((h.setCell (p := ⟨g, 0, none⟩) hg v0).setCell (p := ⟨g, 1, none⟩) hg v1).setCell (p := ⟨g, 2, none⟩) hg v2).setCell (p := ⟨g, 3, none⟩) hg v3
set_option maxRecDepth 100000 in
set_option maxHeartbeats 400000 in
theorem new8_c : New8C := by
  intro n p w hn hp
  have hw8 := fun V => width8_c n V hn
  obtain ⟨K, hK⟩ : ∃ K : Nat, max 1 (min n 4096) = (K : Int) := ⟨(max 1 (min n 4096)).toNat, by omega⟩
  have hbk := fun V => blanks8_c K (by omega) p V
  have hS : newR n p = ⟨List.replicate K (blankC p), false, 0, false⟩ := by unfold newR; rw [hK]; rfl
  rw [hS]
  rw [hK] at hw8
  have HW := Lib.hid hw8
  have HB := Lib.hid hbk
  have v1 : pnV p = .agg #[.int .i64 p.fg, .int .i64 p.bg, .int .i64 p.fl] := rfl
  rw [v1]
  have hP : Box ((w.alloc (.cells #[.int .i64 p.fg, .int .i64 p.bg, .int .i64 p.fl] 27)).alloc (.cells #[.slice none 0 0, .bool false, .int .i64 0, .bool false] 24)) w.heap.size 27 #[.int .i64 p.fg, .int .i64 p.bg, .int .i64 p.fl] := (Box.new w _ _).alloc _
  have hX : Box ((w.alloc (.cells #[.int .i64 p.fg, .int .i64 p.bg, .int .i64 p.fl] 27)).alloc (.cells #[.slice none 0 0, .bool false, .int .i64 0, .bool false] 24)) (w.heap.size + 1) 24 #[.slice none 0 0, .bool false, .int .i64 0, .bool false] := box8_1 w _ _ _
  have hb : Below w.heap.size w ((w.alloc (.cells #[.int .i64 p.fg, .int .i64 p.bg, .int .i64 p.fl] 27)).alloc (.cells #[.slice none 0 0, .bool false, .int .i64 0, .bool false] 24)) := ((Below.refl _ _).alloc (Nat.le_refl _) _).alloc (by simp) _
  have HX := Lib.hid (And.intro hP (And.intro hX hb))
  clear hw8 hbk hS v1 hP hX hb hn hK
  go_enter Try.func18, Try.ntmps18
  go_upto_region 1 with fail
  generalize (w.alloc (.cells #[.int .i64 p.fg, .int .i64 p.bg, .int .i64 p.fl] 27)).alloc (.cells #[.slice none 0 0, .bool false, .int .i64 0, .bool false] 24) = W at *
  have m0 := Ext.cell (w := W) (B := w.heap.size + 1) (p := ⟨w.heap.size, 0, none⟩) (by simp) (HX.out.1.cell 0)
  have m1 := Ext.cell (w := W) (B := w.heap.size + 1) (p := ⟨w.heap.size, 1, none⟩) (by simp) (HX.out.1.cell 1)
  have m2 := Ext.cell (w := W) (B := w.heap.size + 1) (p := ⟨w.heap.size, 2, none⟩) (by simp) (HX.out.1.cell 2)
  refine region_plan [([0, 2], [1, 3]), ([4], [5])] (fun w' => ∃ u : Ext W (w.heap.size + 1), w' = u.val) (by kernel_rfl) (by kernel_rfl) (fun _ _ _ _ _ h => h) ⟨⟨_, (Below.refl _ _).drew⟩, rfl⟩ ?_
  simp only [wpPlan, sel, List.take_succ_cons, List.take_zero, List.drop_succ_cons, List.drop_zero, List.cons_append, List.nil_append]
  repeat (go_big_quiet_step (fail))
  refine wpQuiet_nil ?_
  unfold wpChain
  go_wp2_with fail
  refine (HW.out _).mono ?_
  rintro e v1 ⟨rfl, rfl⟩
  go_wp2_with fail
  refine ⟨⟨⟨_, (Below.refl _ _).drew⟩, rfl⟩, ?_⟩
  unfold wpChain
  go_wp2_with fail
  refine (HB.out _).mono ?_
  rintro e v1 ⟨A, c, rfl, hA, hv1⟩
  have hsz : w.heap.size + 1 ≤ W.heap.size := Nat.le_of_lt HX.out.2.1.lt
  have hv2 : Below W.heap.size W v1 := (Below.refl W.heap.size W).drew.trans hv1
  have hX1 := HX.out.2.1.below hv2 HX.out.2.1.lt
  have hb1 := HX.out.2.2.trans (hv2.mono HX.out.2.2.size)
  have HV := Lib.hid (hv2.mono hsz)
  have HA := Lib.hid (And.intro hX1 (And.intro hb1 hA))
  clear hv1 hv2 hsz
  go_wp2_with fail
  refine ⟨⟨⟨_, HV.out⟩, rfl⟩, ?_⟩
  unfold wpChain
  repeat (go_big_quiet_step (fail))
  refine wpQuiet_nil ?_
  unfold wpChain
  clear m0 m1 m2
  obtain ⟨f0, f1, f2, f3⟩ : v1.frozen? ⟨w.heap.size + 1, 0, none⟩ = false ∧ v1.frozen? ⟨w.heap.size + 1, 1, none⟩ = false ∧ v1.frozen? ⟨w.heap.size + 1, 2, none⟩ = false ∧ v1.frozen? ⟨w.heap.size + 1, 3, none⟩ = false := ⟨hX1.free 0, hX1.free 1, hX1.free 2, hX1.free 3⟩
  obtain ⟨j0, j1, j2, j3⟩ : v1.cell? ⟨w.heap.size + 1, 0, none⟩ = some (.slice none 0 0) ∧ v1.cell? ⟨w.heap.size + 1, 1, none⟩ = some (.bool false) ∧ v1.cell? ⟨w.heap.size + 1, 2, none⟩ = some (.int .i64 0) ∧ v1.cell? ⟨w.heap.size + 1, 3, none⟩ = some (.bool false) := ⟨hX1.cell 0, hX1.cell 1, hX1.cell 2, hX1.cell 3⟩
  clear hX1 hb1 hA
  go_wp2_with fail
  refine ⟨⟨⟨_, below_four HV.out (Nat.le_refl _) _ _ _ _⟩, rfl⟩, ?_⟩
  unfold wpChain
  go_wp2_with fail
  have hp4 := HA.out.1.put4r HA.out.2.1 (Nat.le_succ _) (.slice A K c) (.bool false) (.int .i64 0) (.bool false)
  have hi4 := HA.out.2.2.far4 HA.out.1 (by simp) (.slice A K c) (.bool false) (.int .i64 0) (.bool false)
  refine bodyPost_ret (ret8_rw rfl ⟨List.replicate K (blankC p), false, 0, false⟩ A c _ _ (w.heap.size + 1) 24 rfl ?_) rfl ⟨A, c, rfl, hi4, hp4.2⟩
  have e : rwCells ⟨List.replicate K (blankC p), false, 0, false⟩ A c = #[.slice A K c, .bool false, .int .i64 0, .bool false] := by unfold rwCells; simp only [List.length_replicate]
  rw [e]
  exact hp4.1
end Go.Proofs.Ytflpelpgnjdnkaa
