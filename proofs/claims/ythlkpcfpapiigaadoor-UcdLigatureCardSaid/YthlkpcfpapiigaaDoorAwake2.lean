/- The document's example. -/
import Derived.Test.YthlkpcfpapiigaaDoorTells2
namespace Go.Proofs.YthlkpcfpapiigaaDoor
open Go Go.RowKit
set_option linter.unusedVariables false
set_option linter.unusedSimpArgs false

/-- A variable that holds the tables. -/
structure DBox (w : World) (g : Nat) (A1 A2 A3 A4 A5 A6 : Option Addr) (c1 c2 c3 c4 c5 c6 : Nat) : Prop where
  box : Box w g 29 #[.slice A1 classRows.length c1, .slice A2 wideRows.length c2, .slice A3 joinRows.length c3, .slice A4 mirrorRows.length c4, .slice A5 bracketRows.length c5, .slice A6 formRows.length c6]
  at_ : DataAt w A1 A2 A3 A4 A5 A6
theorem DBox.later {w w' : World} {g : Nat} {A1 A2 A3 A4 A5 A6 : Option Addr} {c1 c2 c3 c4 c5 c6 : Nat} (h : DBox w g A1 A2 A3 A4 A5 A6 c1 c2 c3 c4 c5 c6) (hb : Below w.heap.size w w') : DBox w' g A1 A2 A3 A4 A5 A6 c1 c2 c3 c4 c5 c6 :=
  ⟨h.box.below hb h.box.lt, h.at_.later hb⟩
theorem DBox.new {w : World} {A1 A2 A3 A4 A5 A6 : Option Addr} {c1 c2 c3 c4 c5 c6 : Nat} (h : DataAt w A1 A2 A3 A4 A5 A6) :
    DBox (w.alloc (.cells #[.slice A1 classRows.length c1, .slice A2 wideRows.length c2, .slice A3 joinRows.length c3, .slice A4 mirrorRows.length c4, .slice A5 bracketRows.length c5, .slice A6 formRows.length c6] 29)) w.heap.size A1 A2 A3 A4 A5 A6 c1 c2 c3 c4 c5 c6 :=
  ⟨Box.new _ _ _, h.later ((Below.refl _ _).alloc (Nat.le_refl _) _)⟩
theorem DBox.cells {w : World} {g : Nat} {A1 A2 A3 A4 A5 A6 : Option Addr} {c1 c2 c3 c4 c5 c6 : Nat} (h : DBox w g A1 A2 A3 A4 A5 A6 c1 c2 c3 c4 c5 c6) :
    w.cell? ⟨g, 0, none⟩ = some (.slice A1 classRows.length c1) ∧ w.cell? ⟨g, 1, none⟩ = some (.slice A2 wideRows.length c2) ∧ w.cell? ⟨g, 2, none⟩ = some (.slice A3 joinRows.length c3) ∧
    w.cell? ⟨g, 3, none⟩ = some (.slice A4 mirrorRows.length c4) ∧ w.cell? ⟨g, 4, none⟩ = some (.slice A5 bracketRows.length c5) ∧ w.cell? ⟨g, 5, none⟩ = some (.slice A6 formRows.length c6) :=
  ⟨h.box.cell 0, h.box.cell 1, h.box.cell 2, h.box.cell 3, h.box.cell 4, h.box.cell 5⟩

theorem aw1 : classF 1488 = 2 := by kernel_rfl
theorem aw2 : mirrorF 40 = 41 := by kernel_rfl
theorem aw3 : classF 65 = 1 := by kernel_rfl
theorem aw4 : widthF 65 = 1 := by kernel_rfl
theorem aw5 : shapeF 1576 3 = 65170 := by kernel_rfl

set_option maxRecDepth 100000 in
set_option maxHeartbeats 4000000 in
theorem awake_c (w : World) (hs : Spc w) : Calls Tryd.prog 8 #[] w fun e w' => e = .returned (.bool true) ∧ Below w.heap.size w w' := by
  go_enter Tryd.func8, Tryd.ntmps8
  go_wp2_with fail
  refine (load_c w hs).mono ?_
  rintro e w1 ⟨A1, A2, A3, A4, A5, A6, c1, c2, c3, c4, c5, c6, rfl, hD, hb1⟩
  unfold dataV
  go_wp2_with fail
  have hX := DBox.new (c1 := c1) (c2 := c2) (c3 := c3) (c4 := c4) (c5 := c5) (c6 := c6) hD
  have hbel := hb1.alloc hb1.size (.cells #[.slice A1 classRows.length c1, .slice A2 wideRows.length c2, .slice A3 joinRows.length c3, .slice A4 mirrorRows.length c4, .slice A5 bracketRows.length c5, .slice A6 formRows.length c6] 29)
  refine (class_c 1488 _ hX.at_).mono ?_
  rintro e w2 ⟨rfl, hb2⟩
  rw [aw1]
  have hX := hX.later hb2
  have hbel := hbel.trans (hb2.mono hbel.size)
  obtain ⟨x0, x1, x2, x3, x4, x5⟩ := hX.cells
  clear hb1 hb2 hD
  go_wp2_with fail
  clear x0 x1 x2 x3 x4 x5
  refine (mirror_c 40 _ hX.at_).mono ?_
  rintro e w3 ⟨rfl, hb3⟩
  rw [aw2]
  have hX := hX.later hb3
  have hbel := hbel.trans (hb3.mono hbel.size)
  obtain ⟨x0, x1, x2, x3, x4, x5⟩ := hX.cells
  clear hb3
  go_wp2_with fail
  clear x0 x1 x2 x3 x4 x5
  refine (class_c 65 _ hX.at_).mono ?_
  rintro e w4 ⟨rfl, hb4⟩
  rw [aw3]
  have hX := hX.later hb4
  have hbel := hbel.trans (hb4.mono hbel.size)
  obtain ⟨x0, x1, x2, x3, x4, x5⟩ := hX.cells
  clear hb4
  go_wp2_with fail
  clear x0 x1 x2 x3 x4 x5
  refine (width_c 65 _ hX.at_).mono ?_
  rintro e w5 ⟨rfl, hb5⟩
  rw [aw4]
  have hX := hX.later hb5
  have hbel := hbel.trans (hb5.mono hbel.size)
  obtain ⟨x0, x1, x2, x3, x4, x5⟩ := hX.cells
  clear hb5
  go_wp2_with fail
  clear x0 x1 x2 x3 x4 x5
  refine (shape_c 1576 3 _ hX.at_).mono ?_
  rintro e w6 ⟨rfl, hb6⟩
  rw [aw5]
  have hbel := hbel.trans (hb6.mono hbel.size)
  clear hb6 hX
  go_wp2_with fail
  go_ret
  exact ⟨rfl, hbel⟩

/-- What a call tells of a letter, wherever the tables lie. -/
def Told (f : FuncId) (r v : Int) : Prop := ∀ (A1 A2 A3 A4 A5 A6 : Option Addr) (c1 c2 c3 c4 c5 c6 : Nat) (W : World), DataAt W A1 A2 A3 A4 A5 A6 →
  Calls Tryd.prog f #[dataV A1 A2 A3 A4 A5 A6 c1 c2 c3 c4 c5 c6, .int .i64 r] W fun e w' => e = .returned (.int .i64 v) ∧ Below W.heap.size W w'
theorem Told.at {f : FuncId} {r v : Int} (h : Told f r v) {A1 A2 A3 A4 A5 A6 : Option Addr} {c1 c2 c3 c4 c5 c6 : Nat} {W : World} (hD : DataAt W A1 A2 A3 A4 A5 A6) :
    Calls Tryd.prog f #[dataV A1 A2 A3 A4 A5 A6 c1 c2 c3 c4 c5 c6, .int .i64 r] W fun e w' => e = .returned (.int .i64 v) ∧ Below W.heap.size W w' := h _ _ _ _ _ _ _ _ _ _ _ _ _ hD
theorem class_told (r : Int) : Told 14 r (classF r) := fun _ _ _ _ _ _ _ _ _ _ _ _ W h => class_c r W h
theorem width_told (r : Int) : Told 15 r (widthF r) := fun _ _ _ _ _ _ _ _ _ _ _ _ W h => width_c r W h
theorem join_told (r : Int) : Told 13 r (joinV r) := fun _ _ _ _ _ _ _ _ _ _ _ _ W h => join_c' r W h
theorem mirror_told (r : Int) : Told 11 r (mirrorF r) := fun _ _ _ _ _ _ _ _ _ _ _ _ W h => mirror_c r W h
def ToldAs (r which v : Int) : Prop := ∀ (A1 A2 A3 A4 A5 A6 : Option Addr) (c1 c2 c3 c4 c5 c6 : Nat) (W : World), DataAt W A1 A2 A3 A4 A5 A6 →
  Calls Tryd.prog 12 #[dataV A1 A2 A3 A4 A5 A6 c1 c2 c3 c4 c5 c6, .int .i64 r, .int .i64 which] W fun e w' => e = .returned (.int .i64 v) ∧ Below W.heap.size W w'
theorem ToldAs.at {r which v : Int} (h : ToldAs r which v) {A1 A2 A3 A4 A5 A6 : Option Addr} {c1 c2 c3 c4 c5 c6 : Nat} {W : World} (hD : DataAt W A1 A2 A3 A4 A5 A6) :
    Calls Tryd.prog 12 #[dataV A1 A2 A3 A4 A5 A6 c1 c2 c3 c4 c5 c6, .int .i64 r, .int .i64 which] W fun e w' => e = .returned (.int .i64 v) ∧ Below W.heap.size W w' := h _ _ _ _ _ _ _ _ _ _ _ _ _ hD
theorem shape_told (r which : Int) : ToldAs r which (shapeF r which) := fun _ _ _ _ _ _ _ _ _ _ _ _ W h => shape_c r which W h
end Go.Proofs.YthlkpcfpapiigaaDoor
