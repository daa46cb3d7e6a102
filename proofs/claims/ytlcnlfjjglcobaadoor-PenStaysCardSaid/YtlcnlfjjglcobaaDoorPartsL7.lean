/- PenParts over the contracts. -/
import Derived.Test.YtlcnlfjjglcobaaDoorAwake07
namespace Go.Proofs.YtlcnlfjjglcobaaDoor
open Go Go.RowKit
set_option linter.unusedVariables false
set_option linter.unusedSimpArgs false

def Parts7C : Prop := ∀ (c : Int) (w : World), I64 c →
  Calls Tryd.prog 15 #[.int .i64 c] w fun e w' => e = .returned (.tuple #[.int .i64 (partsN c).1, .int .i64 (partsN c).2.1, .int .i64 (partsN c).2.2.1, .int .i64 (partsN c).2.2.2]) ∧ Below w.heap.size w w'
def RGB7C : Prop := ∀ (r g b : Int) (w : World), I64 r → I64 g → I64 b →
  Calls Tryd.prog 14 #[.int .i64 r, .int .i64 g, .int .i64 b] w fun e w' => e = .returned (.int .i64 (rgbN r g b)) ∧ Below w.heap.size w w'
theorem parts_i64 {c : Int} (h : I64 c) : I64 (partsN c).2.1 ∧ I64 (partsN c).2.2.1 ∧ I64 (partsN c).2.2.2 := by
  unfold I64 at *
  unfold partsN
  split
  · simp
  split
  · simp only; omega
  split
  · simp only; omega
  · simp
set_option maxRecDepth 100000 in
set_option maxHeartbeats 4000000 in
theorem parts_law (hp : ParseC) (hs : Sane7C) (ha : Apply7C) (hpr : Print7C) (hpt : Parts7C) (hrgb : RGB7C) (c : Int) (hc : I64 c) (w : World) (hT : Tog w) :
    Calls Tryd.prog 7 #[.int .i64 c] w fun e w' => e = .returned (.bool true) ∧ Below w.heap.size w w' := by
  have hawake := awake7_c hp hs ha hpr w hT
  have hr := parts_range c
  have h0 : (partsN c).1 = 0 → c = 0 := parts_zero
  have h1 := @parts_one c
  have h2 := @parts_two c
  have h3 := parts_ok c
  obtain ⟨i1, i2, i3⟩ := parts_i64 hc
  have hpt' : ∀ V, Below w.heap.size w V → Calls Tryd.prog 15 #[.int .i64 c] V fun e w' => e = .returned (.tuple #[.int .i64 (partsN c).1, .int .i64 (partsN c).2.1, .int .i64 (partsN c).2.2.1, .int .i64 (partsN c).2.2.2]) ∧ Below V.heap.size V w' := fun V _ => hpt c V hc
  generalize (partsN c).1 = k at *
  generalize (partsN c).2.1 = x at *
  generalize (partsN c).2.2.1 = y at *
  generalize (partsN c).2.2.2 = z at *
  have HG := Lib.hid (And.intro h0 (And.intro h1 (And.intro h2 h3)))
  have HI := Lib.hid (And.intro i1 (And.intro i2 i3))
  clear h0 h1 h2 h3 i1 i2 i3
  go_enter Tryd.func7, Tryd.ntmps7
  go_wp2_with fail
  refine hawake.mono ?_
  rintro e w1 ⟨rfl, hb1⟩
  have h4 := hpt' w1 hb1
  clear hawake hpt'
  go_wp2_with fail
  refine h4.mono ?_
  rintro e w2 ⟨rfl, hb2⟩
  have hb2 := hb1.trans (hb2.mono hb1.size)
  clear h4 hb1
  obtain ⟨g0, g1, g2, g3⟩ := HG.out
  obtain ⟨i1, i2, i3⟩ := HI.out
  rcases hr with rfl | rfl | rfl | rfl
  · have hc0 := g0 rfl
    subst hc0
    clear g0 g1 g2 g3 i1 i2 i3 HG HI
    go_wp2_with fail
    go_ret
    exact ⟨rfl, hb2⟩
  · obtain ⟨e1, e2, rfl, rfl⟩ := g1 rfl
    unfold Byt8 at e2
    obtain ⟨e2, e3⟩ := e2
    subst e1
    clear g0 g1 g2 g3 HG HI
    go_wp2_with fail
    go_ret
    exact ⟨rfl, hb2⟩
  · have e1 := g2 rfl
    have h5 := hrgb x y z w2 i1 i2 i3
    rw [e1] at h5
    clear g0 g1 g2 g3 HG HI
    go_wp2_with fail
    refine h5.mono ?_
    rintro e w3 ⟨rfl, hb3⟩
    have hb3 := hb2.trans (hb3.mono hb2.size)
    clear h5
    go_wp2_with fail
    go_ret
    exact ⟨rfl, hb3⟩
  · have e1 : ¬ SaneN ⟨c, 0, 0⟩ := fun h => (g3.1 h.1) rfl
    have h5 := hs ⟨c, 0, 0⟩ w2 ⟨hc, by show I64 0; unfold I64; omega, by show I64 0; unfold I64; omega⟩
    rw [decide_eq_false e1] at h5
    have v1 : pnV ⟨c, 0, 0⟩ = .agg #[.int .i64 c, .int .i64 0, .int .i64 0] := rfl
    rw [v1] at h5
    clear g0 g1 g2 g3 HG HI e1
    go_wp2_with fail
    refine h5.mono ?_
    rintro e w3 ⟨rfl, hb3⟩
    have hb3 := hb2.trans (hb3.mono hb2.size)
    clear h5
    go_wp2_with fail
    go_ret
    exact ⟨rfl, hb3⟩
end Go.Proofs.YtlcnlfjjglcobaaDoor
