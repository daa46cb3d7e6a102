/- The document's Cells and Same, walked. -/
import Derived.Test.YtcadbapccdclaaaEq08
import Derived.Deep.DeepCutAuto
namespace Go.Proofs.Ytcadbapccdclaaa
open Go Go.RowKit
set_option linter.unusedVariables false
set_option linter.unusedSimpArgs false

set_option maxRecDepth 100000 in
set_option maxHeartbeats 4000000 in
theorem cells_c (A B : Option Addr) (a b : List Cl) (c d : Nat) (w : World) (ha : InC w A c a) (hb : InC w B d b) :
    Calls Try.prog 28 #[.slice A a.length c, .slice B b.length d] w fun e w' => e = .returned (.bool (decide (a = b))) ∧ Below w.heap.size w w' := by
  have hl := ha.len
  have hl2 := hb.len
  unfold maxLen at hl hl2
  generalize hR : decide (a = b) = R
  have HR := Lib.hid hR
  have HA := Lib.hid ha
  have HB := Lib.hid hb
  clear hR ha hb
  by_cases hn : a.length = b.length
  · have en : ((a.length : Int) != (b.length : Int)) = false := by rw [hn]; simp
    have HN := Lib.hid hn
    clear hn
    go_enter Try.func28, Try.ntmps28
    go_wp2_with fail
    clear en
    go_loopw [5] (fun u5 wr => ∃ k : Nat, k ≤ a.length ∧ u5 = .int .i64 (k : Int) ∧ Hid (a.take k = b.take k) ∧ Below w.heap.size w wr) (fun u5 _ => a.length - (intOf u5).toNat)
    case atStart => exact ⟨0, Nat.zero_le _, rfl, Lib.hid rfl, Below.refl _ _⟩
    case round =>
      obtain ⟨k, hk, rfl, HT, hbel⟩ := hrel
      by_cases hlt : k < a.length
      · have hlt2 : k < b.length := by have := HN.out; omega
        obtain ⟨x, hx⟩ : ∃ x, a[k]? = some x := ⟨_, List.getElem?_eq_getElem hlt⟩
        obtain ⟨y, hy⟩ : ∃ y, b[k]? = some y := ⟨_, List.getElem?_eq_getElem hlt2⟩
        obtain ⟨g1, o1, rfl, pb, p0, p1, p2, p3, p4, p5, p6⟩ := (HA.out.on hbel).at_ hx
        obtain ⟨g2, o2, rfl, qb, q0, q1, q2, q3, q4, q5, q6⟩ := (HB.out.on hbel).at_ hy
        have m0 := Ext.cell (w := wr) (B := wr.heap.size) (p := ⟨g1, o1 + k * 7, none⟩) pb p0
        have m1 := Ext.cell (w := wr) (B := wr.heap.size) (p := ⟨g1, o1 + k * 7 + 1, none⟩) pb p1
        have m2 := Ext.cell (w := wr) (B := wr.heap.size) (p := ⟨g1, o1 + k * 7 + 2, none⟩) pb p2
        have m3 := Ext.cell (w := wr) (B := wr.heap.size) (p := ⟨g1, o1 + k * 7 + 3, none⟩) pb p3
        have m4 := Ext.cell (w := wr) (B := wr.heap.size) (p := ⟨g1, o1 + k * 7 + 4, none⟩) pb p4
        have m5 := Ext.cell (w := wr) (B := wr.heap.size) (p := ⟨g1, o1 + k * 7 + 5, none⟩) pb p5
        have m6 := Ext.cell (w := wr) (B := wr.heap.size) (p := ⟨g1, o1 + k * 7 + 6, none⟩) pb p6
        have n0 := Ext.cell (w := wr) (B := wr.heap.size) (p := ⟨g2, o2 + k * 7, none⟩) qb q0
        have n1 := Ext.cell (w := wr) (B := wr.heap.size) (p := ⟨g2, o2 + k * 7 + 1, none⟩) qb q1
        have n2 := Ext.cell (w := wr) (B := wr.heap.size) (p := ⟨g2, o2 + k * 7 + 2, none⟩) qb q2
        have n3 := Ext.cell (w := wr) (B := wr.heap.size) (p := ⟨g2, o2 + k * 7 + 3, none⟩) qb q3
        have n4 := Ext.cell (w := wr) (B := wr.heap.size) (p := ⟨g2, o2 + k * 7 + 4, none⟩) qb q4
        have n5 := Ext.cell (w := wr) (B := wr.heap.size) (p := ⟨g2, o2 + k * 7 + 5, none⟩) qb q5
        have n6 := Ext.cell (w := wr) (B := wr.heap.size) (p := ⟨g2, o2 + k * 7 + 6, none⟩) qb q6
        have hne := cell_neq x y
        have hca := HA.out.cap
        have hcb := HB.out.cap
        unfold clV at hne
        have HX := Lib.hid (And.intro hx hy)
        have z1 : (k : Int) < (a.length : Int) := by omega
        have z2 : (k : Int) < (b.length : Int) := by omega
        clear hx hy p0 p1 p2 p3 p4 p5 p6 q0 q1 q2 q3 q4 q5 q6
        go_upto_region 6 with fail
        cases hxy : decide (x = y) with
        | true =>
          rw [hxy] at hne
          have HS : Hid (a.take (k + 1) = b.take (k + 1)) := Lib.hid (by rw [take_snoc HX.out.1, take_snoc HX.out.2, HT.out, of_decide_eq_true hxy])
          clear hxy
          refine region_plan [([0, 1, 2, 3, 4, 5, 6, 7, 8], [])] (fun w' => ∃ u : Ext wr wr.heap.size, w' = u.val) (by kernel_rfl) (by kernel_rfl) (fun _ _ _ _ _ h => h) ⟨⟨_, (Below.refl _ _).drew⟩, rfl⟩ ?_
          simp only [wpPlan, sel, List.take_succ_cons, List.take_zero, List.drop_succ_cons, List.drop_zero, List.cons_append, List.nil_append]
          repeat (go_big_quiet_step (fail))
          refine wpQuiet_nil ?_
          unfold wpChain
          go_wp2_with fail
          exact ⟨⟨k + 1, by omega, by simp, HS, hbel.drew⟩, by simp [intOf]; omega⟩
        | false =>
          rw [hxy] at hne
          have HS : Hid (R = false) := Lib.hid (by
            rw [← HR.out]
            refine decide_eq_false fun h => ?_
            subst h
            have h1 := HX.out.1.symm.trans HX.out.2
            injection h1 with h1
            exact of_decide_eq_false hxy h1)
          clear hxy
          refine region_plan [([0, 1, 2, 3, 4, 5, 6, 7, 8], [])] (fun w' => ∃ u : Ext wr wr.heap.size, w' = u.val) (by kernel_rfl) (by kernel_rfl) (fun _ _ _ _ _ h => h) ⟨⟨_, (Below.refl _ _).drew⟩, rfl⟩ ?_
          simp only [wpPlan, sel, List.take_succ_cons, List.take_zero, List.drop_succ_cons, List.drop_zero, List.cons_append, List.nil_append]
          repeat (go_big_quiet_step (fail))
          refine wpQuiet_nil ?_
          unfold wpChain
          go_wp2_with fail
          go_ret
          exact ⟨ret_bool HS.out.symm, hbel.drew⟩
      · have hke : k = a.length := by omega
        have HS : Hid (R = true) := Lib.hid (by
          rw [← HR.out]
          have h := HT.out
          rw [hke, List.take_length, HN.out, List.take_length] at h
          exact decide_eq_true h)
        have z1 : ¬ (k : Int) < (a.length : Int) := by omega
        clear hke
        go_wp2_with fail
        go_ret
        exact ⟨ret_bool HS.out.symm, hbel⟩
  · have en : ((a.length : Int) != (b.length : Int)) = true := by simp; omega
    have HS : Hid (R = false) := Lib.hid (by rw [← HR.out]; exact decide_eq_false fun h => hn (by rw [h]))
    clear hn
    go_enter Try.func28, Try.ntmps28
    go_wp2_with fail
    go_ret
    exact ⟨ret_bool HS.out.symm, Below.refl _ _⟩
/-- Are two rows the same? -/
def sameB (a b : Rw) : Bool := decide (a.cs = b.cs) && ((a.wrap == b.wrap) && ((a.dir == b.dir) && (a.ex == b.ex)))
theorem same_iff {a b : Rw} : sameB a b = true ↔ a = b := by
  obtain ⟨ac, aw, ad, ae⟩ := a
  obtain ⟨bc, bw, bd, be⟩ := b
  simp [sameB]
set_option maxRecDepth 100000 in
set_option maxHeartbeats 4000000 in
theorem same_c (a b : Rw) (A B : Option Addr) (c d : Nat) (w : World) (ha : InC w A c a.cs) (hb : InC w B d b.cs) :
    Calls Try.prog 12 #[rwV a A c, rwV b B d] w fun e w' => e = .returned (.bool (decide (a = b))) ∧ Below w.heap.size w w' := by
  have e : decide (a = b) = sameB a b := by
    cases h : sameB a b with
    | true => exact decide_eq_true (same_iff.1 h)
    | false => exact decide_eq_false fun k => by rw [same_iff.2 k] at h; cases h
  rw [e]
  clear e
  have hbel : Below w.heap.size w ((w.alloc (.cells #[.slice A a.cs.length c, .bool a.wrap, .int .i64 a.dir, .bool a.ex] 35)).alloc (.cells #[.slice B b.cs.length d, .bool b.wrap, .int .i64 b.dir, .bool b.ex] 35)) := ((Below.refl _ _).alloc (Nat.le_refl _) _).alloc (by simp) _
  have hB1 : Box ((w.alloc (.cells #[.slice A a.cs.length c, .bool a.wrap, .int .i64 a.dir, .bool a.ex] 35)).alloc (.cells #[.slice B b.cs.length d, .bool b.wrap, .int .i64 b.dir, .bool b.ex] 35)) w.heap.size 35 #[.slice A a.cs.length c, .bool a.wrap, .int .i64 a.dir, .bool a.ex] := (Box.new w _ _).alloc _
  have hB2 : Box ((w.alloc (.cells #[.slice A a.cs.length c, .bool a.wrap, .int .i64 a.dir, .bool a.ex] 35)).alloc (.cells #[.slice B b.cs.length d, .bool b.wrap, .int .i64 b.dir, .bool b.ex] 35)) (w.heap.size + 1) 35 #[.slice B b.cs.length d, .bool b.wrap, .int .i64 b.dir, .bool b.ex] := by
    have h := Box.new (w.alloc (.cells #[.slice A a.cs.length c, .bool a.wrap, .int .i64 a.dir, .bool a.ex] 35)) 35 #[.slice B b.cs.length d, .bool b.wrap, .int .i64 b.dir, .bool b.ex]
    simpa using h
  have hcc := cells_c A B a.cs b.cs c d _ (ha.on hbel) (hb.on hbel)
  generalize hR : sameB a b = R
  have HR := Lib.hid hR
  have HB := Lib.hid (And.intro hB1 (And.intro hB2 hbel))
  clear hR ha hb hB1 hB2 hbel
  simp only [rwV_eq]
  go_enter Try.func12, Try.ntmps12
  cases hcs : decide (a.cs = b.cs) with
  | false =>
    have HS : Hid (R = false) := Lib.hid (by rw [← HR.out]; unfold sameB; rw [hcs]; rfl)
    rw [hcs] at hcc
    clear hcs HR
    go_wp2_with fail
    refine hcc.mono ?_
    rintro e w1 ⟨rfl, hb1⟩
    have hb2 := HB.out.2.2.trans (hb1.mono HB.out.2.2.size)
    clear hcc hb1
    go_wp2_with fail
    go_ret
    exact ⟨ret_bool HS.out.symm, hb2⟩
  | true =>
    rw [hcs] at hcc
    go_wp2_with fail
    refine hcc.mono ?_
    rintro e w1 ⟨rfl, hb1⟩
    have hb2 := HB.out.2.2.trans (hb1.mono HB.out.2.2.size)
    have k1 := HB.out.1.below hb1 HB.out.1.lt
    have k2 := HB.out.2.1.below hb1 HB.out.2.1.lt
    obtain ⟨a1, a2, a3⟩ : w1.cell? ⟨w.heap.size, 1, none⟩ = some (.bool a.wrap) ∧ w1.cell? ⟨w.heap.size, 2, none⟩ = some (.int .i64 a.dir) ∧ w1.cell? ⟨w.heap.size, 3, none⟩ = some (.bool a.ex) := ⟨k1.cell 1, k1.cell 2, k1.cell 3⟩
    obtain ⟨b1, b2, b3⟩ : w1.cell? ⟨w.heap.size + 1, 1, none⟩ = some (.bool b.wrap) ∧ w1.cell? ⟨w.heap.size + 1, 2, none⟩ = some (.int .i64 b.dir) ∧ w1.cell? ⟨w.heap.size + 1, 3, none⟩ = some (.bool b.ex) := ⟨k2.cell 1, k2.cell 2, k2.cell 3⟩
    have HS : Hid (R = ((a.wrap == b.wrap) && ((a.dir == b.dir) && (a.ex == b.ex)))) := Lib.hid (by rw [← HR.out]; unfold sameB; rw [hcs]; rfl)
    have HB2 := Lib.hid hb2
    clear hcs HR hcc hb1 hb2 k1 k2 HB
    generalize a.wrap = x1 at *
    generalize b.wrap = y1 at *
    generalize a.ex = x3 at *
    generalize b.ex = y3 at *
    generalize a.dir = x2 at *
    generalize b.dir = y2 at *
    cases e1 : (x1 == y1) with
    | false =>
      have HS2 : Hid (R = false) := Lib.hid (by rw [HS.out, e1]; rfl)
      go_wp2_with fail
      go_ret
      exact ⟨ret_bool HS2.out.symm, HB2.out⟩
    | true =>
      cases e2 : (x2 == y2) with
      | false =>
        have HS2 : Hid (R = false) := Lib.hid (by rw [HS.out, e1, e2]; rfl)
        go_wp2_with fail
        go_ret
        exact ⟨ret_bool HS2.out.symm, HB2.out⟩
      | true =>
        have HS2 : Hid (R = (x3 == y3)) := Lib.hid (by rw [HS.out, e1, e2]; rfl)
        go_wp2_with fail
        go_ret
        exact ⟨ret_bool HS2.out.symm, HB2.out⟩
end Go.Proofs.Ytcadbapccdclaaa
