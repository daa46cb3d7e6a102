/- States as the document's, and ours; are two states the same? Are actions the same? -/
import Derived.Test.YtiaippdaogmcmaaDoorMem6
import Derived.Test.YtiaippdaogmcmaaDoorRefSame
namespace Go.Proofs.YtiaippdaogmcmaaDoor
open Go Go.RowKit
set_option linter.unusedVariables false
set_option linter.unusedSimpArgs false

def zero7 : Array Value := #[.int .i64 0, .string (strS []), .bool false, .slice none 0 0, .bool false, .string (strS []), .int .u8 0]
theorem two_sevens (w : World) (t u : TypeId) (a b : Array Value) : Box ((w.alloc (.cells a t)).alloc (.cells b u)) w.heap.size t a ∧ Box ((w.alloc (.cells a t)).alloc (.cells b u)) (w.heap.size + 1) u b ∧ Below w.heap.size w ((w.alloc (.cells a t)).alloc (.cells b u)) :=
  ⟨(Box.new w _ _).alloc _, by have := Box.new (w.alloc (.cells a t)) u b; simpa using this, ((Below.refl _ _).alloc (Nat.le_refl _) _).alloc (by simp) _⟩
theorem Box.put7 {w W : World} {B g : Nat} {t : TypeId} {o0 o1 o2 o3 o4 o5 o6 : Value} (h : Box W g t #[o0, o1, o2, o3, o4, o5, o6]) (hb : Below B w W) (hg : B ≤ g) (v0 v1 v2 v3 v4 v5 v6 : Value) :
    Box (((((((W.setCell ⟨g, 0, none⟩ v0).setCell ⟨g, 1, none⟩ v1).setCell ⟨g, 2, none⟩ v2).setCell ⟨g, 3, none⟩ v3).setCell ⟨g, 4, none⟩ v4).setCell ⟨g, 5, none⟩ v5).setCell ⟨g, 6, none⟩ v6) g t #[v0, v1, v2, v3, v4, v5, v6] ∧
    Below B w (((((((W.setCell ⟨g, 0, none⟩ v0).setCell ⟨g, 1, none⟩ v1).setCell ⟨g, 2, none⟩ v2).setCell ⟨g, 3, none⟩ v3).setCell ⟨g, 4, none⟩ v4).setCell ⟨g, 5, none⟩ v5).setCell ⟨g, 6, none⟩ v6) := by
  have h0 : Box ((W).setCell ⟨g, 0, none⟩ v0) g t #[v0, o1, o2, o3, o4, o5, o6] := h.set_ 0 v0
  have b0 : Below B w ((W).setCell ⟨g, 0, none⟩ v0) := hb.setCell (p := ⟨g, 0, none⟩) hg v0
  have h1 : Box (((W).setCell ⟨g, 0, none⟩ v0).setCell ⟨g, 1, none⟩ v1) g t #[v0, v1, o2, o3, o4, o5, o6] := h0.set_ 1 v1
  have b1 : Below B w (((W).setCell ⟨g, 0, none⟩ v0).setCell ⟨g, 1, none⟩ v1) := b0.setCell (p := ⟨g, 1, none⟩) hg v1
  have h2 : Box ((((W).setCell ⟨g, 0, none⟩ v0).setCell ⟨g, 1, none⟩ v1).setCell ⟨g, 2, none⟩ v2) g t #[v0, v1, v2, o3, o4, o5, o6] := h1.set_ 2 v2
  have b2 : Below B w ((((W).setCell ⟨g, 0, none⟩ v0).setCell ⟨g, 1, none⟩ v1).setCell ⟨g, 2, none⟩ v2) := b1.setCell (p := ⟨g, 2, none⟩) hg v2
  have h3 : Box (((((W).setCell ⟨g, 0, none⟩ v0).setCell ⟨g, 1, none⟩ v1).setCell ⟨g, 2, none⟩ v2).setCell ⟨g, 3, none⟩ v3) g t #[v0, v1, v2, v3, o4, o5, o6] := h2.set_ 3 v3
  have b3 : Below B w (((((W).setCell ⟨g, 0, none⟩ v0).setCell ⟨g, 1, none⟩ v1).setCell ⟨g, 2, none⟩ v2).setCell ⟨g, 3, none⟩ v3) := b2.setCell (p := ⟨g, 3, none⟩) hg v3
  have h4 : Box ((((((W).setCell ⟨g, 0, none⟩ v0).setCell ⟨g, 1, none⟩ v1).setCell ⟨g, 2, none⟩ v2).setCell ⟨g, 3, none⟩ v3).setCell ⟨g, 4, none⟩ v4) g t #[v0, v1, v2, v3, v4, o5, o6] := h3.set_ 4 v4
  have b4 : Below B w ((((((W).setCell ⟨g, 0, none⟩ v0).setCell ⟨g, 1, none⟩ v1).setCell ⟨g, 2, none⟩ v2).setCell ⟨g, 3, none⟩ v3).setCell ⟨g, 4, none⟩ v4) := b3.setCell (p := ⟨g, 4, none⟩) hg v4
  have h5 : Box (((((((W).setCell ⟨g, 0, none⟩ v0).setCell ⟨g, 1, none⟩ v1).setCell ⟨g, 2, none⟩ v2).setCell ⟨g, 3, none⟩ v3).setCell ⟨g, 4, none⟩ v4).setCell ⟨g, 5, none⟩ v5) g t #[v0, v1, v2, v3, v4, v5, o6] := h4.set_ 5 v5
  have b5 : Below B w (((((((W).setCell ⟨g, 0, none⟩ v0).setCell ⟨g, 1, none⟩ v1).setCell ⟨g, 2, none⟩ v2).setCell ⟨g, 3, none⟩ v3).setCell ⟨g, 4, none⟩ v4).setCell ⟨g, 5, none⟩ v5) := b4.setCell (p := ⟨g, 5, none⟩) hg v5
  have h6 : Box ((((((((W).setCell ⟨g, 0, none⟩ v0).setCell ⟨g, 1, none⟩ v1).setCell ⟨g, 2, none⟩ v2).setCell ⟨g, 3, none⟩ v3).setCell ⟨g, 4, none⟩ v4).setCell ⟨g, 5, none⟩ v5).setCell ⟨g, 6, none⟩ v6) g t #[v0, v1, v2, v3, v4, v5, v6] := h5.set_ 6 v6
  have b6 : Below B w ((((((((W).setCell ⟨g, 0, none⟩ v0).setCell ⟨g, 1, none⟩ v1).setCell ⟨g, 2, none⟩ v2).setCell ⟨g, 3, none⟩ v3).setCell ⟨g, 4, none⟩ v4).setCell ⟨g, 5, none⟩ v5).setCell ⟨g, 6, none⟩ v6) := b5.setCell (p := ⟨g, 6, none⟩) hg v6
  exact ⟨h6, b6⟩
theorem ret7_theirs {fn : Func} {p : Tmp} (h : fn.results = #[.cell p 35]) (tmps : Array Value) (W : World) (g : Nat) (t : TypeId) {v0 v1 v2 v3 v4 v5 v6 : Value} (hp : tmps.getD p undef = .pointer (some ⟨g, 0, none⟩)) (hg : Box W g t #[v0, v1, v2, v3, v4, v5, v6]) :
    (results fn tmps).run Tryd.prog W = .ok (.agg #[v0, v1, v2, v3, v4, v5, v6]) W :=
  results_cell_row h tmps W g t #[v0, v1, v2, v3, v4, v5, v6] (0, 0) _ hp hg Tryd.underlying35 rfl (by kernel_rfl)
theorem ret7_ours {fn : Func} {p : Tmp} (h : fn.results = #[.cell p 28]) (tmps : Array Value) (W : World) (g : Nat) (t : TypeId) {v0 v1 v2 v3 v4 v5 v6 : Value} (hp : tmps.getD p undef = .pointer (some ⟨g, 0, none⟩)) (hg : Box W g t #[v0, v1, v2, v3, v4, v5, v6]) :
    (results fn tmps).run Tryd.prog W = .ok (.agg #[v0, v1, v2, v3, v4, v5, v6]) W :=
  results_cell_row h tmps W g t #[v0, v1, v2, v3, v4, v5, v6] (0, 0) _ hp hg Tryd.underlying28 rfl (by kernel_rfl)
set_option maxRecDepth 100000 in
set_option maxHeartbeats 4000000 in
theorem theirs_c (s : S6) (A : Option Addr) (n c : Nat) (w : World) : Calls Tryd.prog 11 #[stV s A n c] w fun e w' => e = .returned (stV s A n c) ∧ Below w.heap.size w w' := by
  have hX := two_sevens w 28 35 (stCells s A n c) (stCells s A n c)
  unfold stCells at hX
  have HX := Lib.hid hX
  clear hX
  simp only [stV_eq]
  go_enter Tryd.func11, Tryd.ntmps11
  go_wp2_with fail
  exact bodyPost_ret (ret7_theirs rfl _ _ (w.heap.size + 1) _ rfl HX.out.2.1) rfl ⟨rfl, HX.out.2.2⟩
set_option maxRecDepth 100000 in
set_option maxHeartbeats 4000000 in
theorem ours_c (s : S6) (A : Option Addr) (n c : Nat) (w : World) : Calls Tryd.prog 15 #[stV s A n c] w fun e w' => e = .returned (stV s A n c) ∧ Below w.heap.size w w' := by
  have hX := two_sevens w 35 28 (stCells s A n c) (stCells s A n c)
  unfold stCells at hX
  have HX := Lib.hid hX
  clear hX
  simp only [stV_eq]
  go_enter Tryd.func15, Tryd.ntmps15
  go_wp2_with fail
  exact bodyPost_ret (ret7_ours rfl _ _ (w.heap.size + 1) _ rfl HX.out.2.1) rfl ⟨rfl, HX.out.2.2⟩
set_option maxRecDepth 100000 in
set_option maxHeartbeats 4000000 in
theorem same6_c (s : S6) (A1 A2 : Option Addr) (es1 es2 : List El) (c1 c2 : Nat) (w : World) (h1 : InS w A1 c1 es1 s) (h2 : InS w A2 c2 es2 s) : Calls Tryd.prog 10 #[stV s A1 es1.length c1, stV s A2 es2.length c2] w fun e w' => e = .returned (.bool true) ∧ Below w.heap.size w w' := by
  obtain ⟨hA, hB, hbel⟩ := two_sevens w 35 35 (stCells s A1 es1.length c1) (stCells s A2 es2.length c2)
  have a0 := hA.cell 0
  have a1 := hA.cell 1
  have a2 := hA.cell 2
  have a3 := hA.cell 3
  have a4 := hA.cell 4
  have a5 := hA.cell 5
  have a6 := hA.cell 6
  have d0 := hB.cell 0
  have d1 := hB.cell 1
  have d2 := hB.cell 2
  have d3 := hB.cell 3
  have d4 := hB.cell 4
  have d5 := hB.cell 5
  have d6 := hB.cell 6
  have hl : es1.length = es2.length := by rw [← qs_length, ← qs_length, h1.reads, h2.reads]
  have hs := same_c A1 A2 es1 es2 c1 c2 _ (h1.inp.on hbel).nest (h2.inp.on hbel).nest h1.inp.len h2.inp.len
  rw [decide_eq_true (h1.reads.trans h2.reads.symm)] at hs
  have HB := Lib.hid (And.intro hA (And.intro hB hbel))
  unfold stCells at *
  simp only [stV_eq]
  clear hA hB hl h1 h2
  go_enter Tryd.func10, Tryd.ntmps10
  go_wp2_with fail
  refine hs.mono ?_
  rintro e w1 ⟨rfl, hb1⟩
  obtain ⟨hA, hB, hbel'⟩ := HB.out
  have hA1 := hA.below hb1 hA.lt
  have hB1 := hB.below hb1 hB.lt
  have g4 := hA1.cell 5
  have g5 := hA1.cell 6
  have k4 := hB1.cell 5
  have k5 := hB1.cell 6
  have hbel1 := hbel'.trans (hb1.mono hbel'.size)
  clear hs hb1 hA hB hA1 hB1 a0 a1 a2 a3 a4 a5 a6 d0 d1 d2 d3 d4 d5 d6 hbel hbel' HB
  go_wp2_with fail
  go_ret
  exact ⟨rfl, hbel1⟩
end Go.Proofs.YtiaippdaogmcmaaDoor

namespace Go.Proofs.YtiaippdaogmcmaaDoor
open Go Go.RowKit
set_option linter.unusedVariables false
set_option linter.unusedSimpArgs false

theorem plain_eq {a b : AcE} (h : a.plain = b.plain) : a.what = b.what ∧ a.r = b.r ∧ a.fin = b.fin ∧ a.inter = b.inter ∧ qs a.es = qs b.es ∧ a.text = b.text := by
  unfold AcE.plain at h
  injection h with h1 h2 h3 h4 h5 h6
  exact ⟨h1, h2, h3, h4, h5, h6⟩
set_option maxRecDepth 100000 in
set_option maxHeartbeats 4000000 in
theorem actions_c (A1 A2 : Option Addr) (c1 c2 : Nat) (l1 l2 : List AcE) (w : World) (h1 : InA w A1 c1 l1) (h2 : InA w A2 c2 l2) (he : acts l1 = acts l2) : Calls Tryd.prog 12 #[.slice A1 l1.length c1, .slice A2 l2.length c2] w fun e w' => e = .returned (.bool true) ∧ Below w.heap.size w w' := by
  have hl : l1.length = l2.length := by rw [← acts_len, ← acts_len, he]
  have hm := Nat.le_trans h1.cap h1.max
  unfold maxLen at hm
  rw [← hl]
  have HE := Lib.hid he
  have HL := Lib.hid hl
  have hc1 := h1.cap
  have hc2 : l1.length ≤ c2 := by rw [hl]; exact h2.cap
  clear he hl
  go_enter Tryd.func12, Tryd.ntmps12
  go_wp2_with fail
  go_loopw [5] (fun u5 wr => ∃ k : Nat, k ≤ l1.length ∧ u5 = .int .i64 (k : Int) ∧ Below w.heap.size w wr) (fun u5 _ => l1.length - (intOf u5).toNat)
  case atStart => exact ⟨0, Nat.zero_le _, rfl, Below.refl _ _⟩
  case round =>
    obtain ⟨k, hk, rfl, hbel⟩ := hrel
    by_cases hlt : k < l1.length
    · have g1 : l1[k]? = some l1[k] := List.getElem?_eq_getElem hlt
      have g2 : l2[k]? = some (l2[k]'(by rw [← HL.out]; exact hlt)) := List.getElem?_eq_getElem _
      generalize l1[k] = e1 at g1
      generalize (l2[k]'(by rw [← HL.out]; exact hlt)) = e2 at g2
      have hpl : e1.plain = e2.plain := by
        have q1 : (acts l1)[k]? = some e1.plain := by simp [acts, g1]
        have q2 : (acts l2)[k]? = some e2.plain := by simp [acts, g2]
        rw [HE.out, q2] at q1
        injection q1 with q1
        exact q1.symm
      obtain ⟨p1, p2, p3, p4, p5, p6⟩ := plain_eq hpl
      obtain ⟨b1, o1, rfl, hb1, a0, a1, a2, a3, a4, a5, i1⟩ := (h1.on hbel).at_ g1
      obtain ⟨b2, o2, rfl, hb2, d0, d1, d2, d3, d4, d5, i2⟩ := (h2.on hbel).at_ g2
      rw [← p1] at d0
      rw [← p2] at d1
      rw [← p3] at d2
      rw [← p4] at d3
      rw [← p6] at d5
      have z1 : (k : Int) < (l1.length : Int) := by omega
      have HP := Lib.hid p5
      have HI1 := Lib.hid i1
      have HI2 := Lib.hid i2
      clear g1 g2 hpl p1 p2 p3 p4 p5 p6 i1 i2
      have hal : Below wr.heap.size wr ((wr.alloc (.cells #[.int .i64 e1.what, .int .i64 e1.r, .int .u8 (e1.fin : Int), .string (strS e1.inter), .slice e1.A e1.es.length e1.c, .string (strS e1.text)] 44)).alloc (.cells #[.int .i64 e1.what, .int .i64 e1.r, .int .u8 (e1.fin : Int), .string (strS e1.inter), .slice e2.A e2.es.length e2.c, .string (strS e1.text)] 44)) := ((Below.refl _ _).alloc (Nat.le_refl _) _).alloc (by simp) _
      have hs := same_c e1.A e2.A e1.es e2.es e1.c e2.c _ (HI1.out.on hal).nest (HI2.out.on hal).nest HI1.out.len HI2.out.len
      rw [decide_eq_true HP.out] at hs
      have hbel2 := hbel.trans (hal.mono hbel.size)
      have HS := Lib.hid hs
      have HB := Lib.hid hbel2
      clear hal hs hbel2
      go_wp2_with fail
      refine HS.out.mono ?_
      rintro e w1 ⟨rfl, hb1⟩
      have hbel3 := HB.out.trans (hb1.mono HB.out.size)
      clear hb1 HS HB a0 a1 a2 a3 a4 a5 d0 d1 d2 d3 d4 d5
      go_wp2_with fail
      exact ⟨⟨k + 1, by omega, by go_num, hbel3⟩, by simp [intOf]; omega⟩
    · obtain rfl : k = l1.length := by omega
      have z1 : ¬ (l1.length : Int) < (l1.length : Int) := by omega
      go_wp2_with fail
      go_ret
      exact ⟨rfl, hbel⟩
end Go.Proofs.YtiaippdaogmcmaaDoor
