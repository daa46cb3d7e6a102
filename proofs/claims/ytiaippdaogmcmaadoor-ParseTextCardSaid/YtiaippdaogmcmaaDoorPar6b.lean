/- Package parse: what ends a sequence, what adds to numbers; by contracts. Package parse: what the end of a sequence tells. -/
import Derived.Test.YtiaippdaogmcmaaDoorPar6a
import Derived.Test.YtiaippdaogmcmaaDoorP5Calls
namespace Go.Proofs.YtiaippdaogmcmaaDoor
open Go Go.RowKit
set_option linter.unusedVariables false
set_option linter.unusedSimpArgs false

set_option maxRecDepth 100000 in
theorem numbered_c (A : Option Addr) (c : Nat) (es : List El) (o : Bool) (k : Nat) (w : World) (hk : isByte k) (hin : InP w A c es) :
    Calls Tryd.prog 54 #[.agg #[.slice A es.length c, .bool o], .int .u8 (k : Int)] w (GivesQ (stepP ⟨qs es, o⟩ k) A es w) := by
  obtain ⟨hB0, hB1, hbel⟩ := two_lists w (.slice A es.length c) (.bool o) (.slice none 0 0) (.bool false)
  have a0 := hB0.cell 0
  have a1 := hB0.cell 1
  have h0 : k < 256 := by unfold isByte isDig at hk; omega
  have HI := Lib.hid hin
  have HK := Lib.hid hk
  clear hk hin
  by_cases h1 : k = 59
  · have e1 : ((k : Int) == 59) = true := beq_iff_eq.2 (by omega)
    have e : stepP ⟨qs es, o⟩ k = nextP ⟨qs es, o⟩ := by unfold stepP; rw [if_pos h1]
    rw [e]
    have hst := next_c A c es o _ (HI.out.on hbel)
    clear e h1 h0
    generalize nextP ⟨qs es, o⟩ = p at *
    have HC := Lib.hid (And.intro hB1 hbel)
    clear hB0 hB1 hbel HK
    go_enter Tryd.func54, Tryd.ntmps54
    go_wp2_with fail
    refine hst.mono ?_
    rintro e w1 ⟨A4, c4, es4, rfl, hi4, hq4, hoff4, hb4⟩
    have hres := HC.out.1.below hb4 HC.out.1.lt
    have r0 := hres.cell 0
    have r1 := hres.cell 1
    have f0 := hres.free 0
    have f1 := hres.free 1
    have hp := put_gives (A := A) (es := es) p.o HC.out.1 (Nat.le_succ _) HC.out.2 HI.out hi4 hoff4 hb4
    have HX := Lib.hid (And.intro hp hq4)
    clear hp hb4 hi4 hq4 hoff4 hres hst a0 a1 HC
    go_wp2_with fail
    exact bodyPost_ret (ret_list rfl (.slice A4 es4.length c4) (.bool p.o) _ _ (w.heap.size + 1) _ rfl HX.out.1.1) rfl ⟨A4, c4, es4, rfl, HX.out.1.2.1, HX.out.2, HX.out.1.2.2.1, HX.out.1.2.2.2⟩
  have e1 : ((k : Int) == 59) = false := beq_eq_false_iff_ne.2 (by omega)
  by_cases h2 : k = 58
  · have e2 : ((k : Int) == 58) = true := beq_iff_eq.2 (by omega)
    have e : stepP ⟨qs es, o⟩ k = subP ⟨qs es, o⟩ := by unfold stepP; rw [if_neg h1, if_pos h2]
    rw [e]
    have hst := sub_c A c es o _ (HI.out.on hbel)
    clear e h1 h2 h0
    generalize subP ⟨qs es, o⟩ = p at *
    have HC := Lib.hid (And.intro hB1 hbel)
    clear hB0 hB1 hbel HK
    go_enter Tryd.func54, Tryd.ntmps54
    go_wp2_with fail
    refine hst.mono ?_
    rintro e w1 ⟨A4, c4, es4, rfl, hi4, hq4, hoff4, hb4⟩
    have hres := HC.out.1.below hb4 HC.out.1.lt
    have r0 := hres.cell 0
    have r1 := hres.cell 1
    have f0 := hres.free 0
    have f1 := hres.free 1
    have hp := put_gives (A := A) (es := es) p.o HC.out.1 (Nat.le_succ _) HC.out.2 HI.out hi4 hoff4 hb4
    have HX := Lib.hid (And.intro hp hq4)
    clear hp hb4 hi4 hq4 hoff4 hres hst a0 a1 HC
    go_wp2_with fail
    exact bodyPost_ret (ret_list rfl (.slice A4 es4.length c4) (.bool p.o) _ _ (w.heap.size + 1) _ rfl HX.out.1.1) rfl ⟨A4, c4, es4, rfl, HX.out.1.2.1, HX.out.2, HX.out.1.2.2.1, HX.out.1.2.2.2⟩
  · have e2 : ((k : Int) == 58) = false := beq_eq_false_iff_ne.2 (by omega)
    have e : stepP ⟨qs es, o⟩ k = digitP k ⟨qs es, o⟩ := by unfold stepP; rw [if_neg h1, if_neg h2]
    rw [e]
    have hst := digit_c A c es o k _ h0 (HI.out.on hbel)
    clear e h1 h2 h0
    generalize digitP k ⟨qs es, o⟩ = p at *
    have HC := Lib.hid (And.intro hB1 hbel)
    clear hB0 hB1 hbel HK
    go_enter Tryd.func54, Tryd.ntmps54
    go_wp2_with fail
    refine hst.mono ?_
    rintro e w1 ⟨A4, c4, es4, rfl, hi4, hq4, hoff4, hb4⟩
    have hres := HC.out.1.below hb4 HC.out.1.lt
    have r0 := hres.cell 0
    have r1 := hres.cell 1
    have f0 := hres.free 0
    have f1 := hres.free 1
    have hp := put_gives (A := A) (es := es) p.o HC.out.1 (Nat.le_succ _) HC.out.2 HI.out hi4 hoff4 hb4
    have HX := Lib.hid (And.intro hp hq4)
    clear hp hb4 hi4 hq4 hoff4 hres hst a0 a1 HC
    go_wp2_with fail
    exact bodyPost_ret (ret_list rfl (.slice A4 es4.length c4) (.bool p.o) _ _ (w.heap.size + 1) _ rfl HX.out.1.1) rfl ⟨A4, c4, es4, rfl, HX.out.1.2.1, HX.out.2, HX.out.1.2.2.1, HX.out.1.2.2.2⟩
end Go.Proofs.YtiaippdaogmcmaaDoor

namespace Go.Proofs.YtiaippdaogmcmaaDoor
open Go Go.RowKit
set_option linter.unusedVariables false
set_option linter.unusedSimpArgs false

/-- An action in a block of its own. -/
theorem InA.new1 {W : World} {e : AcE} {T : TypeId} (hp : InP W e.A e.c e.es) :
    InA (W.alloc (.cells #[.int .i64 e.what, .int .i64 e.r, .int .u8 (e.fin : Int), .string (strS e.inter), .slice e.A e.es.length e.c, .string (strS e.text)] T)) (some ⟨W.heap.size, 0, none⟩) 1 [e] := by
  have hb := Box.new W T #[.int .i64 e.what, .int .i64 e.r, .int .u8 (e.fin : Int), .string (strS e.inter), .slice e.A e.es.length e.c, .string (strS e.text)]
  refine ⟨fun _ => ⟨W.heap.size, 0, rfl, hb.lt, fun k x hk j u hu => ?_⟩, ?_, by simp, by decide⟩
  · have hk0 : k = 0 := by have := (List.getElem?_eq_some_iff.1 hk).1; simp at this; omega
    subst hk0
    simp at hk
    subst hk
    have h := hb.cell j
    rw [show 0 + 0 * 6 + j = j from by omega]
    rw [h, ← hu]
    unfold acCells
    simp
  · intro x hx
    simp at hx
    subst hx
    exact hp.on ((Below.refl _ _).alloc (Nat.le_refl _) _)
/-- The ground state, and an action. -/
def Tell1 (e : AcE) (w : World) (x : Ending) (w' : World) : Prop := ∃ g, w.heap.size ≤ g ∧ x = .returned (.tuple #[stV zeroS none 0 0, .slice (some ⟨g, 0, none⟩) 1 1]) ∧ InA w' (some ⟨g, 0, none⟩) 1 [e] ∧ Below w.heap.size w w'
set_option maxRecDepth 100000 in
set_option maxHeartbeats 1000000 in
theorem finished_no (s : S6) (A : Option Addr) (n c : Nat) (e : AcE) (w : World) (ho : s.over = true) :
    Calls Tryd.prog 53 #[stV s A n c, .agg #[.int .i64 e.what, .int .i64 e.r, .int .u8 (e.fin : Int), .string (strS e.inter), .slice e.A e.es.length e.c, .string (strS e.text)]] w fun x w' => x = .returned (.tuple #[stV zeroS none 0 0, .slice none 0 0]) ∧ Below w.heap.size w w' := by
  obtain ⟨sa, si, so, sp, st, sk⟩ := s
  simp only at ho
  subst ho
  have hal : Below w.heap.size w ((w.alloc (.cells (stCells ⟨sa, si, true, sp, st, sk⟩ A n c) 28)).alloc (.cells #[.int .i64 e.what, .int .i64 e.r, .int .u8 (e.fin : Int), .string (strS e.inter), .slice e.A e.es.length e.c, .string (strS e.text)] 44)) := ((Below.refl _ _).alloc (Nat.le_refl _) _).alloc (by simp) _
  have hbx := Box.new ((w.alloc (.cells (stCells ⟨sa, si, true, sp, st, sk⟩ A n c) 28)).alloc (.cells #[.int .i64 e.what, .int .i64 e.r, .int .u8 (e.fin : Int), .string (strS e.inter), .slice e.A e.es.length e.c, .string (strS e.text)] 44)) 28 (stCells zeroS none 0 0)
  have hs2 : ((w.alloc (.cells (stCells ⟨sa, si, true, sp, st, sk⟩ A n c) 28)).alloc (.cells #[.int .i64 e.what, .int .i64 e.r, .int .u8 (e.fin : Int), .string (strS e.inter), .slice e.A e.es.length e.c, .string (strS e.text)] 44)).heap.size = w.heap.size + 2 := by simp
  rw [hs2] at hbx
  have hb2 := hal.alloc hal.size (.cells (stCells zeroS none 0 0) 28)
  have HX := Lib.hid (And.intro hbx hb2)
  clear hal hbx hb2 hs2
  simp only [stV_eq]
  go_enter Tryd.func53, Tryd.ntmps53
  go_wp2_with fail
  exact bodyPost_ret (ret_s2 rfl zeroS none 0 0 _ _ (w.heap.size + 2) _ _ rfl rfl HX.out.1) rfl ⟨by simp only [stV_eq]; rfl, HX.out.2⟩
set_option maxRecDepth 100000 in
set_option maxHeartbeats 1000000 in
theorem finished_one (s : S6) (A : Option Addr) (n c : Nat) (e : AcE) (w : World) (he : InP w e.A e.c e.es) (ho : s.over = false) :
    Calls Tryd.prog 53 #[stV s A n c, .agg #[.int .i64 e.what, .int .i64 e.r, .int .u8 (e.fin : Int), .string (strS e.inter), .slice e.A e.es.length e.c, .string (strS e.text)]] w (Tell1 e w) := by
  obtain ⟨sa, si, so, sp, st, sk⟩ := s
  simp only at ho
  subst ho
  simp only [stV_eq]
  go_enter Tryd.func53, Tryd.ntmps53
  go_upto_region 3 with fail
  have hbel : Below w.heap.size w (((w.alloc (.cells #[.int .i64 sa, .string (strS si), .bool false, .slice A n c, .bool sp.o, .string (strS st), .int .u8 (sk : Int)] 28)).alloc (.cells #[.int .i64 e.what, .int .i64 e.r, .int .u8 (e.fin : Int), .string (strS e.inter), .slice e.A e.es.length e.c, .string (strS e.text)] 44)).alloc (.cells #[.int .i64 0, .string ⟨#[]⟩, .bool false, .slice none 0 0, .bool false, .string ⟨#[]⟩, .int .u8 0] 28)) := (((Below.refl _ _).alloc (Nat.le_refl _) _).alloc (by simp) _).alloc (by simp; omega) _
  have hE : Box (((w.alloc (.cells #[.int .i64 sa, .string (strS si), .bool false, .slice A n c, .bool sp.o, .string (strS st), .int .u8 (sk : Int)] 28)).alloc (.cells #[.int .i64 e.what, .int .i64 e.r, .int .u8 (e.fin : Int), .string (strS e.inter), .slice e.A e.es.length e.c, .string (strS e.text)] 44)).alloc (.cells #[.int .i64 0, .string ⟨#[]⟩, .bool false, .slice none 0 0, .bool false, .string ⟨#[]⟩, .int .u8 0] 28)) (w.heap.size + 1) 44 #[.int .i64 e.what, .int .i64 e.r, .int .u8 (e.fin : Int), .string (strS e.inter), .slice e.A e.es.length e.c, .string (strS e.text)] := (two_new w 28 44 #[.int .i64 sa, .string (strS si), .bool false, .slice A n c, .bool sp.o, .string (strS st), .int .u8 (sk : Int)] #[.int .i64 e.what, .int .i64 e.r, .int .u8 (e.fin : Int), .string (strS e.inter), .slice e.A e.es.length e.c, .string (strS e.text)]).2.1.alloc _
  have hR : Box (((w.alloc (.cells #[.int .i64 sa, .string (strS si), .bool false, .slice A n c, .bool sp.o, .string (strS st), .int .u8 (sk : Int)] 28)).alloc (.cells #[.int .i64 e.what, .int .i64 e.r, .int .u8 (e.fin : Int), .string (strS e.inter), .slice e.A e.es.length e.c, .string (strS e.text)] 44)).alloc (.cells #[.int .i64 0, .string ⟨#[]⟩, .bool false, .slice none 0 0, .bool false, .string ⟨#[]⟩, .int .u8 0] 28)) (w.heap.size + 1 + 1) 28 #[.int .i64 0, .string ⟨#[]⟩, .bool false, .slice none 0 0, .bool false, .string ⟨#[]⟩, .int .u8 0] := by
    have h := Box.new ((w.alloc (.cells #[.int .i64 sa, .string (strS si), .bool false, .slice A n c, .bool sp.o, .string (strS st), .int .u8 (sk : Int)] 28)).alloc (.cells #[.int .i64 e.what, .int .i64 e.r, .int .u8 (e.fin : Int), .string (strS e.inter), .slice e.A e.es.length e.c, .string (strS e.text)] 44)) 28 #[.int .i64 0, .string ⟨#[]⟩, .bool false, .slice none 0 0, .bool false, .string ⟨#[]⟩, .int .u8 0]
    simp only [World.alloc, Array.size_push] at h ⊢
    exact h
  generalize ((w.alloc (.cells #[.int .i64 sa, .string (strS si), .bool false, .slice A n c, .bool sp.o, .string (strS st), .int .u8 (sk : Int)] 28)).alloc (.cells #[.int .i64 e.what, .int .i64 e.r, .int .u8 (e.fin : Int), .string (strS e.inter), .slice e.A e.es.length e.c, .string (strS e.text)] 44)).alloc (.cells #[.int .i64 0, .string ⟨#[]⟩, .bool false, .slice none 0 0, .bool false, .string ⟨#[]⟩, .int .u8 0] 28) = W at *
  have hRs : w.heap.size + 1 + 1 < W.heap.size := hR.lt
  obtain ⟨e0, e1, e2, e3, e4, e5⟩ : W.cell? ⟨w.heap.size + 1, 0, none⟩ = some (.int .i64 e.what) ∧ W.cell? ⟨w.heap.size + 1, 1, none⟩ = some (.int .i64 e.r) ∧ W.cell? ⟨w.heap.size + 1, 2, none⟩ = some (.int .u8 (e.fin : Int)) ∧ W.cell? ⟨w.heap.size + 1, 3, none⟩ = some (.string (strS e.inter)) ∧ W.cell? ⟨w.heap.size + 1, 4, none⟩ = some (.slice e.A e.es.length e.c) ∧ W.cell? ⟨w.heap.size + 1, 5, none⟩ = some (.string (strS e.text)) :=
    ⟨hE.cell 0, hE.cell 1, hE.cell 2, hE.cell 3, hE.cell 4, hE.cell 5⟩
  have k0 := Ext.cell (w := W) (B := w.heap.size + 1 + 1) (p := ⟨w.heap.size + 1, 0, none⟩) (Nat.lt_succ_self _) e0
  have k1 := Ext.cell (w := W) (B := w.heap.size + 1 + 1) (p := ⟨w.heap.size + 1, 1, none⟩) (Nat.lt_succ_self _) e1
  have k2 := Ext.cell (w := W) (B := w.heap.size + 1 + 1) (p := ⟨w.heap.size + 1, 2, none⟩) (Nat.lt_succ_self _) e2
  have k3 := Ext.cell (w := W) (B := w.heap.size + 1 + 1) (p := ⟨w.heap.size + 1, 3, none⟩) (Nat.lt_succ_self _) e3
  have k4 := Ext.cell (w := W) (B := w.heap.size + 1 + 1) (p := ⟨w.heap.size + 1, 4, none⟩) (Nat.lt_succ_self _) e4
  have k5 := Ext.cell (w := W) (B := w.heap.size + 1 + 1) (p := ⟨w.heap.size + 1, 5, none⟩) (Nat.lt_succ_self _) e5
  have HH := Lib.hid (And.intro hbel hR)
  clear hbel hE hR e0 e1 e2 e3 e4 e5
  refine region_plan2 [([0, 1], [])] 2 2 3 [([], [3]), ([4], [])] [([], [2]), ([4], [])] (fun w' => ∃ u : Ext W (w.heap.size + 1 + 1), w' = u.val) (by kernel_rfl) (by kernel_rfl) (fun _ _ _ _ _ h => h) ⟨⟨_, (Below.refl _ _).drew⟩, rfl⟩ ?_
  simp only [wpPlanK, sel, List.take_succ_cons, List.take_zero, List.drop_succ_cons, List.drop_zero, List.cons_append, List.nil_append]
  repeat (go_big_quiet_step (fail))
  refine wpQuiet_nil ?_
  simp only [wpChain, wpPlanK]
  clear k0 k1 k2 k3 k4 k5
  obtain ⟨hbel, hR⟩ := HH.out
  clear HH
  have hX := hR.sto7 hbel (by omega : w.heap.size ≤ w.heap.size + 1 + 1) (.int .i64 0) (.string ⟨#[]⟩) (.bool false) (.slice none 0 0) (.bool false) (.string ⟨#[]⟩) (.int .u8 0)
  have hY := (hR.sto7 (Below.refl (w.heap.size + 1 + 1) W) (Nat.le_refl _) (.int .i64 0) (.string ⟨#[]⟩) (.bool false) (.slice none 0 0) (.bool false) (.string ⟨#[]⟩) (.int .u8 0)).2
  have hsz : W.heap.size = (set7 W (w.heap.size + 1 + 1) (.int .i64 0) (.string ⟨#[]⟩) (.bool false) (.slice none 0 0) (.bool false) (.string ⟨#[]⟩) (.int .u8 0)).heap.size := by simp [set7, World.setCell]
  have hA : Below (w.heap.size + 1 + 1) W (W.drew.alloc (.cells #[.int .i64 e.what, .int .i64 e.r, .int .u8 (e.fin : Int), .string (strS e.inter), .slice e.A e.es.length e.c, .string (strS e.text)] 44)) := ((Below.refl _ W).drew).alloc (Nat.le_of_lt hRs) _
  have hI := InA.new1 (T := 44) (he.on hX.2)
  rw [← hsz] at hI
  have hJ := hI.on (Below.refl _ _).drew
  have hB2 := (hX.2.alloc (by rw [← hsz]; omega) (.cells #[.int .i64 e.what, .int .i64 e.r, .int .u8 (e.fin : Int), .string (strS e.inter), .slice e.A e.es.length e.c, .string (strS e.text)] 44)).drew
  have hY2 := (hY.alloc (by rw [← hsz]; omega) (.cells #[.int .i64 e.what, .int .i64 e.r, .int .u8 (e.fin : Int), .string (strS e.inter), .slice e.A e.es.length e.c, .string (strS e.text)] 44)).drew
  have hR2 := (hX.1.alloc (.cells #[.int .i64 e.what, .int .i64 e.r, .int .u8 (e.fin : Int), .string (strS e.inter), .slice e.A e.es.length e.c, .string (strS e.text)] 44)).drew
  obtain ⟨c0, c1, c2, c3, c4, c5, c6⟩ := hR.cells7s
  obtain ⟨f0, f1, f2, f3, f4, f5, f6⟩ := hR.free7s
  have HX := Lib.hid (And.intro hA (And.intro hY.drew (And.intro hY2 (And.intro hR2 (And.intro hJ hB2)))))
  clear hX hY hI hB2 hY2 hR2 hJ hbel hR he hsz hA
  refine ⟨?_, ?_⟩
  · go_wp2_with fail
    refine ⟨⟨⟨_, HX.out.1⟩, rfl⟩, ?_⟩
    simp only [wpPlan, sel, List.take_succ_cons, List.take_zero, List.drop_succ_cons, List.drop_zero, List.cons_append, List.nil_append]
    refine wpQuiet_nil ?_
    unfold wpChain
    go_wp2_with fail
    refine ⟨⟨⟨_, HX.out.2.2.1⟩, rfl⟩, ?_⟩
    unfold wpChain
    repeat (go_big_quiet_step (fail))
    refine wpQuiet_nil ?_
    unfold wpChain
    go_wp2_with fail
    exact bodyPost_ret (ret_s2 rfl zeroS none 0 0 _ _ (w.heap.size + 1 + 1) _ _ rfl rfl HX.out.2.2.2.1) rfl ⟨W.heap.size, by omega, rfl, HX.out.2.2.2.2.1, HX.out.2.2.2.2.2⟩
  · go_wp2_with fail
    refine ⟨⟨⟨_, HX.out.2.1⟩, rfl⟩, ?_⟩
    simp only [wpPlan, sel, List.take_succ_cons, List.take_zero, List.drop_succ_cons, List.drop_zero, List.cons_append, List.nil_append]
    refine wpQuiet_nil ?_
    unfold wpChain
    go_wp2_with fail
    refine ⟨⟨⟨_, HX.out.2.2.1⟩, rfl⟩, ?_⟩
    unfold wpChain
    repeat (go_big_quiet_step (fail))
    refine wpQuiet_nil ?_
    unfold wpChain
    go_wp2_with fail
    exact bodyPost_ret (ret_s2 rfl zeroS none 0 0 _ _ (w.heap.size + 1 + 1) _ _ rfl rfl HX.out.2.2.2.1) rfl ⟨W.heap.size, by omega, rfl, HX.out.2.2.2.2.1, HX.out.2.2.2.2.2⟩
end Go.Proofs.YtiaippdaogmcmaaDoor
