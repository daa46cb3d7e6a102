/- Package parse: inside a string. Package parse: outside of strings. -/
import Derived.Test.YtiaippdaogmcmaaDoorPar6a
import Derived.Test.YtiaippdaogmcmaaDoorUtfPut
import Derived.Test.YtiaippdaogmcmaaDoorPar6c
namespace Go.Proofs.YtiaippdaogmcmaaDoor
open Go Go.RowKit
set_option linter.unusedVariables false
set_option linter.unusedSimpArgs false

theorem nums_str (l : List Nat) : strOfNums (l.map Int.ofNat) = strS l := by
  unfold strOfNums strS
  apply ByteArray.ext
  simp
theorem conv6_c (A : Option Addr) (bs : List Nat) (c : Nat) (w : World) (h : Byt w w.heap.size A bs) : (convert 49 9 (.slice A bs.length c)).run Tryd.prog w = .ok (.string (strS bs)) w := by
  rw [← nums_str]
  by_cases hne : bs = []
  · subst hne
    cases A with
    | none => exact run_convert_bytes_nil w 49 5 Tryd.underlying49 Tryd.underlying5 0 c 9 Tryd.underlying9
    | some a =>
      have hl : (loadCells a 0).run Tryd.prog w = .ok (([] : List Int).map (Value.int .u8)).toArray w := run_loadCells_list w a [] (fun j v hj => by simp at hj)
      show (convert 49 9 (.slice (some a) 0 c)).run Tryd.prog w = _
      rw [run_convert_bytes_string w 49 9 5 (some a) 0 c Tryd.underlying49 Tryd.underlying5 Tryd.underlying9, run_bytesToString w a 0 c [] hl]
      rfl
  · obtain ⟨b, o, rfl, hb, h0⟩ := h hne
    exact run_convert_bytes_arg w 49 5 Tryd.underlying49 Tryd.underlying5 b o bs.length c (bs.map Int.ofNat) (by simp) (by
      intro i hi
      have hx : bs[i]? = some bs[i] := List.getElem?_eq_getElem hi
      rw [h0 i _ hx]
      simp [List.getD, hx, byteV]) 9 Tryd.underlying9
/-- What stands inside a string. -/
def inS (s : S6) (r : Int) : S6 := if (0 ≤ r ∧ r < 32) ∨ r = 127 then s else addS s r
set_option maxRecDepth 100000 in
set_option maxHeartbeats 2000000 in
theorem inside_ctl (s : S6) (A : Option Addr) (n c : Nat) (r : Int) (w : World) (hr : 0 ≤ r ∧ r < 32) : Calls Tryd.prog 33 #[stV s A n c, .int .i64 r] w fun e w' => e = .returned (stV s A n c) ∧ Below w.heap.size w w' := by
  have HH := Lib.hid (two_sts w 28 s A n c)
  have hct : ∀ V, Calls Tryd.prog 43 #[.int .i64 r] V fun e w' => e = .returned (.bool true) ∧ w' = V := fun V => by
    have h := isControl_c r V
    rw [show ctlB r = true from decide_eq_true (by omega)] at h
    exact h
  clear hr
  simp only [stV_eq s]
  go_enter Tryd.func33, Tryd.ntmps33
  go_upto_region 1 with fail
  obtain ⟨hA, hB, hbel, hsz⟩ := HH.out
  clear HH
  generalize (w.alloc (.cells #[.int .i64 s.at_, .string (strS s.inter), .bool s.over, .slice A n c, .bool s.par.o, .string (strS s.text), .int .u8 (s.kind : Int)] 28)).alloc (.cells #[.int .i64 0, .string ⟨#[]⟩, .bool false, .slice none 0 0, .bool false, .string ⟨#[]⟩, .int .u8 0] 28) = W at *
  obtain ⟨a0, a1, a2, a3, a4, a5, a6⟩ := hA.st'
  have HB := Lib.hid (And.intro hA (And.intro hB hbel))
  clear hA hB hbel
  go_wp2_with fail
  refine (hct _).mono ?_
  rintro e w1 ⟨rfl, rfl⟩
  clear hct
  obtain ⟨c0, c1, c2, c3, c4, c5, c6⟩ := HB.out.2.1.cells7s
  obtain ⟨f0, f1, f2, f3, f4, f5, f6⟩ := HB.out.2.1.free7s
  have hX := HB.out.2.1.sto7 HB.out.2.2 (by omega : w.heap.size ≤ w.heap.size + 1) (.int .i64 s.at_) (.string (strS s.inter)) (.bool s.over) (.slice A n c) (.bool s.par.o) (.string (strS s.text)) (.int .u8 (s.kind : Int))
  have HX := Lib.hid hX
  clear hX HB
  go_wp2_with fail
  exact bodyPost_ret (ret_s1 rfl s A n c _ _ (w.heap.size + 1) _ rfl HX.out.1) rfl ⟨rfl, HX.out.2⟩
set_option maxRecDepth 100000 in
set_option maxHeartbeats 2000000 in
theorem inside_del (s : S6) (A : Option Addr) (n c : Nat) (r : Int) (w : World) (hr : r = 127) : Calls Tryd.prog 33 #[stV s A n c, .int .i64 r] w fun e w' => e = .returned (stV s A n c) ∧ Below w.heap.size w w' := by
  have HH := Lib.hid (two_sts w 28 s A n c)
  have hct : ∀ V, Calls Tryd.prog 43 #[.int .i64 r] V fun e w' => e = .returned (.bool false) ∧ w' = V := fun V => by
    have h := isControl_c r V
    rw [show ctlB r = false from decide_eq_false (by omega)] at h
    exact h
  have e1 : (r == 127) = true := beq_iff_eq.2 hr
  clear hr
  simp only [stV_eq s]
  go_enter Tryd.func33, Tryd.ntmps33
  go_upto_region 1 with fail
  obtain ⟨hA, hB, hbel, hsz⟩ := HH.out
  clear HH
  generalize (w.alloc (.cells #[.int .i64 s.at_, .string (strS s.inter), .bool s.over, .slice A n c, .bool s.par.o, .string (strS s.text), .int .u8 (s.kind : Int)] 28)).alloc (.cells #[.int .i64 0, .string ⟨#[]⟩, .bool false, .slice none 0 0, .bool false, .string ⟨#[]⟩, .int .u8 0] 28) = W at *
  obtain ⟨a0, a1, a2, a3, a4, a5, a6⟩ := hA.st'
  have HB := Lib.hid (And.intro hA (And.intro hB hbel))
  clear hA hB hbel
  go_wp2_with fail
  refine (hct _).mono ?_
  rintro e w1 ⟨rfl, rfl⟩
  clear hct
  obtain ⟨c0, c1, c2, c3, c4, c5, c6⟩ := HB.out.2.1.cells7s
  obtain ⟨f0, f1, f2, f3, f4, f5, f6⟩ := HB.out.2.1.free7s
  have hX := HB.out.2.1.sto7 HB.out.2.2 (by omega : w.heap.size ≤ w.heap.size + 1) (.int .i64 s.at_) (.string (strS s.inter)) (.bool s.over) (.slice A n c) (.bool s.par.o) (.string (strS s.text)) (.int .u8 (s.kind : Int))
  have HX := Lib.hid hX
  clear hX HB
  go_wp2_with fail
  exact bodyPost_ret (ret_s1 rfl s A n c _ _ (w.heap.size + 1) _ rfl HX.out.1) rfl ⟨rfl, HX.out.2⟩
set_option maxRecDepth 100000 in
set_option maxHeartbeats 2000000 in
theorem inside_add (s : S6) (A : Option Addr) (n c : Nat) (r : Int) (w : World) (hr : ¬ ((0 ≤ r ∧ r < 32) ∨ r = 127)) (h64 : I64 r) (ht : s.text.length ≤ 1024) : Calls Tryd.prog 33 #[stV s A n c, .int .i64 r] w fun e w' => e = .returned (stV (addS s r) A n c) ∧ Below w.heap.size w w' := by
  have HH := Lib.hid (two_sts w 28 s A n c)
  have hct : ∀ V, Calls Tryd.prog 43 #[.int .i64 r] V fun e w' => e = .returned (.bool false) ∧ w' = V := fun V => by
    have h := isControl_c r V
    rw [show ctlB r = false from decide_eq_false (by omega)] at h
    exact h
  have e1 : (r == 127) = false := beq_eq_false_iff_ne.2 (by omega)
  have hpt := fun V => put_c r V h64.1 h64.2
  have hpl := put_len r
  have hs1 : (strS s.text).size = s.text.length := strS_size _
  have hz : addS s r = if s.text.length + (putF r).length ≤ 1024 then { s with text := s.text ++ putF r } else s := rfl
  have HZ := Lib.hid hz
  generalize addS s r = y at *
  generalize putF r = bs at *
  clear hr h64 hz
  simp only [stV_eq s]
  go_enter Tryd.func33, Tryd.ntmps33
  go_upto_region 1 with fail
  obtain ⟨hA, hB, hbel, hsz⟩ := HH.out
  clear HH
  generalize (w.alloc (.cells #[.int .i64 s.at_, .string (strS s.inter), .bool s.over, .slice A n c, .bool s.par.o, .string (strS s.text), .int .u8 (s.kind : Int)] 28)).alloc (.cells #[.int .i64 0, .string ⟨#[]⟩, .bool false, .slice none 0 0, .bool false, .string ⟨#[]⟩, .int .u8 0] 28) = W at *
  obtain ⟨a0, a1, a2, a3, a4, a5, a6⟩ := hA.st'
  have HB := Lib.hid (And.intro hA (And.intro hB hbel))
  clear hA hB hbel
  go_wp2_with fail
  refine (hct _).mono ?_
  rintro e w1 ⟨rfl, rfl⟩
  clear hct
  go_wp2_with fail
  refine (hpt _).mono ?_
  rintro e w2 ⟨v, rfl, hown, hb2⟩
  obtain ⟨A2, c2, rfl, hc1, hc2⟩ := own_form1 hown
  have hrd := Rd.of_own hown
  have hcv := conv6_c A2 bs c2 w2 hrd
  have hA2 := HB.out.1.below hb2 HB.out.1.lt
  have hR2 := HB.out.2.1.below hb2 HB.out.2.1.lt
  have hbl := HB.out.2.2.trans (hb2.mono HB.out.2.2.size)
  clear a0 a1 a2 a3 a4 a5 a6
  obtain ⟨a0, a1, a2, a3, a4, a5, a6⟩ := hA2.st'
  obtain ⟨c0, c1, c2', c3, c4, c5, c6⟩ := hR2.cells7s
  obtain ⟨f0, f1, f2, f3, f4, f5, f6⟩ := hR2.free7s
  have fa5 := hA2.free 5
  by_cases hf : s.text.length + bs.length ≤ 1024
  · have zf : ((s.text.length : Int) + (bs.length : Int)) ≤ 1024 := by omega
    have hy : y = { s with text := s.text ++ bs } := by rw [HZ.out, if_pos hf]
    have HY := Lib.hid hy
    have zs : ¬ ((strS s.text).size + (strS bs).size > 9223372036854775807) := by rw [hs1, strS_size]; omega
    have HT := Lib.hid (strS_append s.text bs)
    have hb9 := hbl.setCell (p := ⟨w.heap.size, 5, none⟩) (Nat.le_refl _) (.string (strS s.text ++ strS bs))
    have hX := (hR2.far (p := ⟨w.heap.size, 5, none⟩) (by simp) (.string (strS s.text ++ strS bs))).sto7 hb9 (by omega : w.heap.size ≤ w.heap.size + 1) (.int .i64 s.at_) (.string (strS s.inter)) (.bool s.over) (.slice A n c) (.bool s.par.o) (.string (strS s.text ++ strS bs)) (.int .u8 (s.kind : Int))
    have HX := Lib.hid hX
    have hsz : (strS bs).size = bs.length := strS_size _
    clear hX hb9 HB hbl hA2 hR2 hb2 hown hrd hpt hy hf HZ
    generalize strS bs = T at *
    clear hsz
    go_wp2_with fail
    exact bodyPost_ret (ret_s1 rfl { s with text := s.text ++ bs } A n c _ _ (w.heap.size + 1) _ rfl (by unfold stCells; simp only; rw [HT.out]; exact HX.out.1)) rfl ⟨by rw [HY.out], HX.out.2⟩
  · have zf : ¬ ((s.text.length : Int) + (bs.length : Int)) ≤ 1024 := by omega
    have hy : y = s := by rw [HZ.out, if_neg hf]
    have HY := Lib.hid hy
    have hX := hR2.sto7 hbl (by omega : w.heap.size ≤ w.heap.size + 1) (.int .i64 s.at_) (.string (strS s.inter)) (.bool s.over) (.slice A n c) (.bool s.par.o) (.string (strS s.text)) (.int .u8 (s.kind : Int))
    have HX := Lib.hid hX
    clear hX HB hbl hA2 hR2 hb2 hown hrd hpt hy hf HZ hcv
    go_wp2_with fail
    exact bodyPost_ret (ret_s1 rfl s A n c _ _ (w.heap.size + 1) _ rfl HX.out.1) rfl ⟨by rw [HY.out], HX.out.2⟩
/-- Inside a string. -/
theorem inside_c (s : S6) (A : Option Addr) (n c : Nat) (r : Int) (w : World) (h64 : I64 r) (ht : s.text.length ≤ 1024) : Calls Tryd.prog 33 #[stV s A n c, .int .i64 r] w fun e w' => e = .returned (stV (inS s r) A n c) ∧ Below w.heap.size w w' := by
  unfold inS
  by_cases h1 : 0 ≤ r ∧ r < 32
  · rw [if_pos (.inl h1)]
    exact inside_ctl s A n c r w h1
  by_cases h2 : r = 127
  · rw [if_pos (.inr h2)]
    exact inside_del s A n c r w h2
  · rw [if_neg (by omega)]
    exact inside_add s A n c r w (by omega) h64 ht
end Go.Proofs.YtiaippdaogmcmaaDoor

namespace Go.Proofs.YtiaippdaogmcmaaDoor
open Go Go.RowKit
set_option linter.unusedVariables false
set_option linter.unusedSimpArgs false

theorem gives_any {x : S6} {A0 : Option Addr} {es0 : List El} {W w' : World} {A : Option Addr} {c : Nat} {es : List El} {a : AcE} {g : Nat} {e : Ending} (he : e = .returned (.tuple #[stV x A es.length c, .slice (some ⟨g, 0, none⟩) 1 1])) (hg : W.heap.size ≤ g) (hI : InA w' (some ⟨g, 0, none⟩) 1 [a])
    (hS : InS w' A c es x) (hE : ∀ X, X < W.heap.size → Off X A0 es0 → Off X A es) (hF : ∀ X, X < W.heap.size → Off X A0 es0 → Off X a.A a.es) (hb : Below W.heap.size W w') : GivesS (x, [a.plain]) A0 es0 W e w' :=
  ⟨A, c, es, some ⟨g, 0, none⟩, 1, [a], he, hS, hI, rfl, fun X hX => ⟨(fun b hb2 _ hX2 => by injection hb2 with hb2; subst hb2; simp at hX2; omega), fun ho => ⟨hE X hX ho, fun y hy => by simp at hy; subst hy; exact hF X hX ho⟩⟩, hb⟩
/-- A control, told. -/
def ExTell (r : Int) (w : World) (e : Ending) (w' : World) : Prop := ∃ g, w.heap.size ≤ g ∧ e = .returned (.slice (some ⟨g, 0, none⟩) 1 1) ∧ InA w' (some ⟨g, 0, none⟩) 1 [exE r] ∧ Below w.heap.size w w'
theorem exec_tell (r : Int) (w : World) (h0 : 0 ≤ r) (h1 : r ≤ 255) : Calls Tryd.prog 29 #[.int .i64 r] w (ExTell r w) := by
  obtain ⟨k, rfl⟩ := Int.eq_ofNat_of_zero_le h0
  refine (executed_c (k : Int) w h0 h1).mono ?_
  rintro e w' ⟨rfl, rfl⟩
  exact ⟨w.heap.size, Nat.le_refl _, rfl, InA.new1 (e := exE (k : Int)) (T := 44) ⟨Nest.nil, Nat.le_refl _, Nat.zero_le _⟩, (Below.refl _ _).alloc (Nat.le_refl _) _⟩
set_option maxRecDepth 100000 in
set_option maxHeartbeats 2000000 in
theorem outside_ctl (s : S6) (A : Option Addr) (c : Nat) (es : List El) (r : Int) (w : World) (hr : 0 ≤ r ∧ r < 32) (hS : InS w A c es s) : Calls Tryd.prog 32 #[stV s A es.length c, .int .i64 r] w (GivesS (s, execS r) A es w) := by
  have HH := Lib.hid (two_sts w 28 s A es.length c)
  have HS := Lib.hid hS
  have hx := fun V => exec_tell r V hr.1 (by omega)
  have hct : ∀ V, Calls Tryd.prog 43 #[.int .i64 r] V fun e w' => e = .returned (.bool true) ∧ w' = V := fun V => by
    have h := isControl_c r V
    rw [show ctlB r = true from decide_eq_true (by omega)] at h
    exact h
  clear hr hS
  simp only [stV_eq s]
  go_enter Tryd.func32, Tryd.ntmps32
  go_upto_region 1 with fail
  obtain ⟨hA, hB, hbel, hsz⟩ := HH.out
  clear HH
  generalize (w.alloc (.cells #[.int .i64 s.at_, .string (strS s.inter), .bool s.over, .slice A es.length c, .bool s.par.o, .string (strS s.text), .int .u8 (s.kind : Int)] 28)).alloc (.cells #[.int .i64 0, .string ⟨#[]⟩, .bool false, .slice none 0 0, .bool false, .string ⟨#[]⟩, .int .u8 0] 28) = W at *
  obtain ⟨a0, a1, a2, a3, a4, a5, a6⟩ := hA.st'
  have HB := Lib.hid (And.intro hA (And.intro hB hbel))
  clear hA hB hbel
  clear a0 a1 a2 a3 a4 a5 a6
  go_wp2_with fail
  refine (hct _).mono ?_
  rintro e w1 ⟨rfl, rfl⟩
  clear hct
  go_upto_region 2 with fail
  obtain ⟨a0, a1, a2, a3, a4, a5, a6⟩ := HB.out.1.st'
  have k0 := Ext.cell (w := w1) (B := w.heap.size + 1) (p := ⟨w.heap.size, 0, none⟩) (Nat.lt_succ_self _) a0
  have k1 := Ext.cell (w := w1) (B := w.heap.size + 1) (p := ⟨w.heap.size, 1, none⟩) (Nat.lt_succ_self _) a1
  have k2 := Ext.cell (w := w1) (B := w.heap.size + 1) (p := ⟨w.heap.size, 2, none⟩) (Nat.lt_succ_self _) a2
  have k3 := Ext.cell (w := w1) (B := w.heap.size + 1) (p := ⟨w.heap.size, 3, none⟩) (Nat.lt_succ_self _) a3
  have k4 := Ext.cell (w := w1) (B := w.heap.size + 1) (p := ⟨w.heap.size, 4, none⟩) (Nat.lt_succ_self _) a4
  have k5 := Ext.cell (w := w1) (B := w.heap.size + 1) (p := ⟨w.heap.size, 5, none⟩) (Nat.lt_succ_self _) a5
  have k6 := Ext.cell (w := w1) (B := w.heap.size + 1) (p := ⟨w.heap.size, 6, none⟩) (Nat.lt_succ_self _) a6
  clear a0 a1 a2 a3 a4 a5 a6
  have hlt : w.heap.size + 1 < w1.heap.size := HB.out.2.1.lt
  refine region_plan [([0, 1], [2, 3]), ([4], [])] (fun w' => ∃ u : Ext w1 (w.heap.size + 1), w' = u.val) (by kernel_rfl) (by kernel_rfl) (fun _ _ _ _ _ h => h) ⟨⟨_, (Below.refl _ _).drew⟩, rfl⟩ ?_
  simp only [wpPlan, sel, List.take_succ_cons, List.take_zero, List.drop_succ_cons, List.drop_zero, List.cons_append, List.nil_append]
  repeat (go_big_quiet_step (fail))
  refine wpQuiet_nil ?_
  unfold wpChain
  clear k0 k1 k2 k3 k4 k5 k6
  go_wp2_with fail
  refine (hx _).mono ?_
  rintro e w8 ⟨g, hg, rfl, hI, hb8⟩
  have hb7 : Below w1.heap.size w1 w8 := ((Below.refl _ _).drew).trans hb8
  have hR := HB.out.2.1.below hb7 HB.out.2.1.lt
  have hbl := HB.out.2.2.trans (hb7.mono HB.out.2.2.size)
  have hX := hR.sto7 hbl (by omega : w.heap.size ≤ w.heap.size + 1) (.int .i64 s.at_) (.string (strS s.inter)) (.bool s.over) (.slice A es.length c) (.bool s.par.o) (.string (strS s.text)) (.int .u8 (s.kind : Int))
  have hY := (hR.sto7 (hb7.mono (Nat.le_of_lt hlt)) (Nat.le_refl _) (.int .i64 s.at_) (.string (strS s.inter)) (.bool s.over) (.slice A es.length c) (.bool s.par.o) (.string (strS s.text)) (.int .u8 (s.kind : Int))).2
  have hgw : w1.heap.size ≤ g := hg
  have hJ := hI.set7 (X := w.heap.size + 1) (by intro a ha _ hb; injection ha with ha; subst ha; simp at hb; omega) (by intro x hx; simp at hx; subst hx; exact Off.nil) (.int .i64 s.at_) (.string (strS s.inter)) (.bool s.over) (.slice A es.length c) (.bool s.par.o) (.string (strS s.text)) (.int .u8 (s.kind : Int))
  obtain ⟨c0, c1, c2, c3, c4, c5, c6⟩ := hR.cells7s
  obtain ⟨f0, f1, f2, f3, f4, f5, f6⟩ := hR.free7s
  have HC := Lib.hid (hb7.mono (Nat.le_of_lt hlt))
  have HG := Lib.hid (Nat.le_trans HB.out.2.2.size hgw)
  have HX := Lib.hid (And.intro hX (And.intro hY hJ))
  clear hX hY hJ hR hbl hb7 hb8 hg hgw hI hx HB
  go_wp2_with fail
  refine ⟨⟨⟨_, HC.out⟩, rfl⟩, ?_⟩
  unfold wpChain
  go_wp2_with fail
  refine ⟨⟨⟨_, HX.out.2.1⟩, rfl⟩, ?_⟩
  unfold wpChain
  repeat (go_big_quiet_step (fail))
  refine wpQuiet_nil ?_
  unfold wpChain
  go_wp2_with fail
  exact bodyPost_ret (ret_s2 rfl s A es.length c _ _ (w.heap.size + 1) _ _ rfl rfl HX.out.1.1) rfl (gives_any (a := exE r) rfl HG.out HX.out.2.2 ⟨HS.out.inp.on HX.out.1.2, HS.out.reads⟩ (fun X hX h => h) (fun X hX h => Off.nil) HX.out.1.2)
set_option maxRecDepth 100000 in
set_option maxHeartbeats 2000000 in
theorem outside_del (s : S6) (A : Option Addr) (c : Nat) (es : List El) (r : Int) (w : World) (hr : r = 127) (hS : InS w A c es s) : Calls Tryd.prog 32 #[stV s A es.length c, .int .i64 r] w (GivesS (s, []) A es w) := by
  have HH := Lib.hid (two_sts w 28 s A es.length c)
  have HS := Lib.hid hS
  have hct : ∀ V, Calls Tryd.prog 43 #[.int .i64 r] V fun e w' => e = .returned (.bool false) ∧ w' = V := fun V => by
    have h := isControl_c r V
    rw [show ctlB r = false from decide_eq_false (by omega)] at h
    exact h
  have e1 : (r == 127) = true := beq_iff_eq.2 hr
  clear hr hS
  simp only [stV_eq s]
  go_enter Tryd.func32, Tryd.ntmps32
  go_upto_region 1 with fail
  obtain ⟨hA, hB, hbel, hsz⟩ := HH.out
  clear HH
  generalize (w.alloc (.cells #[.int .i64 s.at_, .string (strS s.inter), .bool s.over, .slice A es.length c, .bool s.par.o, .string (strS s.text), .int .u8 (s.kind : Int)] 28)).alloc (.cells #[.int .i64 0, .string ⟨#[]⟩, .bool false, .slice none 0 0, .bool false, .string ⟨#[]⟩, .int .u8 0] 28) = W at *
  obtain ⟨a0, a1, a2, a3, a4, a5, a6⟩ := hA.st'
  have HB := Lib.hid (And.intro hA (And.intro hB hbel))
  clear hA hB hbel
  obtain ⟨c0, c1, c2, c3, c4, c5, c6⟩ := HB.out.2.1.cells7s
  obtain ⟨f0, f1, f2, f3, f4, f5, f6⟩ := HB.out.2.1.free7s
  have hX := HB.out.2.1.sto7 HB.out.2.2 (by omega : w.heap.size ≤ w.heap.size + 1) (.int .i64 s.at_) (.string (strS s.inter)) (.bool s.over) (.slice A es.length c) (.bool s.par.o) (.string (strS s.text)) (.int .u8 (s.kind : Int))
  have HX := Lib.hid hX
  clear hX HB
  go_wp2_with fail
  refine (hct _).mono ?_
  rintro e w1 ⟨rfl, rfl⟩
  clear hct
  go_wp2_with fail
  exact bodyPost_ret (ret_s2 rfl s A es.length c _ _ (w.heap.size + 1) _ _ rfl rfl HX.out.1) rfl (gives_none rfl ⟨HS.out.inp.on HX.out.2, HS.out.reads⟩ (fun X hX h => h) HX.out.2)
set_option maxRecDepth 100000 in
set_option maxHeartbeats 2000000 in
theorem outside_neg (s : S6) (A : Option Addr) (c : Nat) (es : List El) (r : Int) (w : World) (hr : r < 0) (hS : InS w A c es s) : Calls Tryd.prog 32 #[stV s A es.length c, .int .i64 r] w (GivesS (zeroS, [⟨1, r, 0, [], [], []⟩]) A es w) := by
  have HH := Lib.hid (two_sts w 28 s A es.length c)
  have hct : ∀ V, Calls Tryd.prog 43 #[.int .i64 r] V fun e w' => e = .returned (.bool false) ∧ w' = V := fun V => by
    have h := isControl_c r V
    rw [show ctlB r = false from decide_eq_false (by omega)] at h
    exact h
  have e1 : (r == 127) = false := beq_eq_false_iff_ne.2 (by omega)
  have z0 : r < 0 := hr
  clear hS
  clear hr
  simp only [stV_eq s]
  go_enter Tryd.func32, Tryd.ntmps32
  go_upto_region 1 with fail
  obtain ⟨hA, hB, hbel, hsz⟩ := HH.out
  clear HH
  generalize (w.alloc (.cells #[.int .i64 s.at_, .string (strS s.inter), .bool s.over, .slice A es.length c, .bool s.par.o, .string (strS s.text), .int .u8 (s.kind : Int)] 28)).alloc (.cells #[.int .i64 0, .string ⟨#[]⟩, .bool false, .slice none 0 0, .bool false, .string ⟨#[]⟩, .int .u8 0] 28) = W at *
  obtain ⟨a0, a1, a2, a3, a4, a5, a6⟩ := hA.st'
  have HB := Lib.hid (And.intro hA (And.intro hB hbel))
  clear hA hB hbel
  go_wp2_with fail
  refine (hct _).mono ?_
  rintro e w1 ⟨rfl, rfl⟩
  clear hct
  have hX := HB.out.2.1.sto7 HB.out.2.2 (by omega : w.heap.size ≤ w.heap.size + 1) (.int .i64 0) (.string ⟨#[]⟩) (.bool false) (.slice none 0 0) (.bool false) (.string ⟨#[]⟩) (.int .u8 0)
  have hsz : w1.heap.size = (set7 w1 (w.heap.size + 1) (.int .i64 0) (.string ⟨#[]⟩) (.bool false) (.slice none 0 0) (.bool false) (.string ⟨#[]⟩) (.int .u8 0)).heap.size := by simp [set7, World.setCell]
  have hI := InA.new1 (W := set7 w1 (w.heap.size + 1) (.int .i64 0) (.string ⟨#[]⟩) (.bool false) (.slice none 0 0) (.bool false) (.string ⟨#[]⟩) (.int .u8 0)) (e := ⟨1, r, 0, [], none, 0, [], []⟩) (T := 44) ⟨Nest.nil, Nat.le_refl _, Nat.zero_le _⟩
  rw [← hsz] at hI
  have hY := And.intro (hX.1.alloc (.cells #[.int .i64 1, .int .i64 r, .int .u8 0, .string ⟨#[]⟩, .slice none 0 0, .string ⟨#[]⟩] 44)) (And.intro (hX.2.alloc hX.2.size (.cells #[.int .i64 1, .int .i64 r, .int .u8 0, .string ⟨#[]⟩, .slice none 0 0, .string ⟨#[]⟩] 44)) (And.intro hI HB.out.2.2.size))
  obtain ⟨c0, c1, c2, c3, c4, c5, c6⟩ := HB.out.2.1.cells7s
  obtain ⟨f0, f1, f2, f3, f4, f5, f6⟩ := HB.out.2.1.free7s
  have hlt := HB.out.2.1.lt
  have HX := Lib.hid hY
  clear hX hY hI HB hsz
  go_wp2_with fail
  exact bodyPost_ret (ret_s2 rfl zeroS none 0 0 _ _ (w.heap.size + 1) _ _ rfl rfl HX.out.1) rfl (gives_one (a := ⟨1, r, 0, [], none, 0, [], []⟩) rfl HX.out.2.2.2 HX.out.2.2.1 (InS.zero _) (fun X hX h => Off.nil) HX.out.2.1)
set_option maxRecDepth 100000 in
set_option maxHeartbeats 2000000 in
theorem outside_far (s : S6) (A : Option Addr) (c : Nat) (es : List El) (r : Int) (w : World) (hr : 127 < r) (hS : InS w A c es s) : Calls Tryd.prog 32 #[stV s A es.length c, .int .i64 r] w (GivesS (zeroS, [⟨1, r, 0, [], [], []⟩]) A es w) := by
  have HH := Lib.hid (two_sts w 28 s A es.length c)
  have hct : ∀ V, Calls Tryd.prog 43 #[.int .i64 r] V fun e w' => e = .returned (.bool false) ∧ w' = V := fun V => by
    have h := isControl_c r V
    rw [show ctlB r = false from decide_eq_false (by omega)] at h
    exact h
  have e1 : (r == 127) = false := beq_eq_false_iff_ne.2 (by omega)
  have z0 : 0 ≤ r := by omega
  have z1 : 127 < r := by omega
  clear hS
  clear hr
  simp only [stV_eq s]
  go_enter Tryd.func32, Tryd.ntmps32
  go_upto_region 1 with fail
  obtain ⟨hA, hB, hbel, hsz⟩ := HH.out
  clear HH
  generalize (w.alloc (.cells #[.int .i64 s.at_, .string (strS s.inter), .bool s.over, .slice A es.length c, .bool s.par.o, .string (strS s.text), .int .u8 (s.kind : Int)] 28)).alloc (.cells #[.int .i64 0, .string ⟨#[]⟩, .bool false, .slice none 0 0, .bool false, .string ⟨#[]⟩, .int .u8 0] 28) = W at *
  obtain ⟨a0, a1, a2, a3, a4, a5, a6⟩ := hA.st'
  have HB := Lib.hid (And.intro hA (And.intro hB hbel))
  clear hA hB hbel
  go_wp2_with fail
  refine (hct _).mono ?_
  rintro e w1 ⟨rfl, rfl⟩
  clear hct
  have hX := HB.out.2.1.sto7 HB.out.2.2 (by omega : w.heap.size ≤ w.heap.size + 1) (.int .i64 0) (.string ⟨#[]⟩) (.bool false) (.slice none 0 0) (.bool false) (.string ⟨#[]⟩) (.int .u8 0)
  have hsz : w1.heap.size = (set7 w1 (w.heap.size + 1) (.int .i64 0) (.string ⟨#[]⟩) (.bool false) (.slice none 0 0) (.bool false) (.string ⟨#[]⟩) (.int .u8 0)).heap.size := by simp [set7, World.setCell]
  have hI := InA.new1 (W := set7 w1 (w.heap.size + 1) (.int .i64 0) (.string ⟨#[]⟩) (.bool false) (.slice none 0 0) (.bool false) (.string ⟨#[]⟩) (.int .u8 0)) (e := ⟨1, r, 0, [], none, 0, [], []⟩) (T := 44) ⟨Nest.nil, Nat.le_refl _, Nat.zero_le _⟩
  rw [← hsz] at hI
  have hY := And.intro (hX.1.alloc (.cells #[.int .i64 1, .int .i64 r, .int .u8 0, .string ⟨#[]⟩, .slice none 0 0, .string ⟨#[]⟩] 44)) (And.intro (hX.2.alloc hX.2.size (.cells #[.int .i64 1, .int .i64 r, .int .u8 0, .string ⟨#[]⟩, .slice none 0 0, .string ⟨#[]⟩] 44)) (And.intro hI HB.out.2.2.size))
  obtain ⟨c0, c1, c2, c3, c4, c5, c6⟩ := HB.out.2.1.cells7s
  obtain ⟨f0, f1, f2, f3, f4, f5, f6⟩ := HB.out.2.1.free7s
  have hlt := HB.out.2.1.lt
  have HX := Lib.hid hY
  clear hX hY hI HB hsz
  go_wp2_with fail
  exact bodyPost_ret (ret_s2 rfl zeroS none 0 0 _ _ (w.heap.size + 1) _ _ rfl rfl HX.out.1) rfl (gives_one (a := ⟨1, r, 0, [], none, 0, [], []⟩) rfl HX.out.2.2.2 HX.out.2.2.1 (InS.zero _) (fun X hX h => Off.nil) HX.out.2.1)
set_option maxRecDepth 100000 in
set_option maxHeartbeats 2000000 in
theorem outside_gnd (s : S6) (A : Option Addr) (c : Nat) (es : List El) (r : Int) (w : World) (hr : 32 ≤ r ∧ r ≤ 126) (h0 : s.at_ = 0) (hS : InS w A c es s) : Calls Tryd.prog 32 #[stV s A es.length c, .int .i64 r] w (GivesS (zeroS, [⟨1, r, 0, [], [], []⟩]) A es w) := by
  have HH := Lib.hid (two_sts w 28 s A es.length c)
  have hct : ∀ V, Calls Tryd.prog 43 #[.int .i64 r] V fun e w' => e = .returned (.bool false) ∧ w' = V := fun V => by
    have h := isControl_c r V
    rw [show ctlB r = false from decide_eq_false (by omega)] at h
    exact h
  have e1 : (r == 127) = false := beq_eq_false_iff_ne.2 (by omega)
  have z0 : ¬ r < 0 := by omega
  have z1 : ¬ r > 127 := by omega
  have e2 : (s.at_ == 0) = true := beq_iff_eq.2 h0
  clear hS h0
  clear hr
  simp only [stV_eq s]
  go_enter Tryd.func32, Tryd.ntmps32
  go_upto_region 1 with fail
  obtain ⟨hA, hB, hbel, hsz⟩ := HH.out
  clear HH
  generalize (w.alloc (.cells #[.int .i64 s.at_, .string (strS s.inter), .bool s.over, .slice A es.length c, .bool s.par.o, .string (strS s.text), .int .u8 (s.kind : Int)] 28)).alloc (.cells #[.int .i64 0, .string ⟨#[]⟩, .bool false, .slice none 0 0, .bool false, .string ⟨#[]⟩, .int .u8 0] 28) = W at *
  obtain ⟨a0, a1, a2, a3, a4, a5, a6⟩ := hA.st'
  have HB := Lib.hid (And.intro hA (And.intro hB hbel))
  clear hA hB hbel
  go_wp2_with fail
  refine (hct _).mono ?_
  rintro e w1 ⟨rfl, rfl⟩
  clear hct
  have hX := HB.out.2.1.sto7 HB.out.2.2 (by omega : w.heap.size ≤ w.heap.size + 1) (.int .i64 0) (.string ⟨#[]⟩) (.bool false) (.slice none 0 0) (.bool false) (.string ⟨#[]⟩) (.int .u8 0)
  have hsz : w1.heap.size = (set7 w1 (w.heap.size + 1) (.int .i64 0) (.string ⟨#[]⟩) (.bool false) (.slice none 0 0) (.bool false) (.string ⟨#[]⟩) (.int .u8 0)).heap.size := by simp [set7, World.setCell]
  have hI := InA.new1 (W := set7 w1 (w.heap.size + 1) (.int .i64 0) (.string ⟨#[]⟩) (.bool false) (.slice none 0 0) (.bool false) (.string ⟨#[]⟩) (.int .u8 0)) (e := ⟨1, r, 0, [], none, 0, [], []⟩) (T := 44) ⟨Nest.nil, Nat.le_refl _, Nat.zero_le _⟩
  rw [← hsz] at hI
  have hY := And.intro (hX.1.alloc (.cells #[.int .i64 1, .int .i64 r, .int .u8 0, .string ⟨#[]⟩, .slice none 0 0, .string ⟨#[]⟩] 44)) (And.intro (hX.2.alloc hX.2.size (.cells #[.int .i64 1, .int .i64 r, .int .u8 0, .string ⟨#[]⟩, .slice none 0 0, .string ⟨#[]⟩] 44)) (And.intro hI HB.out.2.2.size))
  obtain ⟨c0, c1, c2, c3, c4, c5, c6⟩ := HB.out.2.1.cells7s
  obtain ⟨f0, f1, f2, f3, f4, f5, f6⟩ := HB.out.2.1.free7s
  have hlt := HB.out.2.1.lt
  have HX := Lib.hid hY
  clear hX hY hI HB hsz
  go_wp2_with fail
  exact bodyPost_ret (ret_s2 rfl zeroS none 0 0 _ _ (w.heap.size + 1) _ _ rfl rfl HX.out.1) rfl (gives_one (a := ⟨1, r, 0, [], none, 0, [], []⟩) rfl HX.out.2.2.2 HX.out.2.2.1 (InS.zero _) (fun X hX h => Off.nil) HX.out.2.1)
set_option maxRecDepth 100000 in
set_option maxHeartbeats 2000000 in
theorem outside_esc1 (s : S6) (A : Option Addr) (c k : Nat) (es : List El) (w : World) (hk : 32 ≤ k ∧ k ≤ 126) (h1 : s.at_ = 1) (hs : SaneS s) (hS : InS w A c es s) : Calls Tryd.prog 32 #[stV s A es.length c, .int .i64 (k : Int)] w (GivesS (escS s (k : Int)) A es w) := by
  have HH := Lib.hid (two_sts w 28 s A es.length c)
  have hcl := fun V (hV : Below w.heap.size w V) => inEscape_c s A c k es V hk hs (hS.on hV)
  have HN := Lib.hid (fun X (hX : w.heap.size ≤ X) => hS.inp.offNew hX)
  generalize escS s (k : Int) = y at *
  have hct : ∀ V, Calls Tryd.prog 43 #[.int .i64 (k : Int)] V fun e w' => e = .returned (.bool false) ∧ w' = V := fun V => by
    have h := isControl_c (k : Int) V
    rw [show ctlB (k : Int) = false from decide_eq_false (by omega)] at h
    exact h
  have e1 : ((k : Int) == 127) = false := beq_eq_false_iff_ne.2 (by omega)
  have z0 : ¬ (k : Int) < 0 := by omega
  have z1 : ¬ (k : Int) > 127 := by omega
  have z2 : (0 : Int) ≤ k := by omega
  have z3 : (k : Int) ≤ 126 := by omega
  have e2 : (s.at_ == 0) = false := beq_eq_false_iff_ne.2 (by omega)
  have e3 : (s.at_ == 1) = true := beq_iff_eq.2 h1
  clear hk hs hS h1
  simp only [stV_eq s]
  go_enter Tryd.func32, Tryd.ntmps32
  go_upto_region 1 with fail
  obtain ⟨hA, hB, hbel, hsz⟩ := HH.out
  clear HH
  generalize (w.alloc (.cells #[.int .i64 s.at_, .string (strS s.inter), .bool s.over, .slice A es.length c, .bool s.par.o, .string (strS s.text), .int .u8 (s.kind : Int)] 28)).alloc (.cells #[.int .i64 0, .string ⟨#[]⟩, .bool false, .slice none 0 0, .bool false, .string ⟨#[]⟩, .int .u8 0] 28) = W at *
  obtain ⟨a0, a1, a2, a3, a4, a5, a6⟩ := hA.st'
  have HB := Lib.hid (And.intro hA (And.intro hB hbel))
  clear hA hB hbel
  simp only [stV_eq s] at hcl
  go_wp2_with fail
  refine (hct _).mono ?_
  rintro e w1 ⟨rfl, rfl⟩
  clear hct
  go_wp2_with fail
  refine (hcl _ HB.out.2.2).mono ?_
  rintro e w2 ⟨A4, c4, es4, B, d, l, rfl, hS4, hI4, hac, hfar, hb4⟩
  have hR := HB.out.2.1.below hb4 HB.out.2.1.lt
  have hbl := HB.out.2.2.trans (hb4.mono HB.out.2.2.size)
  have hof := (hfar (w.heap.size + 1) HB.out.2.1.lt).2 (HN.out _ (by omega))
  have hX := hR.sto7 hbl (by omega : w.heap.size ≤ w.heap.size + 1) (.int .i64 y.1.at_) (.string (strS y.1.inter)) (.bool y.1.over) (.slice A4 es4.length c4) (.bool y.1.par.o) (.string (strS y.1.text)) (.int .u8 (y.1.kind : Int))
  have hS5 := hS4.set7 hof.1 (.int .i64 y.1.at_) (.string (strS y.1.inter)) (.bool y.1.over) (.slice A4 es4.length c4) (.bool y.1.par.o) (.string (strS y.1.text)) (.int .u8 (y.1.kind : Int))
  have hI5 := hI4.set7 (hfar (w.heap.size + 1) HB.out.2.1.lt).1 hof.2 (.int .i64 y.1.at_) (.string (strS y.1.inter)) (.bool y.1.over) (.slice A4 es4.length c4) (.bool y.1.par.o) (.string (strS y.1.text)) (.int .u8 (y.1.kind : Int))
  have hfar2 : FarS A es w A4 es4 B l := fun X hX => hfar X (Nat.lt_of_lt_of_le hX HB.out.2.2.size)
  obtain ⟨c0, c1, c2, c3, c4', c5, c6⟩ := hR.cells7s
  obtain ⟨f0, f1, f2, f3, f4, f5, f6⟩ := hR.free7s
  have HX := Lib.hid (And.intro hX (And.intro hS5 (And.intro hI5 (And.intro hac hfar2))))
  clear hX hS5 hI5 hac hfar hfar2 hR hbl hof hS4 hI4 hb4 hcl HB HN a0 a1 a2 a3 a4 a5 a6
  simp only [stV_eq]
  go_wp2_with fail
  exact bodyPost_ret (ret_s2 rfl y.1 A4 es4.length c4 _ _ (w.heap.size + 1) _ _ rfl rfl HX.out.1.1) rfl ⟨A4, c4, es4, B, d, l, rfl, HX.out.2.1, HX.out.2.2.1, HX.out.2.2.2.1, HX.out.2.2.2.2, HX.out.1.2⟩
set_option maxRecDepth 100000 in
set_option maxHeartbeats 2000000 in
theorem outside_esc2 (s : S6) (A : Option Addr) (c k : Nat) (es : List El) (w : World) (hk : 32 ≤ k ∧ k ≤ 126) (h1 : s.at_ = 2) (hs : SaneS s) (hS : InS w A c es s) : Calls Tryd.prog 32 #[stV s A es.length c, .int .i64 (k : Int)] w (GivesS (escS s (k : Int)) A es w) := by
  have HH := Lib.hid (two_sts w 28 s A es.length c)
  have hcl := fun V (hV : Below w.heap.size w V) => inEscape_c s A c k es V hk hs (hS.on hV)
  have HN := Lib.hid (fun X (hX : w.heap.size ≤ X) => hS.inp.offNew hX)
  generalize escS s (k : Int) = y at *
  have hct : ∀ V, Calls Tryd.prog 43 #[.int .i64 (k : Int)] V fun e w' => e = .returned (.bool false) ∧ w' = V := fun V => by
    have h := isControl_c (k : Int) V
    rw [show ctlB (k : Int) = false from decide_eq_false (by omega)] at h
    exact h
  have e1 : ((k : Int) == 127) = false := beq_eq_false_iff_ne.2 (by omega)
  have z0 : ¬ (k : Int) < 0 := by omega
  have z1 : ¬ (k : Int) > 127 := by omega
  have z2 : (0 : Int) ≤ k := by omega
  have z3 : (k : Int) ≤ 126 := by omega
  have e2 : (s.at_ == 0) = false := beq_eq_false_iff_ne.2 (by omega)
  have e3 : (s.at_ == 1) = false := beq_eq_false_iff_ne.2 (by omega)
  have e4 : (s.at_ == 2) = true := beq_iff_eq.2 h1
  clear hk hs hS h1
  simp only [stV_eq s]
  go_enter Tryd.func32, Tryd.ntmps32
  go_upto_region 1 with fail
  obtain ⟨hA, hB, hbel, hsz⟩ := HH.out
  clear HH
  generalize (w.alloc (.cells #[.int .i64 s.at_, .string (strS s.inter), .bool s.over, .slice A es.length c, .bool s.par.o, .string (strS s.text), .int .u8 (s.kind : Int)] 28)).alloc (.cells #[.int .i64 0, .string ⟨#[]⟩, .bool false, .slice none 0 0, .bool false, .string ⟨#[]⟩, .int .u8 0] 28) = W at *
  obtain ⟨a0, a1, a2, a3, a4, a5, a6⟩ := hA.st'
  have HB := Lib.hid (And.intro hA (And.intro hB hbel))
  clear hA hB hbel
  simp only [stV_eq s] at hcl
  go_wp2_with fail
  refine (hct _).mono ?_
  rintro e w1 ⟨rfl, rfl⟩
  clear hct
  go_wp2_with fail
  refine (hcl _ HB.out.2.2).mono ?_
  rintro e w2 ⟨A4, c4, es4, B, d, l, rfl, hS4, hI4, hac, hfar, hb4⟩
  have hR := HB.out.2.1.below hb4 HB.out.2.1.lt
  have hbl := HB.out.2.2.trans (hb4.mono HB.out.2.2.size)
  have hof := (hfar (w.heap.size + 1) HB.out.2.1.lt).2 (HN.out _ (by omega))
  have hX := hR.sto7 hbl (by omega : w.heap.size ≤ w.heap.size + 1) (.int .i64 y.1.at_) (.string (strS y.1.inter)) (.bool y.1.over) (.slice A4 es4.length c4) (.bool y.1.par.o) (.string (strS y.1.text)) (.int .u8 (y.1.kind : Int))
  have hS5 := hS4.set7 hof.1 (.int .i64 y.1.at_) (.string (strS y.1.inter)) (.bool y.1.over) (.slice A4 es4.length c4) (.bool y.1.par.o) (.string (strS y.1.text)) (.int .u8 (y.1.kind : Int))
  have hI5 := hI4.set7 (hfar (w.heap.size + 1) HB.out.2.1.lt).1 hof.2 (.int .i64 y.1.at_) (.string (strS y.1.inter)) (.bool y.1.over) (.slice A4 es4.length c4) (.bool y.1.par.o) (.string (strS y.1.text)) (.int .u8 (y.1.kind : Int))
  have hfar2 : FarS A es w A4 es4 B l := fun X hX => hfar X (Nat.lt_of_lt_of_le hX HB.out.2.2.size)
  obtain ⟨c0, c1, c2, c3, c4', c5, c6⟩ := hR.cells7s
  obtain ⟨f0, f1, f2, f3, f4, f5, f6⟩ := hR.free7s
  have HX := Lib.hid (And.intro hX (And.intro hS5 (And.intro hI5 (And.intro hac hfar2))))
  clear hX hS5 hI5 hac hfar hfar2 hR hbl hof hS4 hI4 hb4 hcl HB HN a0 a1 a2 a3 a4 a5 a6
  simp only [stV_eq]
  go_wp2_with fail
  exact bodyPost_ret (ret_s2 rfl y.1 A4 es4.length c4 _ _ (w.heap.size + 1) _ _ rfl rfl HX.out.1.1) rfl ⟨A4, c4, es4, B, d, l, rfl, HX.out.2.1, HX.out.2.2.1, HX.out.2.2.2.1, HX.out.2.2.2.2, HX.out.1.2⟩
set_option maxRecDepth 100000 in
set_option maxHeartbeats 2000000 in
theorem outside_csi (s : S6) (A : Option Addr) (c k : Nat) (es : List El) (w : World) (hk : 32 ≤ k ∧ k ≤ 126) (h1 : 3 ≤ s.at_ ∧ s.at_ ≤ 5) (hs : SaneS s) (hS : InS w A c es s) : Calls Tryd.prog 32 #[stV s A es.length c, .int .i64 (k : Int)] w (GivesS (ctlS s (k : Int)) A es w) := by
  have HH := Lib.hid (two_sts w 28 s A es.length c)
  have hcl := fun V (hV : Below w.heap.size w V) => inCsi_c s A c k es V hk h1 hs (hS.on hV)
  have HN := Lib.hid (fun X (hX : w.heap.size ≤ X) => hS.inp.offNew hX)
  generalize ctlS s (k : Int) = y at *
  have hct : ∀ V, Calls Tryd.prog 43 #[.int .i64 (k : Int)] V fun e w' => e = .returned (.bool false) ∧ w' = V := fun V => by
    have h := isControl_c (k : Int) V
    rw [show ctlB (k : Int) = false from decide_eq_false (by omega)] at h
    exact h
  have e1 : ((k : Int) == 127) = false := beq_eq_false_iff_ne.2 (by omega)
  have z0 : ¬ (k : Int) < 0 := by omega
  have z1 : ¬ (k : Int) > 127 := by omega
  have z2 : (0 : Int) ≤ k := by omega
  have z3 : (k : Int) ≤ 126 := by omega
  have e2 : (s.at_ == 0) = false := beq_eq_false_iff_ne.2 (by omega)
  have e3 : (s.at_ == 1) = false := beq_eq_false_iff_ne.2 (by omega)
  have e4 : (s.at_ == 2) = false := beq_eq_false_iff_ne.2 (by omega)
  have e5 : (s.at_ == 6) = false := beq_eq_false_iff_ne.2 (by omega)
  clear hk hs hS h1
  simp only [stV_eq s]
  go_enter Tryd.func32, Tryd.ntmps32
  go_upto_region 1 with fail
  obtain ⟨hA, hB, hbel, hsz⟩ := HH.out
  clear HH
  generalize (w.alloc (.cells #[.int .i64 s.at_, .string (strS s.inter), .bool s.over, .slice A es.length c, .bool s.par.o, .string (strS s.text), .int .u8 (s.kind : Int)] 28)).alloc (.cells #[.int .i64 0, .string ⟨#[]⟩, .bool false, .slice none 0 0, .bool false, .string ⟨#[]⟩, .int .u8 0] 28) = W at *
  obtain ⟨a0, a1, a2, a3, a4, a5, a6⟩ := hA.st'
  have HB := Lib.hid (And.intro hA (And.intro hB hbel))
  clear hA hB hbel
  simp only [stV_eq s] at hcl
  go_wp2_with fail
  refine (hct _).mono ?_
  rintro e w1 ⟨rfl, rfl⟩
  clear hct
  go_wp2_with fail
  refine (hcl _ HB.out.2.2).mono ?_
  rintro e w2 ⟨A4, c4, es4, B, d, l, rfl, hS4, hI4, hac, hfar, hb4⟩
  have hR := HB.out.2.1.below hb4 HB.out.2.1.lt
  have hbl := HB.out.2.2.trans (hb4.mono HB.out.2.2.size)
  have hof := (hfar (w.heap.size + 1) HB.out.2.1.lt).2 (HN.out _ (by omega))
  have hX := hR.sto7 hbl (by omega : w.heap.size ≤ w.heap.size + 1) (.int .i64 y.1.at_) (.string (strS y.1.inter)) (.bool y.1.over) (.slice A4 es4.length c4) (.bool y.1.par.o) (.string (strS y.1.text)) (.int .u8 (y.1.kind : Int))
  have hS5 := hS4.set7 hof.1 (.int .i64 y.1.at_) (.string (strS y.1.inter)) (.bool y.1.over) (.slice A4 es4.length c4) (.bool y.1.par.o) (.string (strS y.1.text)) (.int .u8 (y.1.kind : Int))
  have hI5 := hI4.set7 (hfar (w.heap.size + 1) HB.out.2.1.lt).1 hof.2 (.int .i64 y.1.at_) (.string (strS y.1.inter)) (.bool y.1.over) (.slice A4 es4.length c4) (.bool y.1.par.o) (.string (strS y.1.text)) (.int .u8 (y.1.kind : Int))
  have hfar2 : FarS A es w A4 es4 B l := fun X hX => hfar X (Nat.lt_of_lt_of_le hX HB.out.2.2.size)
  obtain ⟨c0, c1, c2, c3, c4', c5, c6⟩ := hR.cells7s
  obtain ⟨f0, f1, f2, f3, f4, f5, f6⟩ := hR.free7s
  have HX := Lib.hid (And.intro hX (And.intro hS5 (And.intro hI5 (And.intro hac hfar2))))
  clear hX hS5 hI5 hac hfar hfar2 hR hbl hof hS4 hI4 hb4 hcl HB HN a0 a1 a2 a3 a4 a5 a6
  simp only [stV_eq]
  go_wp2_with fail
  exact bodyPost_ret (ret_s2 rfl y.1 A4 es4.length c4 _ _ (w.heap.size + 1) _ _ rfl rfl HX.out.1.1) rfl ⟨A4, c4, es4, B, d, l, rfl, HX.out.2.1, HX.out.2.2.1, HX.out.2.2.2.1, HX.out.2.2.2.2, HX.out.1.2⟩
set_option maxRecDepth 100000 in
set_option maxHeartbeats 2000000 in
theorem outside_ign (s : S6) (A : Option Addr) (c k : Nat) (es : List El) (w : World) (hk : 32 ≤ k ∧ k ≤ 126) (h1 : s.at_ = 6) (hk2 : k < 64) (hS : InS w A c es s) : Calls Tryd.prog 32 #[stV s A es.length c, .int .i64 (k : Int)] w (GivesS (s, []) A es w) := by
  have HH := Lib.hid (two_sts w 28 s A es.length c)
  have HS := Lib.hid hS
  have hcl : ∀ V, Calls Tryd.prog 45 #[stV s A es.length c, .int .u8 (k : Int)] V fun e w' => e = .returned (stV s A es.length c) ∧ Below V.heap.size V w' := fun V => by
    have h := inIgnored_c s A es.length c k (by omega) V
    rw [if_neg (by omega)] at h
    exact h
  have hct : ∀ V, Calls Tryd.prog 43 #[.int .i64 (k : Int)] V fun e w' => e = .returned (.bool false) ∧ w' = V := fun V => by
    have h := isControl_c (k : Int) V
    rw [show ctlB (k : Int) = false from decide_eq_false (by omega)] at h
    exact h
  have e1 : ((k : Int) == 127) = false := beq_eq_false_iff_ne.2 (by omega)
  have z0 : ¬ (k : Int) < 0 := by omega
  have z1 : ¬ (k : Int) > 127 := by omega
  have z2 : (0 : Int) ≤ k := by omega
  have z3 : (k : Int) ≤ 126 := by omega
  have e2 : (s.at_ == 0) = false := beq_eq_false_iff_ne.2 (by omega)
  have e3 : (s.at_ == 1) = false := beq_eq_false_iff_ne.2 (by omega)
  have e4 : (s.at_ == 2) = false := beq_eq_false_iff_ne.2 (by omega)
  have e5 : (s.at_ == 6) = true := beq_iff_eq.2 h1
  clear hk hS h1 hk2
  simp only [stV_eq s]
  go_enter Tryd.func32, Tryd.ntmps32
  go_upto_region 1 with fail
  obtain ⟨hA, hB, hbel, hsz⟩ := HH.out
  clear HH
  generalize (w.alloc (.cells #[.int .i64 s.at_, .string (strS s.inter), .bool s.over, .slice A es.length c, .bool s.par.o, .string (strS s.text), .int .u8 (s.kind : Int)] 28)).alloc (.cells #[.int .i64 0, .string ⟨#[]⟩, .bool false, .slice none 0 0, .bool false, .string ⟨#[]⟩, .int .u8 0] 28) = W at *
  obtain ⟨a0, a1, a2, a3, a4, a5, a6⟩ := hA.st'
  have HB := Lib.hid (And.intro hA (And.intro hB hbel))
  clear hA hB hbel
  simp only [stV_eq] at hcl
  go_wp2_with fail
  refine (hct _).mono ?_
  rintro e w1 ⟨rfl, rfl⟩
  clear hct
  go_wp2_with fail
  refine (hcl _).mono ?_
  rintro e w2 ⟨rfl, hb4⟩
  have hR := HB.out.2.1.below hb4 HB.out.2.1.lt
  have hbl := HB.out.2.2.trans (hb4.mono HB.out.2.2.size)
  have hX := hR.sto7 hbl (by omega : w.heap.size ≤ w.heap.size + 1) (.int .i64 s.at_) (.string (strS s.inter)) (.bool s.over) (.slice A es.length c) (.bool s.par.o) (.string (strS s.text)) (.int .u8 (s.kind : Int))
  obtain ⟨c0, c1, c2, c3, c4, c5, c6⟩ := hR.cells7s
  obtain ⟨f0, f1, f2, f3, f4, f5, f6⟩ := hR.free7s
  have HX := Lib.hid hX
  clear hX hR hbl hb4 hcl HB a0 a1 a2 a3 a4 a5 a6
  go_wp2_with fail
  exact bodyPost_ret (ret_s2 rfl s A es.length c _ _ (w.heap.size + 1) _ _ rfl rfl HX.out.1) rfl (gives_none rfl ⟨HS.out.inp.on HX.out.2, HS.out.reads⟩ (fun X hX h => h) HX.out.2)
set_option maxRecDepth 100000 in
set_option maxHeartbeats 2000000 in
theorem outside_igz (s : S6) (A : Option Addr) (c k : Nat) (es : List El) (w : World) (hk : 32 ≤ k ∧ k ≤ 126) (h1 : s.at_ = 6) (hk2 : 64 ≤ k) (hS : InS w A c es s) : Calls Tryd.prog 32 #[stV s A es.length c, .int .i64 (k : Int)] w (GivesS (zeroS, []) A es w) := by
  have HH := Lib.hid (two_sts w 28 s A es.length c)
  have HS := Lib.hid hS
  have hcl : ∀ V, Calls Tryd.prog 45 #[stV s A es.length c, .int .u8 (k : Int)] V fun e w' => e = .returned (stV zeroS none 0 0) ∧ Below V.heap.size V w' := fun V => by
    have h := inIgnored_c s A es.length c k (by omega) V
    rw [if_pos hk2] at h
    exact h
  have hct : ∀ V, Calls Tryd.prog 43 #[.int .i64 (k : Int)] V fun e w' => e = .returned (.bool false) ∧ w' = V := fun V => by
    have h := isControl_c (k : Int) V
    rw [show ctlB (k : Int) = false from decide_eq_false (by omega)] at h
    exact h
  have e1 : ((k : Int) == 127) = false := beq_eq_false_iff_ne.2 (by omega)
  have z0 : ¬ (k : Int) < 0 := by omega
  have z1 : ¬ (k : Int) > 127 := by omega
  have z2 : (0 : Int) ≤ k := by omega
  have z3 : (k : Int) ≤ 126 := by omega
  have e2 : (s.at_ == 0) = false := beq_eq_false_iff_ne.2 (by omega)
  have e3 : (s.at_ == 1) = false := beq_eq_false_iff_ne.2 (by omega)
  have e4 : (s.at_ == 2) = false := beq_eq_false_iff_ne.2 (by omega)
  have e5 : (s.at_ == 6) = true := beq_iff_eq.2 h1
  clear hk hS h1 hk2
  simp only [stV_eq s]
  go_enter Tryd.func32, Tryd.ntmps32
  go_upto_region 1 with fail
  obtain ⟨hA, hB, hbel, hsz⟩ := HH.out
  clear HH
  generalize (w.alloc (.cells #[.int .i64 s.at_, .string (strS s.inter), .bool s.over, .slice A es.length c, .bool s.par.o, .string (strS s.text), .int .u8 (s.kind : Int)] 28)).alloc (.cells #[.int .i64 0, .string ⟨#[]⟩, .bool false, .slice none 0 0, .bool false, .string ⟨#[]⟩, .int .u8 0] 28) = W at *
  obtain ⟨a0, a1, a2, a3, a4, a5, a6⟩ := hA.st'
  have HB := Lib.hid (And.intro hA (And.intro hB hbel))
  clear hA hB hbel
  simp only [stV_eq] at hcl
  go_wp2_with fail
  refine (hct _).mono ?_
  rintro e w1 ⟨rfl, rfl⟩
  clear hct
  go_wp2_with fail
  refine (hcl _).mono ?_
  rintro e w2 ⟨rfl, hb4⟩
  have hR := HB.out.2.1.below hb4 HB.out.2.1.lt
  have hbl := HB.out.2.2.trans (hb4.mono HB.out.2.2.size)
  have hX := hR.sto7 hbl (by omega : w.heap.size ≤ w.heap.size + 1) (.int .i64 0) (.string ⟨#[]⟩) (.bool false) (.slice none 0 0) (.bool false) (.string ⟨#[]⟩) (.int .u8 0)
  obtain ⟨c0, c1, c2, c3, c4, c5, c6⟩ := hR.cells7s
  obtain ⟨f0, f1, f2, f3, f4, f5, f6⟩ := hR.free7s
  have HX := Lib.hid hX
  clear hX hR hbl hb4 hcl HB a0 a1 a2 a3 a4 a5 a6
  go_wp2_with fail
  exact bodyPost_ret (ret_s2 rfl zeroS none 0 0 _ _ (w.heap.size + 1) _ _ rfl rfl HX.out.1) rfl (gives_none (es := []) rfl (InS.zero _) (fun X hX h => Off.nil) HX.out.2)
/-- What stands outside of strings. -/
def outS (s : S6) (r : Int) : S6 × List A6 :=
  if 0 ≤ r ∧ r < 32 then (s, execS r)
  else if r = 127 then (s, [])
  else if r < 0 ∨ 159 < r ∨ s.at_ = 0 then (zeroS, [⟨1, r, 0, [], [], []⟩])
  else if s.at_ ≤ 2 then escS s r
  else ctlS s r
theorem outside_c (s : S6) (A : Option Addr) (c : Nat) (es : List El) (r : Int) (w : World) (hr : ¬ (128 ≤ r ∧ r ≤ 159)) (ha : s.at_ ≤ 6) (hs : SaneS s) (hS : InS w A c es s) : Calls Tryd.prog 32 #[stV s A es.length c, .int .i64 r] w (GivesS (outS s r) A es w) := by
  have hlo := hs.lo
  unfold outS
  by_cases h1 : 0 ≤ r ∧ r < 32
  · rw [if_pos h1]
    exact outside_ctl s A c es r w h1 hS
  rw [if_neg h1]
  by_cases h2 : r = 127
  · rw [if_pos h2]
    exact outside_del s A c es r w h2 hS
  rw [if_neg h2]
  by_cases h3 : r < 0
  · rw [if_pos (.inl h3)]
    exact outside_neg s A c es r w h3 hS
  by_cases h4 : 159 < r
  · rw [if_pos (.inr (.inl h4))]
    exact outside_far s A c es r w (by omega) hS
  have hk : 32 ≤ r ∧ r ≤ 126 := by omega
  by_cases h0 : s.at_ = 0
  · rw [if_pos (.inr (.inr h0))]
    exact outside_gnd s A c es r w hk h0 hS
  rw [if_neg (by omega)]
  obtain ⟨k, rfl⟩ := Int.eq_ofNat_of_zero_le (show 0 ≤ r by omega)
  have hk' : 32 ≤ k ∧ k ≤ 126 := by omega
  by_cases h5 : s.at_ ≤ 2
  · rw [if_pos h5]
    by_cases h6 : s.at_ = 1
    · exact outside_esc1 s A c k es w hk' h6 hs hS
    · exact outside_esc2 s A c k es w hk' (by omega) hs hS
  rw [if_neg h5]
  by_cases h6 : s.at_ = 6
  · unfold ctlS
    by_cases h64 : 64 ≤ k
    · rw [if_pos (by omega), if_pos h6]
      exact outside_igz s A c k es w hk' h6 h64 hS
    · rw [if_neg (by omega), if_pos h6]
      exact outside_ign s A c k es w hk' h6 (by omega) hS
  · exact outside_csi s A c k es w hk' (by omega) hs hS
end Go.Proofs.YtiaippdaogmcmaaDoor
