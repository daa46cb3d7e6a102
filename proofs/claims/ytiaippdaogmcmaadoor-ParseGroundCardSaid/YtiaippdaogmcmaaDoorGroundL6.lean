/- ParseGround, walked over the contracts. -/
import Derived.Test.YtiaippdaogmcmaaDoorTextL6
import Derived.Test.YtiaippdaogmcmaaDoorRef6
import Derived.Test.YtiaippdaogmcmaaDoorRefFew
namespace Go.Proofs.YtiaippdaogmcmaaDoor
open Go Go.RowKit
set_option linter.unusedVariables false
set_option linter.unusedSimpArgs false

theorem Box.st {W : World} {g : Nat} {T : TypeId} {s : S6} {A : Option Addr} {n c : Nat} (h : Box W g T (stCells s A n c)) :
    W.cell? ⟨g, 0, none⟩ = some (.int .i64 s.at_) ∧ W.cell? ⟨g, 1, none⟩ = some (.string (strS s.inter)) ∧ W.cell? ⟨g, 2, none⟩ = some (.bool s.over) ∧ W.cell? ⟨g, 3, none⟩ = some (.slice A n c) ∧
    W.cell? ⟨g, 4, none⟩ = some (.bool s.par.o) ∧ W.cell? ⟨g, 5, none⟩ = some (.string (strS s.text)) ∧ W.cell? ⟨g, 6, none⟩ = some (.int .u8 (s.kind : Int)) :=
  ⟨h.cell 0, h.cell 1, h.cell 2, h.cell 3, h.cell 4, h.cell 5, h.cell 6⟩
/-- A parameter of a law's own variable: what a law begins with. -/
theorem par_box (s : S6) (A : Option Addr) (n c : Nat) (w : World) (T : TypeId) : Box (w.alloc (.cells #[.int .i64 s.at_, .string (strS s.inter), .bool s.over, .slice A n c, .bool s.par.o, .string (strS s.text), .int .u8 (s.kind : Int)] T)) w.heap.size T (stCells s A n c) := Box.new w _ _
set_option maxRecDepth 100000 in
set_option maxHeartbeats 8000000 in
theorem ground_law (hf : Feed6C) (hst : Step6C) (hsn : Sane6C) (s : S6) (A : Option Addr) (c : Nat) (es : List El) (L : Option Addr) (k : Nat) (rs : List Int) (w : World) (hS : InS w A c es s) (hB : Byt6 s) (hL : Its w w.heap.size L rs) (hk : rs.length ≤ k) (hk2 : k ≤ maxLen) (hr : ∀ r ∈ rs, I64 r) (hP : Pw w) :
    Calls Tryd.prog 4 #[stV s A es.length c, .slice L rs.length k] w fun e w' => e = .returned (.bool true) ∧ Below w.heap.size w w' := by
  have hg := hP.size
  have hbx := par_box s A es.length c w 35
  have hal : Below w.heap.size w (w.alloc (.cells #[.int .i64 s.at_, .string (strS s.inter), .bool s.over, .slice A es.length c, .bool s.par.o, .string (strS s.text), .int .u8 (s.kind : Int)] 35)) := (Below.refl _ _).alloc (Nat.le_refl _) _
  have haw := awake6_c hf _ (hP.below hal hg)
  have hs1 : (strS s.inter).size = s.inter.length := strS_size _
  have hs2 : (strS s.text).size = s.text.length := strS_size _
  have hmk := hk2
  unfold maxLen at hmk
  have HS := Lib.hid hS
  have HL := Lib.hid hL
  have HR := Lib.hid hr
  have HX := Lib.hid hbx
  have HAL := Lib.hid hal
  simp only [stV_eq]
  clear hS hL hr hbx hal
  go_enter Tryd.func4, Tryd.ntmps4
  go_wp2_with fail
  refine haw.mono ?_
  rintro e w1 ⟨rfl, hb1⟩
  have hbx1 := HX.out.below hb1 HX.out.lt
  have hbel1 := HAL.out.trans (hb1.mono HAL.out.size)
  obtain ⟨c0, c1, c2, c3, c4, c5, c6⟩ := hbx1.st
  have HB1 := Lib.hid (And.intro hbx1 hbel1)
  clear haw hb1 hbx1 hbel1
  by_cases h1 : s.inter.length > 10
  · have z1 : (s.inter.length : Int) > 10 := by omega
    go_wp2_with fail
    go_ret
    exact ⟨rfl, HB1.out.2⟩
  have z1 : ¬ (s.inter.length : Int) > 10 := by omega
  by_cases h2 : s.text.length > 1100
  · have z2 : (s.text.length : Int) > 1100 := by omega
    go_wp2_with fail
    go_ret
    exact ⟨rfl, HB1.out.2⟩
  have z2 : ¬ (s.text.length : Int) > 1100 := by omega
  have hfew := few_c A es c w1 (HS.out.inp.on HB1.out.2).nest
  cases hfb : fewB (qs es) with
  | false =>
    rw [hfb] at hfew
    clear hfb
    go_wp2_with fail
    refine hfew.mono ?_
    rintro e w2 ⟨rfl, hb2⟩
    have hbel2 := HB1.out.2.trans (hb2.mono HB1.out.2.size)
    clear hfew hb2
    go_wp2_with fail
    go_ret
    exact ⟨rfl, hbel2⟩
  | true =>
    rw [hfb] at hfew
    clear hfb
    by_cases h4 : rs.length > 1200
    · have z4 : (rs.length : Int) > 1200 := by omega
      go_wp2_with fail
      refine hfew.mono ?_
      rintro e w2 ⟨rfl, hb2⟩
      have hbel2 := HB1.out.2.trans (hb2.mono HB1.out.2.size)
      clear hfew hb2
      go_wp2_with fail
      go_ret
      exact ⟨rfl, hbel2⟩
    have z4 : ¬ (rs.length : Int) > 1200 := by omega
    go_wp2_with fail
    refine hfew.mono ?_
    rintro e w2 ⟨rfl, hb2⟩
    have hbel2 := HB1.out.2.trans (hb2.mono HB1.out.2.size)
    have hbx2 := HB1.out.1.below hb2 HB1.out.1.lt
    have ho := ours_c s A es.length c w2
    simp only [stV_eq] at ho
    obtain ⟨c0, c1, c2, c3, c4, c5, c6⟩ := hbx2.st
    have HB2 := Lib.hid (And.intro hbx2 hbel2)
    clear hfew hb2 hbx2 hbel2
    go_wp2_with fail
    refine ho.mono ?_
    rintro e w3 ⟨rfl, hb3⟩
    have hbel3 := HB2.out.2.trans (hb3.mono HB2.out.2.size)
    have hbx3 := HB2.out.1.below hb3 HB2.out.1.lt
    have hsz : SizeS s := ⟨by omega, by omega⟩
    have hsa := hsn s A c es w3 (HS.out.on hbel3) hB hsz
    simp only [stV_eq] at hsa
    have HB3 := Lib.hid (And.intro hbx3 hbel3)
    clear ho hb3 hbx3 hbel3
    by_cases hss : SaneS s
    · rw [decide_eq_true hss] at hsa
      have HSS := Lib.hid hss
      clear hss
      go_wp2_with fail
      refine hsa.mono ?_
      rintro e w4 ⟨rfl, hb4⟩
      have hbel4 := HB3.out.2.trans (hb4.mono HB3.out.2.size)
      have hbx4 := HB3.out.1.below hb4 HB3.out.1.lt
      have ho := ours_c s A es.length c w4
      simp only [stV_eq] at ho
      obtain ⟨c0, c1, c2, c3, c4, c5, c6⟩ := hbx4.st
      have HB4 := Lib.hid hbel4
      clear hsa hb4 hbx4 hbel4
      go_wp2_with fail
      refine ho.mono ?_
      rintro e w5 ⟨rfl, hb5⟩
      have hbel5 := HB4.out.trans (hb5.mono HB4.out.size)
      have hsp := hst s A c es 24 w5 (HS.out.on hbel5) hB hsz (by unfold I64; decide)
      rw [step_cancel HSS.out] at hsp
      simp only [stV_eq] at hsp
      have HB5 := Lib.hid hbel5
      clear ho hb5 hbel5 c0 c1 c2 c3 c4 c5 c6
      go_wp2_with fail
      refine hsp.mono ?_
      rintro e w6 ⟨Aa, ca, ea, B, d, l, rfl, hSa, hin, hac, -, hb6⟩
      obtain ⟨x, rfl, hxp⟩ := one_act hac
      have e1 : x.what = 2 := congrArg A6.what hxp
      have e2 : x.fin = 24 := congrArg A6.fin hxp
      have hbel6 := HB5.out.trans (hb6.mono HB5.out.size)
      have hal7 : Below w6.heap.size w6 (w6.alloc (.cells #[.int .i64 0, .string ⟨#[]⟩, .bool false, .slice Aa ea.length ca, .bool false, .string ⟨#[]⟩, .int .u8 0] 28)) := (Below.refl _ _).alloc (Nat.le_refl _) _
      have hba : Box (w6.alloc (.cells #[.int .i64 0, .string ⟨#[]⟩, .bool false, .slice Aa ea.length ca, .bool false, .string ⟨#[]⟩, .int .u8 0] 28)) w6.heap.size 28 (stCells zeroS Aa ea.length ca) := Box.new w6 _ _
      have hbel7 := hbel6.trans (hal7.mono hbel6.size)
      have hfa := hf zeroS Aa ca ea L k rs _ (hSa.on hal7) zero_byt zero_size (HL.out.on hbel7) hk hk2 (by omega) HR.out
      have hfb : ∀ V, Below w.heap.size w V → Calls Tryd.prog 9 #[stV zeroS none 0 0, .slice L rs.length k] V (GivesF (feedS zeroS rs) none [] V) := fun V hV => feed_zero hf (HL.out.on hV) hk hk2 (by omega) HR.out
      generalize feedS zeroS rs = y at hfa hfb
      rw [zero_stV] at hfa
      simp only [zero_val] at hfb
      obtain ⟨q0, q1, q2, q3, q4, q5, q6⟩ := hba.st
      have H7 := Lib.hid (And.intro hba (And.intro (hSa.on hal7) (And.intro (hin.on hal7) hbel7)))
      have HF := Lib.hid hfb
      have HE := Lib.hid (And.intro e1 e2)
      clear hsp hSa hin hac hxp e1 e2 hbel6 hal7 hba hbel7 hb6 hfb
      simp only [zero_stV, List.length_singleton]
      go_wp2_with fail
      refine hfa.mono ?_
      rintro e w8 ⟨Ab, cb, eb, B2, d2, l2, rfl, hSb, hown2, hpar2, hac2, hb8, -⟩
      have hin2 := InA.of_own hown2 hpar2
      obtain ⟨hba, hSa, hin, hbel7⟩ := H7.out
      have hbel8 := hbel7.trans (hb8.mono hbel7.size)
      have hba8 := hba.below hb8 hba.lt
      have hSa8 := hSa.on hb8
      have hin8 := hin.on hb8
      have hal9 : Below w8.heap.size w8 (w8.alloc (.cells #[.int .i64 y.1.at_, .string (strS y.1.inter), .bool y.1.over, .slice Ab eb.length cb, .bool y.1.par.o, .string (strS y.1.text), .int .u8 (y.1.kind : Int)] 28)) := (Below.refl _ _).alloc (Nat.le_refl _) _
      have hbb := par_box y.1 Ab eb.length cb w8 28
      have hbel9 := hbel8.trans (hal9.mono hbel8.size)
      have hfc := HF.out _ hbel9
      have H9 := Lib.hid (And.intro hbb (And.intro (hSb.on hal9) (And.intro (hin2.on hal9) (And.intro (hba8.below hal9 hba8.lt) (And.intro (hSa8.on hal9) (And.intro (hin8.on hal9) (And.intro hbel9 hac2)))))))
      clear hfa hown2 hpar2 hac2 hin2 hba hSa hin hbel7 hbel8 hba8 hSa8 hin8 hal9 hbb hbel9 hb8 hSb q0 q1 q2 q3 q4 q5 q6 HF H7
      simp only [stV_eq]
      go_wp2_with fail
      refine hfc.mono ?_
      rintro e w10 ⟨Ac, cc, ec, B3, d3, l3, rfl, hSc, hown3, hpar3, hac3, hb10, -⟩
      have hin3 := InA.of_own hown3 hpar3
      obtain ⟨hbb, hSb, hin2, hba, hSa, hin, hbel9, hac2⟩ := H9.out
      have hal11 : Below w10.heap.size w10 (w10.alloc (.cells #[.int .i64 y.1.at_, .string (strS y.1.inter), .bool y.1.over, .slice Ac ec.length cc, .bool y.1.par.o, .string (strS y.1.text), .int .u8 (y.1.kind : Int)] 28)) := (Below.refl _ _).alloc (Nat.le_refl _) _
      have hbc := par_box y.1 Ac ec.length cc w10 28
      have hb11 := hb10.trans (hal11.mono hb10.size)
      have hbb11 := hbb.below hb11 hbb.lt
      have hba11 := hba.below hb11 hba.lt
      have hbel11 := hbel9.trans (hb11.mono hbel9.size)
      have H11 := Lib.hid (And.intro (hSa.on hb11) (And.intro (hSb.on hb11) (And.intro (hSc.on hal11) (And.intro (hin2.on hb11) (And.intro (hin3.on hal11) (And.intro (hac2.trans hac3.symm) hbel11))))))
      obtain ⟨b, o, rfl, hbl, k0, k1, k2, k3, k4, k5, ip⟩ := (hin.on hb11).at_ (k := 0) rfl
      rw [HE.out.1] at k0
      rw [HE.out.2] at k2
      simp only [Nat.zero_mul, Nat.add_zero] at k0 k2
      have hd1 := hin.cap
      have hd2 := hin.max
      unfold maxLen at hd2
      simp only [List.length_singleton] at hd1
      clear hfc hown3 hpar3 hac3 hin3 hbb hSb hin2 hba hSa hin hbel9 hac2 hal11 hb10 hSc H9 k1 k3 k4 k5 ip hb11 hbel11
      simp only [stV_eq]
      go_upto_region 7 with fail
      generalize w10.alloc (.cells #[.int .i64 y.1.at_, .string (strS y.1.inter), .bool y.1.over, .slice Ac ec.length cc, .bool y.1.par.o, .string (strS y.1.text), .int .u8 (y.1.kind : Int)] 28) = W at *
      obtain ⟨IA, IB, IC, I2, I3, hacs, hbelW⟩ := H11.out
      have hT1 : ∀ V, Calls Tryd.prog 11 #[.agg #[.int .i64 0, .string ⟨#[]⟩, .bool false, .slice Aa ea.length ca, .bool false, .string ⟨#[]⟩, .int .u8 0]] V fun e w' => e = .returned (.agg #[.int .i64 0, .string ⟨#[]⟩, .bool false, .slice Aa ea.length ca, .bool false, .string ⟨#[]⟩, .int .u8 0]) ∧ Below V.heap.size V w' := fun V => theirs_c zeroS Aa ea.length ca V
      have hS1 : ∀ V, Below W.heap.size W V → Calls Tryd.prog 10 #[.agg #[.int .i64 0, .string ⟨#[]⟩, .bool false, .slice Aa ea.length ca, .bool false, .string ⟨#[]⟩, .int .u8 0], .agg #[.int .i64 0, .string ⟨#[]⟩, .bool false, .slice none 0 0, .bool false, .string ⟨#[]⟩, .int .u8 0]] V fun e w' => e = .returned (.bool true) ∧ Below V.heap.size V w' := fun V hV => same6_c zeroS Aa none ea [] ca 0 V (IA.on hV) (InS.zero V)
      have hT2 := fun V => theirs_c y.1 Ab eb.length cb V
      have hT3 := fun V => theirs_c y.1 Ac ec.length cc V
      have hS2 : ∀ V, Below W.heap.size W V → Calls Tryd.prog 10 #[stV y.1 Ab eb.length cb, stV y.1 Ac ec.length cc] V fun e w' => e = .returned (.bool true) ∧ Below V.heap.size V w' := fun V hV => same6_c y.1 Ab Ac eb ec cb cc V (IB.on hV) (IC.on hV)
      have hA2 : ∀ V, Below W.heap.size W V → Calls Tryd.prog 12 #[.slice B2 l2.length d2, .slice B3 l3.length d3] V fun e w' => e = .returned (.bool true) ∧ Below V.heap.size V w' := fun V hV => actions_c B2 B3 d2 d3 l2 l3 V (I2.on hV) (I3.on hV) hacs
      simp only [stV_eq] at hT2 hT3 hS2
      have CT1 := Lib.hid hT1
      have CS1 := Lib.hid hS1
      have CT2 := Lib.hid hT2
      have CT3 := Lib.hid hT3
      have CS2 := Lib.hid hS2
      have CA2 := Lib.hid hA2
      have HBW := Lib.hid hbelW
      have g0 := Ext.cell (w := W) (B := W.heap.size) hbl k0
      have g2 := Ext.cell (w := W) (B := W.heap.size) hbl k2
      have p0 := Ext.cell (w := W) (B := W.heap.size) hba11.lt (show W.cell? ⟨w6.heap.size, 0, none⟩ = some (.int .i64 0) from hba11.cell 0)
      have p1 := Ext.cell (w := W) (B := W.heap.size) hba11.lt (show W.cell? ⟨w6.heap.size, 1, none⟩ = some (.string ⟨#[]⟩) from hba11.cell 1)
      have p2 := Ext.cell (w := W) (B := W.heap.size) hba11.lt (show W.cell? ⟨w6.heap.size, 2, none⟩ = some (.bool false) from hba11.cell 2)
      have p3 := Ext.cell (w := W) (B := W.heap.size) hba11.lt (show W.cell? ⟨w6.heap.size, 3, none⟩ = some (.slice Aa ea.length ca) from hba11.cell 3)
      have p4 := Ext.cell (w := W) (B := W.heap.size) hba11.lt (show W.cell? ⟨w6.heap.size, 4, none⟩ = some (.bool false) from hba11.cell 4)
      have p5 := Ext.cell (w := W) (B := W.heap.size) hba11.lt (show W.cell? ⟨w6.heap.size, 5, none⟩ = some (.string ⟨#[]⟩) from hba11.cell 5)
      have p6 := Ext.cell (w := W) (B := W.heap.size) hba11.lt (show W.cell? ⟨w6.heap.size, 6, none⟩ = some (.int .u8 0) from hba11.cell 6)
      have q0 := Ext.cell (w := W) (B := W.heap.size) hbb11.lt (show W.cell? ⟨w8.heap.size, 0, none⟩ = some (.int .i64 y.1.at_) from hbb11.cell 0)
      have q1 := Ext.cell (w := W) (B := W.heap.size) hbb11.lt (show W.cell? ⟨w8.heap.size, 1, none⟩ = some (.string (strS y.1.inter)) from hbb11.cell 1)
      have q2 := Ext.cell (w := W) (B := W.heap.size) hbb11.lt (show W.cell? ⟨w8.heap.size, 2, none⟩ = some (.bool y.1.over) from hbb11.cell 2)
      have q3 := Ext.cell (w := W) (B := W.heap.size) hbb11.lt (show W.cell? ⟨w8.heap.size, 3, none⟩ = some (.slice Ab eb.length cb) from hbb11.cell 3)
      have q4 := Ext.cell (w := W) (B := W.heap.size) hbb11.lt (show W.cell? ⟨w8.heap.size, 4, none⟩ = some (.bool y.1.par.o) from hbb11.cell 4)
      have q5 := Ext.cell (w := W) (B := W.heap.size) hbb11.lt (show W.cell? ⟨w8.heap.size, 5, none⟩ = some (.string (strS y.1.text)) from hbb11.cell 5)
      have q6 := Ext.cell (w := W) (B := W.heap.size) hbb11.lt (show W.cell? ⟨w8.heap.size, 6, none⟩ = some (.int .u8 (y.1.kind : Int)) from hbb11.cell 6)
      have r0 := Ext.cell (w := W) (B := W.heap.size) hbc.lt (show W.cell? ⟨w10.heap.size, 0, none⟩ = some (.int .i64 y.1.at_) from hbc.cell 0)
      have r1 := Ext.cell (w := W) (B := W.heap.size) hbc.lt (show W.cell? ⟨w10.heap.size, 1, none⟩ = some (.string (strS y.1.inter)) from hbc.cell 1)
      have r2 := Ext.cell (w := W) (B := W.heap.size) hbc.lt (show W.cell? ⟨w10.heap.size, 2, none⟩ = some (.bool y.1.over) from hbc.cell 2)
      have r3 := Ext.cell (w := W) (B := W.heap.size) hbc.lt (show W.cell? ⟨w10.heap.size, 3, none⟩ = some (.slice Ac ec.length cc) from hbc.cell 3)
      have r4 := Ext.cell (w := W) (B := W.heap.size) hbc.lt (show W.cell? ⟨w10.heap.size, 4, none⟩ = some (.bool y.1.par.o) from hbc.cell 4)
      have r5 := Ext.cell (w := W) (B := W.heap.size) hbc.lt (show W.cell? ⟨w10.heap.size, 5, none⟩ = some (.string (strS y.1.text)) from hbc.cell 5)
      have r6 := Ext.cell (w := W) (B := W.heap.size) hbc.lt (show W.cell? ⟨w10.heap.size, 6, none⟩ = some (.int .u8 (y.1.kind : Int)) from hbc.cell 6)
      clear hT1 hS1 hT2 hT3 hS2 hA2 IA IB IC I2 I3 hacs hbelW H11 k0 k2 hba11 hbb11 hbc
      refine region_plan [([0, 1, 2, 3, 4, 5, 6, 7, 8, 9, 10, 11, 12, 13, 14, 15, 16, 17, 18, 19, 20, 21, 23], [22, 24]), ([25, 26, 27, 29], [28, 30, 31]), ([32, 33, 34, 35], [36]), ([37, 38], [])] (fun w' => ∃ u : Ext W W.heap.size, w' = u.val) (by kernel_rfl) (by kernel_rfl) (fun _ _ _ _ _ h => h) ⟨⟨_, (Below.refl _ _).drew⟩, rfl⟩ ?_
      simp only [wpPlan, sel, List.take_succ_cons, List.take_zero, List.drop_succ_cons, List.drop_zero, List.cons_append, List.nil_append]
      repeat (go_big_quiet_step (fail))
      refine wpQuiet_nil ?_
      unfold wpChain
      go_wp2_with fail
      refine (CT1.out _).mono ?_
      rintro e v1 ⟨rfl, hv1⟩
      have HV1 : Below W.heap.size W v1 := (Below.refl W.heap.size W).drew.trans hv1
      clear hv1
      go_wp2_with fail
      refine ⟨⟨⟨_, HV1⟩, rfl⟩, ?_⟩
      unfold wpChain
      go_wp2_with fail
      refine (CS1.out _ HV1).mono ?_
      rintro e v2 ⟨rfl, hv2⟩
      have HV2 : Below W.heap.size W v2 := HV1.trans (hv2.mono HV1.size)
      clear hv2
      go_wp2_with fail
      refine ⟨⟨⟨_, HV2⟩, rfl⟩, ?_⟩
      unfold wpChain
      repeat (go_big_quiet_step (fail))
      refine wpQuiet_nil ?_
      unfold wpChain
      go_wp2_with fail
      refine (CT2.out _).mono ?_
      rintro e v3 ⟨rfl, hv3⟩
      have HV3 : Below W.heap.size W v3 := HV2.trans (hv3.mono HV2.size)
      clear hv3
      go_wp2_with fail
      refine ⟨⟨⟨_, HV3⟩, rfl⟩, ?_⟩
      unfold wpChain
      go_wp2_with fail
      refine (CT3.out _).mono ?_
      rintro e v4 ⟨rfl, hv4⟩
      have HV4 : Below W.heap.size W v4 := HV3.trans (hv4.mono HV3.size)
      clear hv4
      go_wp2_with fail
      refine ⟨⟨⟨_, HV4⟩, rfl⟩, ?_⟩
      unfold wpChain
      go_wp2_with fail
      refine (CS2.out _ HV4).mono ?_
      rintro e v5 ⟨rfl, hv5⟩
      have HV5 : Below W.heap.size W v5 := HV4.trans (hv5.mono HV4.size)
      clear hv5
      go_wp2_with fail
      refine ⟨⟨⟨_, HV5⟩, rfl⟩, ?_⟩
      unfold wpChain
      repeat (go_big_quiet_step (fail))
      refine wpQuiet_nil ?_
      unfold wpChain
      go_wp2_with fail
      refine (CA2.out _ HV5).mono ?_
      rintro e v6 ⟨rfl, hv6⟩
      have HV6 : Below W.heap.size W v6 := HV5.trans (hv6.mono HV5.size)
      clear hv6
      go_wp2_with fail
      refine ⟨⟨⟨_, HV6⟩, rfl⟩, ?_⟩
      unfold wpChain
      repeat (go_big_quiet_step (fail))
      refine wpQuiet_nil ?_
      unfold wpChain
      have hend := HBW.out.trans (HV6.mono HBW.out.size)
      clear g0 g2 p0 p1 p2 p3 p4 p5 p6 q0 q1 q2 q3 q4 q5 q6 r0 r1 r2 r3 r4 r5 r6
      go_wp2_with fail
      go_ret
      exact ⟨rfl, hend⟩
    · rw [decide_eq_false hss] at hsa
      clear hss
      go_wp2_with fail
      refine hsa.mono ?_
      rintro e w4 ⟨rfl, hb4⟩
      have hbel4 := HB3.out.2.trans (hb4.mono HB3.out.2.size)
      clear hsa hb4
      go_wp2_with fail
      go_ret
      exact ⟨rfl, hbel4⟩
end Go.Proofs.YtiaippdaogmcmaaDoor
