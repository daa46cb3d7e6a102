/- ParseCuts, walked over the contracts. -/
import Derived.Test.YtiaippdaogmcmaaDoorGroundL6
import Derived.Test.YtiaippdaogmcmaaDoorAppA
import Derived.Test.YtiaippdaogmcmaaDoorBitsR
import Derived.Test.YtiaippdaogmcmaaDoorP5Calls
import Derived.Test.YtiaippdaogmcmaaDoorMem6
namespace Go.Proofs.YtiaippdaogmcmaaDoor
open Go Go.RowKit
set_option linter.unusedVariables false
set_option linter.unusedSimpArgs false

def CMet (w8 : World) (Ab : Option Addr) (eb : List El) (y : S6 × List A6) (u11 u12 : Value) (wx : World) : Prop := ∃ X Ac cc ec B d l, u11 = .pointer (some ⟨X, 0, none⟩) ∧ u12 = .slice B (List.length l) d ∧ Box wx X 28 (stCells y.1 Ac ec.length cc) ∧ InS wx Ac cc ec y.1 ∧ InA wx B d l ∧ acts l = y.2 ∧ Below w8.heap.size w8 wx ∧
  ∀ X, X < w8.heap.size → Off X Ab eb → Off X Ac ec ∧ ∀ e ∈ l, Off X e.A e.es
set_option maxRecDepth 100000 in
set_option maxHeartbeats 8000000 in
theorem cuts_law (hf : Feed6C) (hsn : Sane6C) (L : Option Addr) (cap : Nat) (rs : List Int) (n : Int) (w : World) (hL : Its w w.heap.size L rs) (hk : rs.length ≤ cap) (hk2 : cap ≤ maxLen) (hr : ∀ r ∈ rs, I64 r) (hP : Pw w) :
    Calls Tryd.prog 3 #[.slice L rs.length cap, .int .i64 n] w fun e w' => e = .returned (.bool true) ∧ Below w.heap.size w w' := by
  have hg := hP.size
  have hmk := hk2
  unfold maxLen at hmk
  by_cases hbig : 1200 < rs.length
  · have hz : (rs.length : Int) > 1200 := by omega
    go_enter Tryd.func3, Tryd.ntmps3
    go_wp2_with fail
    refine (awake6_c hf w hP).mono ?_
    rintro e w1 ⟨rfl, hb1⟩
    go_wp2_with fail
    go_ret
    exact ⟨rfl, hb1⟩
  · have hz : ¬ (rs.length : Int) > 1200 := by omega
    have a1 : bits .and .i64 n 65535 = n % 65536 := and_low n 16 (by decide)
    have b1 : 0 ≤ n % 65536 ∧ n % 65536 < 65536 := by omega
    generalize n % 65536 = m at *
    go_enter Tryd.func3, Tryd.ntmps3
    go_wp2_with fail
    refine (awake6_c hf w hP).mono ?_
    rintro e w1 ⟨rfl, hb1⟩
    go_upto_if 20 with fail
    go_cut [6] (fun u wx => ∃ kN : Nat, u = .int .i64 (kN : Int) ∧ kN ≤ rs.length ∧ (rs.length ≠ 0 → kN < rs.length) ∧ wx = w1)
    case first =>
      by_cases h0 : rs.length = 0
      · have z0 : ¬ (rs.length : Int) > 0 := by omega
        have H0 := Lib.hid h0
        clear h0
        go_wp2_with fail
        go_meet
        exact ⟨0, rfl, Nat.zero_le _, fun h => absurd H0.out h, by first | rfl | trivial⟩
      · have z0 : (rs.length : Int) > 0 := by omega
        have z2 : ((rs.length : Int) == 0) = false := beq_eq_false_iff_ne.2 (by omega)
        have hm1 := Int.emod_nonneg m (show (rs.length : Int) ≠ 0 by omega)
        have hm2 := Int.emod_lt_of_pos m (show (0 : Int) < (rs.length : Int) by omega)
        obtain ⟨kN, hkN⟩ : ∃ kN : Nat, m % (rs.length : Int) = (kN : Int) := ⟨(m % (rs.length : Int)).toNat, by omega⟩
        have hlt : kN < rs.length := by omega
        clear hm1 hm2
        go_wp2_with fail
        go_meet
        exact ⟨kN, by rw [hkN], by omega, fun _ => hlt, by first | rfl | trivial⟩
    case rest =>
      obtain ⟨kN, rfl, hkle, hklt, rfl⟩ := hcut
      have hcut1 : Its wc wc.heap.size L (rs.take kN) := (hL.on hb1).take kN
      have htl : (rs.take kN).length = kN := by rw [List.length_take]; omega
      have hdl : (rs.drop kN).length = rs.length - kN := List.length_drop ..
      have hf1 := feed_zero hf (hL.on hb1) hk hk2 (by omega) hr
      have hf2 : ∀ V, Below wc.heap.size wc V → Calls Tryd.prog 9 #[stV zeroS none 0 0, .slice L kN cap] V (GivesF (feedS zeroS (rs.take kN)) none [] V) := fun V hV => by
        have := feed_zero hf (hcut1.on hV) (by rw [htl]; omega) hk2 (by rw [htl]; omega) (fun r h => hr r (List.mem_of_mem_take h))
        rwa [htl] at this
      have hfa : feedS zeroS rs = ((feedS (feedS zeroS (rs.take kN)).1 (rs.drop kN)).1, (feedS zeroS (rs.take kN)).2 ++ (feedS (feedS zeroS (rs.take kN)).1 (rs.drop kN)).2) := by
        rw [← feed6_app zeroS_sane, List.take_append_drop]
      have hfw1 := feed_few (rs.take kN) zeroS_sane
      have hsb := feed6_sane zeroS (rs.take kN)
      have hyb := feed_byt zero_byt (rs.take kN)
      have hfw2 := feed_few (rs.drop kN) hsb
      have hsa := feed6_sane (feedS zeroS (rs.take kN)).1 (rs.drop kN)
      have hya := feed_byt hyb (rs.drop kN)
      have HDR := Lib.hid (fun V hV => ((hL.on hb1).on hV : Its V V.heap.size L rs))
      rw [hfa] at hf1
      generalize feedS zeroS (rs.take kN) = yb at *
      have hf3 : ∀ (Ab : Option Addr) (cb : Nat) (eb : List El) (L2 : Option Addr) (c2 : Nat) (V : World), InS V Ab cb eb yb.1 → Its V V.heap.size L2 (rs.drop kN) → rs.length - kN ≤ c2 → c2 ≤ maxLen → Calls Tryd.prog 9 #[stV yb.1 Ab eb.length cb, .slice L2 (rs.length - kN) c2] V (GivesF (feedS yb.1 (rs.drop kN)) Ab eb V) := fun Ab cb eb L2 c2 V h1 h2 h3 h4 => by
        have := hf yb.1 Ab cb eb L2 c2 (rs.drop kN) V h1 hyb (sane_size6 hsb) h2 (by rw [hdl]; exact h3) h4 (by rw [hdl]; omega) (fun r h => hr r (List.mem_of_mem_drop h))
        rwa [hdl] at this
      generalize feedS yb.1 (rs.drop kN) = yc at *
      have H1 := Lib.hid hf2
      have H3 := Lib.hid hf3
      rw [htl] at hfw1
      rw [hdl] at hfw2
      have HSB := Lib.hid (And.intro hsb (And.intro hyb (And.intro hsa hya)))
      have HFW := Lib.hid (show yb.2.length + yc.2.length ≤ 10000 by omega)
      have HKL := Lib.hid hklt
      simp only [zero_val] at hf1
      clear hfw1 hfw2 hcut1 htl hdl hf2 hf3 hfa hsb hyb hsa hya hklt
      go_wp2_with fail
      refine hf1.mono ?_
      rintro e w3 ⟨Aa, ca, ea, B, d, l, rfl, hSa, hown, hpar, hac, hb3, -⟩
      have hin := InA.of_own hown hpar
      have hal4 : Below w3.heap.size w3 (w3.alloc (.cells #[.int .i64 yc.1.at_, .string (strS yc.1.inter), .bool yc.1.over, .slice Aa ea.length ca, .bool yc.1.par.o, .string (strS yc.1.text), .int .u8 (yc.1.kind : Int)] 28)) := (Below.refl _ _).alloc (Nat.le_refl _) _
      have hba := par_box yc.1 Aa ea.length ca w3 28
      have hb4 := hb3.trans (hal4.mono hb3.size)
      have hfb := H1.out _ hb4
      simp only [zero_val] at hfb
      have H4 := Lib.hid (And.intro hba (And.intro (hSa.on hal4) (And.intro (hin.on hal4) (And.intro hac hb4))))
      clear hf1 hSa hown hpar hac hb3 hin hal4 hba hb4 H1
      simp only [stV_eq]
      go_wp2_with fail
      refine hfb.mono ?_
      rintro e w5 ⟨Ab, cb, eb, B2, d2, l2, rfl, hSb, hown2, hpar2, hac2, hb5, hfar2⟩
      obtain ⟨hba, hSa, hin, hac, hb4⟩ := H4.out
      have hal6 : Below w5.heap.size w5 (w5.alloc (.cells #[.int .i64 yb.1.at_, .string (strS yb.1.inter), .bool yb.1.over, .slice Ab eb.length cb, .bool yb.1.par.o, .string (strS yb.1.text), .int .u8 (yb.1.kind : Int)] 28)) := (Below.refl _ _).alloc (Nat.le_refl _) _
      have hbb := par_box yb.1 Ab eb.length cb w5 28
      have hb6 := hb5.trans (hal6.mono hb5.size)
      have hw4 : (w3.alloc (.cells #[.int .i64 yc.1.at_, .string (strS yc.1.inter), .bool yc.1.over, .slice Aa ea.length ca, .bool yc.1.par.o, .string (strS yc.1.text), .int .u8 (yc.1.kind : Int)] 28)).heap.size = w3.heap.size + 1 := by simp
      have H6 := Lib.hid (And.intro hba (And.intro hSa (And.intro hin (And.intro hac (And.intro hb4 (And.intro hbb (And.intro (hSb.on hal6) (And.intro (own_below hown2 hal6) (And.intro (fun e he => (hpar2 e he).on hal6 : ∀ e ∈ l2, InP _ e.A e.c e.es) (And.intro hac2 (And.intro hb6 (And.intro hfar2 (hb4.trans (hb6.mono hb4.size))))))))))))))
      clear hfb hba hSa hin hac hb4 hal6 hb6 hSb hown2 hpar2 hac2 hb5 hfar2 hbb H4 hw4
      simp only [stV_eq]
      go_upto_region 9 with fail
      generalize hW4 : w3.alloc (.cells #[.int .i64 yc.1.at_, .string (strS yc.1.inter), .bool yc.1.over, .slice Aa ea.length ca, .bool yc.1.par.o, .string (strS yc.1.text), .int .u8 (yc.1.kind : Int)] 28) = W4 at *
      generalize hW6 : w5.alloc (.cells #[.int .i64 yb.1.at_, .string (strS yb.1.inter), .bool yb.1.over, .slice Ab eb.length cb, .bool yb.1.par.o, .string (strS yb.1.text), .int .u8 (yb.1.kind : Int)] 28) = W6 at *
      clear hW4 hW6
      have hbb := H6.out.2.2.2.2.2.1
      have hSb := H6.out.2.2.2.2.2.2.1
      have hIts := HDR.out W6 H6.out.2.2.2.2.2.2.2.2.2.2.2.2
      have hbW : w5.heap.size < W6.heap.size := hbb.lt
      have p0 := Ext.cell (w := W6) (B := W6.heap.size) hbW (show W6.cell? ⟨w5.heap.size, 0, none⟩ = some (.int .i64 yb.1.at_) from hbb.cell 0)
      have p1 := Ext.cell (w := W6) (B := W6.heap.size) hbW (show W6.cell? ⟨w5.heap.size, 1, none⟩ = some (.string (strS yb.1.inter)) from hbb.cell 1)
      have p2 := Ext.cell (w := W6) (B := W6.heap.size) hbW (show W6.cell? ⟨w5.heap.size, 2, none⟩ = some (.bool yb.1.over) from hbb.cell 2)
      have p3 := Ext.cell (w := W6) (B := W6.heap.size) hbW (show W6.cell? ⟨w5.heap.size, 3, none⟩ = some (.slice Ab eb.length cb) from hbb.cell 3)
      have p4 := Ext.cell (w := W6) (B := W6.heap.size) hbW (show W6.cell? ⟨w5.heap.size, 4, none⟩ = some (.bool yb.1.par.o) from hbb.cell 4)
      have p5 := Ext.cell (w := W6) (B := W6.heap.size) hbW (show W6.cell? ⟨w5.heap.size, 5, none⟩ = some (.string (strS yb.1.text)) from hbb.cell 5)
      have p6 := Ext.cell (w := W6) (B := W6.heap.size) hbW (show W6.cell? ⟨w5.heap.size, 6, none⟩ = some (.int .u8 (yb.1.kind : Int)) from hbb.cell 6)
      have hck : kN ≤ cap := by omega
      have HH3 : Hid (∀ (V : World), Below W6.heap.size W6 V → Calls Tryd.prog 9 #[stV yb.1 Ab eb.length cb, .slice (if cap = kN then L else Option.map (fun x => x.add kN) L) (rs.length - kN) (cap - kN)] V (GivesF yc Ab eb V)) := Lib.hid (fun V hV => H3.out Ab cb eb _ _ V (hSb.on hV) ((hIts.on hV).cut hk) (by omega) (by unfold maxLen; omega))
      have hOffB : Off W6.heap.size Ab eb := hSb.inp.offNew (Nat.le_refl _)
      clear hbb hSb hIts H3
      go_cut [11, 12] (fun u11 u12 wx => CMet W6 Ab eb yc u11 u12 wx)
      case first =>
        by_cases hce : cap = kN
        · have hcc : ∀ (V : World), Below W6.heap.size W6 V → Calls Tryd.prog 9 #[stV yb.1 Ab eb.length cb, .slice L 0 0] V (GivesF yc Ab eb V) := fun V hV => by
            have := HH3.out V hV
            rw [if_pos hce, show rs.length - kN = 0 from by omega, show cap - kN = 0 from by omega] at this
            exact this
          have h0 : rs.length = 0 := by
            rcases Nat.eq_zero_or_pos rs.length with h | h
            · exact h
            · have := HKL.out (by omega); omega
          obtain rfl : rs = [] := List.eq_nil_of_length_eq_zero h0
          obtain rfl : kN = 0 := by simpa using hkle
          obtain rfl : cap = 0 := hce
          clear h0 HH3 HKL
          simp only [stV_eq] at hcc
          have HCC := Lib.hid hcc
          clear hcc
          refine region_plan2 [([0, 1, 2, 3], [])] 6 4 8 [([5, 6, 7], [8, 9]), ([10], [])] [([], [4]), ([5, 6, 7], [9]), ([10], [])] (fun w' => ∃ u : Ext W6 W6.heap.size, w' = u.val) (by kernel_rfl) (by kernel_rfl) (fun _ _ _ _ _ h => h) ⟨⟨_, (Below.refl _ _).drew⟩, rfl⟩ ?_
          simp only [wpPlanK, sel, List.take_succ_cons, List.take_zero, List.drop_succ_cons, List.drop_zero, List.cons_append, List.nil_append]
          repeat (go_big_quiet_step (fail))
          refine wpQuiet_nil ?_
          simp only [wpChain, wpPlanK]
          refine ⟨?_, ?_⟩
          · go_wp2_with fail
            refine (HCC.out _ (Below.refl _ _).drew).mono ?_
            rintro e w7 ⟨Ac, cc, ec, B3, d3, l3, rfl, hSc, hown3, hpar3, hac3, hb7, hfar3⟩
            have hv7 : Below W6.heap.size W6 w7 := ((Below.refl W6.heap.size W6).drew).trans hb7
            have hbz : Below W6.heap.size W6 (w7.alloc (.cells #[.int .i64 0, .string ⟨#[]⟩, .bool false, .slice none 0 0, .bool false, .string ⟨#[]⟩, .int .u8 0] 28)) := hv7.alloc hv7.size _
            have hal8 : Below w7.heap.size w7 (w7.alloc (.cells #[.int .i64 yc.1.at_, .string (strS yc.1.inter), .bool yc.1.over, .slice Ac ec.length cc, .bool yc.1.par.o, .string (strS yc.1.text), .int .u8 (yc.1.kind : Int)] 28)) := (Below.refl _ _).alloc (Nat.le_refl _) _
            have hb8 : Below W6.heap.size W6 (w7.alloc (.cells #[.int .i64 yc.1.at_, .string (strS yc.1.inter), .bool yc.1.over, .slice Ac ec.length cc, .bool yc.1.par.o, .string (strS yc.1.text), .int .u8 (yc.1.kind : Int)] 28)) := hv7.alloc hv7.size _
            have HFM : Hid (CMet W6 Ab eb yc (.pointer (some ⟨w7.heap.size, 0, none⟩)) (.slice B3 l3.length d3) (w7.alloc (.cells #[.int .i64 yc.1.at_, .string (strS yc.1.inter), .bool yc.1.over, .slice Ac ec.length cc, .bool yc.1.par.o, .string (strS yc.1.text), .int .u8 (yc.1.kind : Int)] 28))) := Lib.hid ⟨w7.heap.size, Ac, cc, ec, B3, d3, l3, rfl, rfl, Box.new w7 _ _, hSc.on hal8, (InA.of_own hown3 hpar3).on hal8, hac3, hb8, hfar3.2⟩
            have HB8 := Lib.hid hb8
            clear hSc hown3 hpar3 hac3 hb7 hfar3 hal8 hb8
            simp only [stV_eq]
            go_wp2_with fail
            refine ⟨⟨⟨_, hv7⟩, rfl⟩, ?_⟩
            simp only [wpPlan, sel, List.take_succ_cons, List.take_zero, List.drop_succ_cons, List.drop_zero, List.cons_append, List.nil_append]
            repeat (go_big_quiet_step (fail))
            refine wpQuiet_nil ?_
            unfold wpChain
            go_wp2_with fail
            refine ⟨⟨⟨_, hbz⟩, rfl⟩, ?_⟩
            unfold wpChain
            go_wp2_with fail
            refine ⟨⟨⟨_, HB8.out⟩, rfl⟩, ?_⟩
            unfold wpChain
            repeat (go_big_quiet_step (fail))
            refine wpQuiet_nil ?_
            unfold wpChain
            go_wp2_with fail
            refine Met.intro ?_
            go_step
            (repeat apply Exists.intro)
            refine ⟨?_, rfl⟩
            exact HFM.out
          · have hbY := (Below.refl W6.heap.size W6).alloc (Nat.le_refl _) (.cells #[.int .i64 0, .string ⟨#[]⟩, .bool false, .slice none 0 0, .bool false, .string ⟨#[]⟩, .int .u8 0] 28)
            have hbxY : Box (World.drew (W6.alloc (.cells #[.int .i64 0, .string ⟨#[]⟩, .bool false, .slice none 0 0, .bool false, .string ⟨#[]⟩, .int .u8 0] 28))) W6.heap.size 28 #[.int .i64 0, .string ⟨#[]⟩, .bool false, .slice none 0 0, .bool false, .string ⟨#[]⟩, .int .u8 0] := Box.new W6 28 _
            go_wp2_with fail
            refine ⟨⟨⟨_, hbY.drew⟩, rfl⟩, ?_⟩
            simp only [wpPlan, sel, List.take_succ_cons, List.take_zero, List.drop_succ_cons, List.drop_zero, List.cons_append, List.nil_append]
            refine wpQuiet_nil ?_
            unfold wpChain
            go_wp2_with fail
            refine (HCC.out _ hbY.drew).mono ?_
            rintro e w7 ⟨Ac, cc, ec, B3, d3, l3, rfl, hSc, hown3, hpar3, hac3, hb7, hfar3⟩
            have hv7 : Below W6.heap.size W6 w7 := hbY.drew.trans (hb7.mono hbY.drew.size)
            have hbx7 := hbxY.below hb7 hbxY.lt
            have hoX := hfar3.2 W6.heap.size hbxY.lt hOffB
            have hrow : ∀ a, B3 = some a → l3 ≠ [] → a.block ≠ W6.heap.size := fun a ha _ hne => by
              subst ha
              have h1 := (own_block hown3 (g := a.block) rfl).1
              have h2 := hbxY.lt
              omega
            have hput := hbx7.put7 hv7 (Nat.le_refl _) (.int .i64 yc.1.at_) (.string (strS yc.1.inter)) (.bool yc.1.over) (.slice Ac ec.length cc) (.bool yc.1.par.o) (.string (strS yc.1.text)) (.int .u8 (yc.1.kind : Int))
            have HFM : Hid (CMet W6 Ab eb yc (.pointer (some ⟨W6.heap.size, 0, none⟩)) (.slice B3 l3.length d3) (set7 w7 W6.heap.size (.int .i64 yc.1.at_) (.string (strS yc.1.inter)) (.bool yc.1.over) (.slice Ac ec.length cc) (.bool yc.1.par.o) (.string (strS yc.1.text)) (.int .u8 (yc.1.kind : Int)))) := Lib.hid ⟨W6.heap.size, Ac, cc, ec, B3, d3, l3, rfl, rfl, hput.1, hSc.set7 hoX.1 _ _ _ _ _ _ _, (InA.of_own hown3 hpar3).set7 hrow hoX.2 _ _ _ _ _ _ _, hac3, hput.2, fun X hX hO => hfar3.2 X (Nat.lt_of_lt_of_le hX hbY.drew.size) hO⟩
            have HPUT := Lib.hid hput.2
            have k0 := hbx7.cell 0
            have k1 := hbx7.cell 1
            have k2 := hbx7.cell 2
            have k3 := hbx7.cell 3
            have k4 := hbx7.cell 4
            have k5 := hbx7.cell 5
            have k6 := hbx7.cell 6
            have f0 := hbx7.free 0
            have f1 := hbx7.free 1
            have f2 := hbx7.free 2
            have f3 := hbx7.free 3
            have f4 := hbx7.free 4
            have f5 := hbx7.free 5
            have f6 := hbx7.free 6
            clear hSc hown3 hpar3 hac3 hb7 hfar3 hput hoX hrow hbx7
            simp only [stV_eq]
            go_wp2_with fail
            refine ⟨⟨⟨_, hv7⟩, rfl⟩, ?_⟩
            unfold wpChain
            repeat (go_big_quiet_step (fail))
            refine wpQuiet_nil ?_
            unfold wpChain
            go_wp2_with fail
            refine ⟨⟨⟨_, HPUT.out⟩, rfl⟩, ?_⟩
            unfold wpChain
            repeat (go_big_quiet_step (fail))
            refine wpQuiet_nil ?_
            unfold wpChain
            go_wp2_with fail
            refine Met.intro ?_
            go_step
            (repeat apply Exists.intro)
            refine ⟨?_, rfl⟩
            exact HFM.out
        · have hcc := HH3.out
          rw [if_neg hce] at hcc
          have hce2 : ¬ (cap = kN) := hce
          simp only [stV_eq] at hcc
          have HCC := Lib.hid hcc
          clear hcc
          refine region_plan2 [([0, 1, 2, 3], [])] 6 4 8 [([5, 6, 7], [8, 9]), ([10], [])] [([], [4]), ([5, 6, 7], [9]), ([10], [])] (fun w' => ∃ u : Ext W6 W6.heap.size, w' = u.val) (by kernel_rfl) (by kernel_rfl) (fun _ _ _ _ _ h => h) ⟨⟨_, (Below.refl _ _).drew⟩, rfl⟩ ?_
          simp only [wpPlanK, sel, List.take_succ_cons, List.take_zero, List.drop_succ_cons, List.drop_zero, List.cons_append, List.nil_append]
          repeat (go_big_quiet_step (fail))
          refine wpQuiet_nil ?_
          simp only [wpChain, wpPlanK]
          refine ⟨?_, ?_⟩
          · go_wp2_with fail
            refine (HCC.out _ (Below.refl _ _).drew).mono ?_
            rintro e w7 ⟨Ac, cc, ec, B3, d3, l3, rfl, hSc, hown3, hpar3, hac3, hb7, hfar3⟩
            have hv7 : Below W6.heap.size W6 w7 := ((Below.refl W6.heap.size W6).drew).trans hb7
            have hbz : Below W6.heap.size W6 (w7.alloc (.cells #[.int .i64 0, .string ⟨#[]⟩, .bool false, .slice none 0 0, .bool false, .string ⟨#[]⟩, .int .u8 0] 28)) := hv7.alloc hv7.size _
            have hal8 : Below w7.heap.size w7 (w7.alloc (.cells #[.int .i64 yc.1.at_, .string (strS yc.1.inter), .bool yc.1.over, .slice Ac ec.length cc, .bool yc.1.par.o, .string (strS yc.1.text), .int .u8 (yc.1.kind : Int)] 28)) := (Below.refl _ _).alloc (Nat.le_refl _) _
            have hb8 : Below W6.heap.size W6 (w7.alloc (.cells #[.int .i64 yc.1.at_, .string (strS yc.1.inter), .bool yc.1.over, .slice Ac ec.length cc, .bool yc.1.par.o, .string (strS yc.1.text), .int .u8 (yc.1.kind : Int)] 28)) := hv7.alloc hv7.size _
            have HFM : Hid (CMet W6 Ab eb yc (.pointer (some ⟨w7.heap.size, 0, none⟩)) (.slice B3 l3.length d3) (w7.alloc (.cells #[.int .i64 yc.1.at_, .string (strS yc.1.inter), .bool yc.1.over, .slice Ac ec.length cc, .bool yc.1.par.o, .string (strS yc.1.text), .int .u8 (yc.1.kind : Int)] 28))) := Lib.hid ⟨w7.heap.size, Ac, cc, ec, B3, d3, l3, rfl, rfl, Box.new w7 _ _, hSc.on hal8, (InA.of_own hown3 hpar3).on hal8, hac3, hb8, hfar3.2⟩
            have HB8 := Lib.hid hb8
            clear hSc hown3 hpar3 hac3 hb7 hfar3 hal8 hb8
            simp only [stV_eq]
            go_wp2_with fail
            refine ⟨⟨⟨_, hv7⟩, rfl⟩, ?_⟩
            simp only [wpPlan, sel, List.take_succ_cons, List.take_zero, List.drop_succ_cons, List.drop_zero, List.cons_append, List.nil_append]
            repeat (go_big_quiet_step (fail))
            refine wpQuiet_nil ?_
            unfold wpChain
            go_wp2_with fail
            refine ⟨⟨⟨_, hbz⟩, rfl⟩, ?_⟩
            unfold wpChain
            go_wp2_with fail
            refine ⟨⟨⟨_, HB8.out⟩, rfl⟩, ?_⟩
            unfold wpChain
            repeat (go_big_quiet_step (fail))
            refine wpQuiet_nil ?_
            unfold wpChain
            go_wp2_with fail
            refine Met.intro ?_
            go_step
            (repeat apply Exists.intro)
            refine ⟨?_, rfl⟩
            exact HFM.out
          · have hbY := (Below.refl W6.heap.size W6).alloc (Nat.le_refl _) (.cells #[.int .i64 0, .string ⟨#[]⟩, .bool false, .slice none 0 0, .bool false, .string ⟨#[]⟩, .int .u8 0] 28)
            have hbxY : Box (World.drew (W6.alloc (.cells #[.int .i64 0, .string ⟨#[]⟩, .bool false, .slice none 0 0, .bool false, .string ⟨#[]⟩, .int .u8 0] 28))) W6.heap.size 28 #[.int .i64 0, .string ⟨#[]⟩, .bool false, .slice none 0 0, .bool false, .string ⟨#[]⟩, .int .u8 0] := Box.new W6 28 _
            go_wp2_with fail
            refine ⟨⟨⟨_, hbY.drew⟩, rfl⟩, ?_⟩
            simp only [wpPlan, sel, List.take_succ_cons, List.take_zero, List.drop_succ_cons, List.drop_zero, List.cons_append, List.nil_append]
            refine wpQuiet_nil ?_
            unfold wpChain
            go_wp2_with fail
            refine (HCC.out _ hbY.drew).mono ?_
            rintro e w7 ⟨Ac, cc, ec, B3, d3, l3, rfl, hSc, hown3, hpar3, hac3, hb7, hfar3⟩
            have hv7 : Below W6.heap.size W6 w7 := hbY.drew.trans (hb7.mono hbY.drew.size)
            have hbx7 := hbxY.below hb7 hbxY.lt
            have hoX := hfar3.2 W6.heap.size hbxY.lt hOffB
            have hrow : ∀ a, B3 = some a → l3 ≠ [] → a.block ≠ W6.heap.size := fun a ha _ hne => by
              subst ha
              have h1 := (own_block hown3 (g := a.block) rfl).1
              have h2 := hbxY.lt
              omega
            have hput := hbx7.put7 hv7 (Nat.le_refl _) (.int .i64 yc.1.at_) (.string (strS yc.1.inter)) (.bool yc.1.over) (.slice Ac ec.length cc) (.bool yc.1.par.o) (.string (strS yc.1.text)) (.int .u8 (yc.1.kind : Int))
            have HFM : Hid (CMet W6 Ab eb yc (.pointer (some ⟨W6.heap.size, 0, none⟩)) (.slice B3 l3.length d3) (set7 w7 W6.heap.size (.int .i64 yc.1.at_) (.string (strS yc.1.inter)) (.bool yc.1.over) (.slice Ac ec.length cc) (.bool yc.1.par.o) (.string (strS yc.1.text)) (.int .u8 (yc.1.kind : Int)))) := Lib.hid ⟨W6.heap.size, Ac, cc, ec, B3, d3, l3, rfl, rfl, hput.1, hSc.set7 hoX.1 _ _ _ _ _ _ _, (InA.of_own hown3 hpar3).set7 hrow hoX.2 _ _ _ _ _ _ _, hac3, hput.2, fun X hX hO => hfar3.2 X (Nat.lt_of_lt_of_le hX hbY.drew.size) hO⟩
            have HPUT := Lib.hid hput.2
            have k0 := hbx7.cell 0
            have k1 := hbx7.cell 1
            have k2 := hbx7.cell 2
            have k3 := hbx7.cell 3
            have k4 := hbx7.cell 4
            have k5 := hbx7.cell 5
            have k6 := hbx7.cell 6
            have f0 := hbx7.free 0
            have f1 := hbx7.free 1
            have f2 := hbx7.free 2
            have f3 := hbx7.free 3
            have f4 := hbx7.free 4
            have f5 := hbx7.free 5
            have f6 := hbx7.free 6
            clear hSc hown3 hpar3 hac3 hb7 hfar3 hput hoX hrow hbx7
            simp only [stV_eq]
            go_wp2_with fail
            refine ⟨⟨⟨_, hv7⟩, rfl⟩, ?_⟩
            unfold wpChain
            repeat (go_big_quiet_step (fail))
            refine wpQuiet_nil ?_
            unfold wpChain
            go_wp2_with fail
            refine ⟨⟨⟨_, HPUT.out⟩, rfl⟩, ?_⟩
            unfold wpChain
            repeat (go_big_quiet_step (fail))
            refine wpQuiet_nil ?_
            unfold wpChain
            go_wp2_with fail
            refine Met.intro ?_
            go_step
            (repeat apply Exists.intro)
            refine ⟨?_, rfl⟩
            exact HFM.out
      case rest =>
        obtain ⟨X, Ac, cc, ec, B3, d3, l3, rfl, rfl, hbc, hSc, hin3, hac3, hb9, hoff3⟩ := hcut
        obtain ⟨i0, hi, hz0, hz1, hz2⟩ := info_parts infoActZ
        obtain ⟨hba, hSa, hin, hac, hb4, hbb, hSb, hown2, hpar2, hac2, hb6, hfar2, hb46⟩ := H6.out
        have hl23 : l2.length + l3.length ≤ 10000 := by
          have := HFW.out
          rw [← acts_len l2, ← acts_len l3, hac2, hac3]; exact this
        have hownC := own_below hown2 hb9
        have hsz4 : W4.heap.size ≤ _ := Nat.le_trans hb6.size hb9.size
        have HIN3 := Lib.hid hin3
        have HOWN := Lib.hid hownC
        clear hba hSa hin hac hb4 hbb hSb hown2 hpar2 hac2 hb6 hfar2 hb46 hownC p0 p1 p2 p3 p4 p5 p6 hin3
        go_wp2_with (at_builtin; refine wpList_append_acts rfl _ _ 29 rfl W4.heap.size 44 i0 _ 80 Tryd.underlying29 hi hz0 hz1 hz2 rfl _ l2.length l2 rfl HOWN.out B3 d3 l3 rfl HIN3.out (by unfold maxLen; omega) (by omega) hsz4 ?_)
        intro v' W hownW hO
        obtain ⟨B', d', rfl⟩ : ∃ B' d', v' = .slice B' (l2.length + l3.length) d' := by
          obtain ⟨B', d', h, _, _⟩ := own_form1 hownW
          exact ⟨B', d', h⟩
        obtain ⟨hba, hSa, hin, hac, hb4, hbb, hSb, hown2, hpar2, hac2, hb6, hfar2, hb46⟩ := H6.out
        have hbO : Below W4.heap.size _ W := hO.belowBase hsz4 (fun g hg => (own_block HOWN.out hg).1)
        have hb4W : Below W4.heap.size W4 W := (hb6.trans (hb9.mono hb6.size)).trans hbO
        have hbaW := hba.below hb4W hba.lt
        have hSaW := hSa.on hb4W
        have hinW := hin.on hb4W
        have hgl : ∀ g, (Value.slice B2 l2.length d2).ownBlock = some g → g < W6.heap.size := fun g hg => (own_block hown2 hg).2
        have hbbC := hbb.below hb9 hbb.lt
        have hbbW := hO.box hbbC (own_box HOWN.out hbbC (by decide))
        have hbcW := hO.box hbc (own_box HOWN.out hbc (by decide))
        have hSbW : InS W Ab cb eb yb.1 := ⟨(hSb.on hb9).inp.own1 hO (fun g hg => (hfar2.1 g hg).1), hSb.reads⟩
        have hScW : InS W Ac cc ec yc.1 := ⟨hSc.inp.own1 hO (fun g hg => (hoff3 g (hgl g hg) (hfar2.1 g hg).1).1), hSc.reads⟩
        have hyW : InA W B' d' (l2 ++ l3) := by
          refine InA.of_own (n := l2.length + l3.length) hownW fun e he => ?_
          rcases List.mem_append.1 he with he | he
          · exact ((hpar2 e he).on hb9).own1 hO (fun g hg => (hfar2.1 g hg).2 e he)
          · exact (HIN3.out.par e he).own1 hO (fun g hg => (hoff3 g (hgl g hg) (hfar2.1 g hg).1).2 e he)
        have hacW : acts l = acts (l2 ++ l3) := by rw [acts_app, hac2, hac3, hac]
        have hbelW : Below w.heap.size w W := (hb1.trans (hb4.mono hb1.size)).trans (hb4W.mono (hb1.trans (hb4.mono hb1.size)).size)
        have hT1 := fun V => theirs_c yc.1 Aa ea.length ca V
        have hT2 := fun V => theirs_c yc.1 Ac ec.length cc V
        have hS1 : ∀ V, Below W.heap.size W V → Calls Tryd.prog 10 #[stV yc.1 Aa ea.length ca, stV yc.1 Ac ec.length cc] V fun e w' => e = .returned (.bool true) ∧ Below V.heap.size V w' := fun V hV => same6_c yc.1 Aa Ac ea ec ca cc V (hSaW.on hV) (hScW.on hV)
        have hA1 : ∀ V, Below W.heap.size W V → Calls Tryd.prog 12 #[.slice B l.length d, .slice B' (l2.length + l3.length) d'] V fun e w' => e = .returned (.bool true) ∧ Below V.heap.size V w' := fun V hV => by
          have := actions_c B B' d d' l (l2 ++ l3) V (hinW.on hV) (hyW.on hV) hacW
          rwa [List.length_append] at this
        have hN1 : ∀ V, Below W.heap.size W V → Calls Tryd.prog 13 #[stV yc.1 Aa ea.length ca] V fun e w' => e = .returned (.bool true) ∧ Below V.heap.size V w' := fun V hV => by
          have := hsn yc.1 Aa ca ea V (hSaW.on hV) HSB.out.2.2.2 (sane_size6 HSB.out.2.2.1)
          rwa [decide_eq_true HSB.out.2.2.1] at this
        have hN2 : ∀ V, Below W.heap.size W V → Calls Tryd.prog 13 #[stV yb.1 Ab eb.length cb] V fun e w' => e = .returned (.bool true) ∧ Below V.heap.size V w' := fun V hV => by
          have := hsn yb.1 Ab cb eb V (hSbW.on hV) HSB.out.2.1 (sane_size6 HSB.out.1)
          rwa [decide_eq_true HSB.out.1] at this
        simp only [stV_eq] at hT1 hT2 hS1 hN1 hN2
        have CT1 := Lib.hid hT1
        have CT2 := Lib.hid hT2
        have CS1 := Lib.hid hS1
        have CA1 := Lib.hid hA1
        have CN1 := Lib.hid hN1
        have CN2 := Lib.hid hN2
        have HBW := Lib.hid hbelW
        have p0 := Ext.cell (w := W) (B := W.heap.size) hbaW.lt (show W.cell? ⟨w3.heap.size, 0, none⟩ = some (.int .i64 yc.1.at_) from hbaW.cell 0)
        have p1 := Ext.cell (w := W) (B := W.heap.size) hbaW.lt (show W.cell? ⟨w3.heap.size, 1, none⟩ = some (.string (strS yc.1.inter)) from hbaW.cell 1)
        have p2 := Ext.cell (w := W) (B := W.heap.size) hbaW.lt (show W.cell? ⟨w3.heap.size, 2, none⟩ = some (.bool yc.1.over) from hbaW.cell 2)
        have p3 := Ext.cell (w := W) (B := W.heap.size) hbaW.lt (show W.cell? ⟨w3.heap.size, 3, none⟩ = some (.slice Aa ea.length ca) from hbaW.cell 3)
        have p4 := Ext.cell (w := W) (B := W.heap.size) hbaW.lt (show W.cell? ⟨w3.heap.size, 4, none⟩ = some (.bool yc.1.par.o) from hbaW.cell 4)
        have p5 := Ext.cell (w := W) (B := W.heap.size) hbaW.lt (show W.cell? ⟨w3.heap.size, 5, none⟩ = some (.string (strS yc.1.text)) from hbaW.cell 5)
        have p6 := Ext.cell (w := W) (B := W.heap.size) hbaW.lt (show W.cell? ⟨w3.heap.size, 6, none⟩ = some (.int .u8 (yc.1.kind : Int)) from hbaW.cell 6)
        have q0 := Ext.cell (w := W) (B := W.heap.size) hbcW.lt (show W.cell? ⟨X, 0, none⟩ = some (.int .i64 yc.1.at_) from hbcW.cell 0)
        have q1 := Ext.cell (w := W) (B := W.heap.size) hbcW.lt (show W.cell? ⟨X, 1, none⟩ = some (.string (strS yc.1.inter)) from hbcW.cell 1)
        have q2 := Ext.cell (w := W) (B := W.heap.size) hbcW.lt (show W.cell? ⟨X, 2, none⟩ = some (.bool yc.1.over) from hbcW.cell 2)
        have q3 := Ext.cell (w := W) (B := W.heap.size) hbcW.lt (show W.cell? ⟨X, 3, none⟩ = some (.slice Ac ec.length cc) from hbcW.cell 3)
        have q4 := Ext.cell (w := W) (B := W.heap.size) hbcW.lt (show W.cell? ⟨X, 4, none⟩ = some (.bool yc.1.par.o) from hbcW.cell 4)
        have q5 := Ext.cell (w := W) (B := W.heap.size) hbcW.lt (show W.cell? ⟨X, 5, none⟩ = some (.string (strS yc.1.text)) from hbcW.cell 5)
        have q6 := Ext.cell (w := W) (B := W.heap.size) hbcW.lt (show W.cell? ⟨X, 6, none⟩ = some (.int .u8 (yc.1.kind : Int)) from hbcW.cell 6)
        have r0 := Ext.cell (w := W) (B := W.heap.size) hbbW.lt (show W.cell? ⟨w5.heap.size, 0, none⟩ = some (.int .i64 yb.1.at_) from hbbW.cell 0)
        have r1 := Ext.cell (w := W) (B := W.heap.size) hbbW.lt (show W.cell? ⟨w5.heap.size, 1, none⟩ = some (.string (strS yb.1.inter)) from hbbW.cell 1)
        have r2 := Ext.cell (w := W) (B := W.heap.size) hbbW.lt (show W.cell? ⟨w5.heap.size, 2, none⟩ = some (.bool yb.1.over) from hbbW.cell 2)
        have r3 := Ext.cell (w := W) (B := W.heap.size) hbbW.lt (show W.cell? ⟨w5.heap.size, 3, none⟩ = some (.slice Ab eb.length cb) from hbbW.cell 3)
        have r4 := Ext.cell (w := W) (B := W.heap.size) hbbW.lt (show W.cell? ⟨w5.heap.size, 4, none⟩ = some (.bool yb.1.par.o) from hbbW.cell 4)
        have r5 := Ext.cell (w := W) (B := W.heap.size) hbbW.lt (show W.cell? ⟨w5.heap.size, 5, none⟩ = some (.string (strS yb.1.text)) from hbbW.cell 5)
        have r6 := Ext.cell (w := W) (B := W.heap.size) hbbW.lt (show W.cell? ⟨w5.heap.size, 6, none⟩ = some (.int .u8 (yb.1.kind : Int)) from hbbW.cell 6)
        clear hba hSa hin hac hb4 hbb hSb hown2 hpar2 hac2 hb6 hfar2 hb46 hbO hb4W hbaW hSaW hinW hgl hbbC hbbW hbcW hSbW hScW hyW hacW hbelW hT1 hT2 hS1 hA1 hN1 hN2 hownW hO hbc hSc hac3 hb9 hoff3 hsz4 HIN3 HOWN
        go_wp2_with fail
        refine region_plan [([0, 1, 2, 4], [3, 5, 6]), ([7, 8, 9, 10], [11]), ([12, 13, 14], [15]), ([16, 17, 18], [19]), ([20, 21], [])] (fun w' => ∃ u : Ext W W.heap.size, w' = u.val) (by kernel_rfl) (by kernel_rfl) (fun _ _ _ _ _ h => h) ⟨⟨_, (Below.refl _ _).drew⟩, rfl⟩ ?_
        simp only [wpPlan, sel, List.take_succ_cons, List.take_zero, List.drop_succ_cons, List.drop_zero, List.cons_append, List.nil_append]
        repeat (go_big_quiet_step (fail))
        refine wpQuiet_nil ?_
        unfold wpChain
        go_wp2_with fail
        refine (CT1.out _).mono ?_
        rintro e v1 ⟨rfl, hv⟩
        have HV1 : Below W.heap.size W v1 := (Below.refl W.heap.size W).drew.trans hv
        clear hv
        go_wp2_with fail
        refine ⟨⟨⟨_, HV1⟩, rfl⟩, ?_⟩
        unfold wpChain
        go_wp2_with fail
        refine (CT2.out _).mono ?_
        rintro e v2 ⟨rfl, hv⟩
        have HV2 : Below W.heap.size W v2 := HV1.trans (hv.mono HV1.size)
        clear hv
        go_wp2_with fail
        refine ⟨⟨⟨_, HV2⟩, rfl⟩, ?_⟩
        unfold wpChain
        go_wp2_with fail
        refine (CS1.out _ HV2).mono ?_
        rintro e v3 ⟨rfl, hv⟩
        have HV3 : Below W.heap.size W v3 := HV2.trans (hv.mono HV2.size)
        clear hv
        go_wp2_with fail
        refine ⟨⟨⟨_, HV3⟩, rfl⟩, ?_⟩
        unfold wpChain
        repeat (go_big_quiet_step (fail))
        refine wpQuiet_nil ?_
        unfold wpChain
        go_wp2_with fail
        refine (CA1.out _ HV3).mono ?_
        rintro e v4 ⟨rfl, hv⟩
        have HV4 : Below W.heap.size W v4 := HV3.trans (hv.mono HV3.size)
        clear hv
        go_wp2_with fail
        refine ⟨⟨⟨_, HV4⟩, rfl⟩, ?_⟩
        unfold wpChain
        repeat (go_big_quiet_step (fail))
        refine wpQuiet_nil ?_
        unfold wpChain
        go_wp2_with fail
        refine (CN1.out _ HV4).mono ?_
        rintro e v5 ⟨rfl, hv⟩
        have HV5 : Below W.heap.size W v5 := HV4.trans (hv.mono HV4.size)
        clear hv
        go_wp2_with fail
        refine ⟨⟨⟨_, HV5⟩, rfl⟩, ?_⟩
        unfold wpChain
        repeat (go_big_quiet_step (fail))
        refine wpQuiet_nil ?_
        unfold wpChain
        go_wp2_with fail
        refine (CN2.out _ HV5).mono ?_
        rintro e v6 ⟨rfl, hv⟩
        have HV6 : Below W.heap.size W v6 := HV5.trans (hv.mono HV5.size)
        clear hv
        go_wp2_with fail
        refine ⟨⟨⟨_, HV6⟩, rfl⟩, ?_⟩
        unfold wpChain
        repeat (go_big_quiet_step (fail))
        refine wpQuiet_nil ?_
        unfold wpChain
        have hend := HBW.out.trans (HV6.mono HBW.out.size)
        clear p0 p1 p2 p3 p4 p5 p6 q0 q1 q2 q3 q4 q5 q6 r0 r1 r2 r3 r4 r5 r6
        go_wp2_with fail
        go_ret
        exact ⟨rfl, hend⟩
end Go.Proofs.YtiaippdaogmcmaaDoor
