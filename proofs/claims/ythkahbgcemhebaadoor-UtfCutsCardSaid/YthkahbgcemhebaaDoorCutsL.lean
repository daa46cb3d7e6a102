/- UtfCuts, walked. -/
import Derived.Test.YthkahbgcemhebaaDoorStrR
import Derived.Test.YthkahbgcemhebaaDoorBitsR
import Derived.Test.YthkahbgcemhebaaDoorReg
import Derived.Deep.DeepCutAuto
namespace Go.Proofs.YthkahbgcemhebaaDoor
open Go Go.RowKit
set_option linter.unusedVariables false
set_option linter.unusedSimpArgs false

/-- Behind a region that feeds and lays what comes back in a new variable. -/
def FMet (W : World) (bs : List Nat) (pv mv : Value) (wx : World) : Prop := ∃ g A5 c5 A6 c6, pv = .pointer (some ⟨g, 0, none⟩) ∧ mv = .slice A6 (feedF bs).1.length c6 ∧ Box wx g 26 #[.slice A5 (feedF bs).2.length c5] ∧ W.heap.size ≤ g ∧
  wx.ownsRow W.heap.size 5 1 (.slice A5 (feedF bs).2.length c5) (feedF bs).2.length ((feedF bs).2.map byteV) ∧ (feedF bs).2.length ≤ c5 ∧ c5 ≤ maxLen ∧
  wx.ownsRow W.heap.size 3 1 (.slice A6 (feedF bs).1.length c6) (feedF bs).1.length ((feedF bs).1.map intV) ∧ Below W.heap.size W wx ∧ Value.ownBlock (.slice A5 (feedF bs).2.length c5) ≠ some g

def FSaid (bs : List Nat) (V : World) (e : Ending) (w' : World) : Prop := FeedOwn V.heap.size bs V e w'
set_option maxRecDepth 100000 in
set_option maxHeartbeats 8000000 in
theorem cuts_law (B C : Option Addr) (bs : List Nat) (cuts : List Int) (cb cc : Nat) (w : World) (hT : Tb w) (h : Byt w w.heap.size B bs) (hC : Its w w.heap.size C cuts) (hb : ∀ c ∈ bs, c < 256) (hbc : bs.length ≤ cb) (hbm : cb ≤ maxLen) (hcl : cuts.length ≤ maxLen) :
    Calls Tryd.prog 3 #[.slice B bs.length cb, .slice C cuts.length cc] w fun e w' => e = .returned (.bool true) ∧ Below w.heap.size w w' := by
  obtain ⟨j0, hj, hy0, hy1, hy2⟩ := info_parts infoInt
  unfold maxLen at hbm hcl
  by_cases hbig : 500 < bs.length
  · have hq1 : (bs.length : Int) > 500 := by omega
    go_enter Tryd.func3, Tryd.ntmps3
    go_wp2_with fail
    refine (awake_c w hT).mono ?_
    rintro e w1 ⟨rfl, hb1⟩
    go_wp2_with fail
    go_ret
    exact ⟨rfl, hb1⟩
  by_cases hbig2 : 60 < cuts.length
  · have hq1 : ¬ (bs.length : Int) > 500 := by omega
    have hq2 : (cuts.length : Int) > 60 := by omega
    go_enter Tryd.func3, Tryd.ntmps3
    go_wp2_with fail
    refine (awake_c w hT).mono ?_
    rintro e w1 ⟨rfl, hb1⟩
    go_wp2_with fail
    go_ret
    exact ⟨rfl, hb1⟩
  have hq1 : ¬ (bs.length : Int) > 500 := by omega
  have hq2 : ¬ (cuts.length : Int) > 60 := by omega
  go_enter Tryd.func3, Tryd.ntmps3
  go_wp2_with fail
  refine (awake_c w hT).mono ?_
  rintro e w1 ⟨rfl, hb1⟩
  have hbx0 := Box.new w1 26 #[.slice none 0 0]
  have hz0 : Below w1.heap.size w1 (w1.alloc (.cells #[.slice none 0 0] 26)) := (Below.refl _ _).alloc (Nat.le_refl _) _
  have hbW := hb1.trans (hz0.mono hb1.size)
  have hW0 : (w1.alloc (.cells #[.slice none 0 0] 26)).heap.size = w1.heap.size + 1 := by simp
  go_wp2_with fail
  clear hz0
  have hXw := hb1.size
  generalize w1.alloc (.cells #[.slice none 0 0] 26) = W0 at *
  generalize w1.heap.size = X at *
  have hXD : X < W0.heap.size := by omega
  clear hW0
  go_loopw [7, 8, 9] (fun ov av iv wr => ∃ (k a n : Nat) (done : List Int) (R : List Nat) (As : Option Addr) (cs : Nat), k ≤ cuts.length ∧ iv = .int .i64 k ∧ av = .int .i64 a ∧ a ≤ bs.length ∧ wr.ownsRow W0.heap.size 3 1 ov n (done.map intV) ∧
    Box wr X 26 #[.slice As R.length cs] ∧ wr.ownsRow W0.heap.size 5 1 (.slice As R.length cs) R.length (R.map byteV) ∧ R.length ≤ cs ∧ cs ≤ maxLen ∧ Apart ov (.slice As R.length cs) ∧ Hid (feedF (bs.take a) = (done, R)) ∧ W0.heap.size ≤ wr.heap.size ∧ Below w.heap.size w wr) (fun _ _ iv _ => cuts.length - (intOf iv).toNat)
  case atStart => exact ⟨0, 0, 0, [], [], none, 0, Nat.zero_le _, rfl, rfl, Nat.zero_le _, World.ownsRow_nil _ _ _ _, hbx0, World.ownsRow_nil _ _ _ _, Nat.le_refl _, Nat.zero_le _, fun g hg => by simp [Value.ownBlock] at hg, Lib.hid (by simp [feed_nil]), Nat.le_refl _, hbW⟩
  case round =>
    obtain ⟨k, a, n, done, R, As, cs, hk, rfl, rfl, ha, hown, hbx, hownR, hRc, hRm, hap, HF, hWs, hbel⟩ := hrel
    have hnd := own_len hown
    subst hnd
    by_cases hlt : k < cuts.length
    · have hq3 : (k : Int) < (cuts.length : Int) := by omega
      have hg : cuts[k]? = some cuts[k] := List.getElem?_eq_getElem hlt
      generalize cuts[k] = z at *
      obtain ⟨bC, oC, rfl, hblC, c0⟩ := (hC.on hbel).at_ hg
      have d0 : wr.cell? ⟨bC, oC + k, none⟩ = some (.int .i64 z) := c0
      clear c0 hg
      obtain ⟨m, hm⟩ : ∃ m : Nat, z % 8 = (m : Int) := ⟨(z % 8).toNat, by omega⟩
      have hand : bits .and .i64 z 7 = (m : Int) := by rw [and_7, hm]
      have hm8 : m < 8 := by omega
      clear hm
      have hfc := feed_count (bs.take a)
      rw [HF.out, List.length_take, Nat.min_eq_left ha] at hfc
      simp only at hfc
      obtain ⟨n', hn'⟩ : ∃ n' : Nat, n' = min m (bs.length - a) := ⟨_, rfl⟩
      have hmn : min (m : Int) ((bs.length : Int) - (a : Int)) = (n' : Int) := by omega
      have hn1 : n' ≤ bs.length - a := by omega
      clear hn'
      have e1 := Ext.cell (B := wr.heap.size) (w := wr) (p := ⟨X, 0, none⟩) hbx.lt (hbx.cell 0)
      have hpl : ((bs.drop a).take n').length = n' := by rw [List.length_take, List.length_drop]; omega
      have hcut := feed_cut (bs.take a) ((bs.drop a).take n')
      have hta : bs.take a ++ (bs.drop a).take n' = bs.take (a + n') := by rw [List.take_add]
      rw [hta, HF.out] at hcut
      simp only at hcut
      have hft := feed_bd (bs := bs.take a) (fun c hc => hb c (List.mem_of_mem_take hc))
      rw [HF.out] at hft
      simp only at hft
      have HCUT := Lib.hid hcut
      clear hcut hta
      have hRd := Rd.of_own hownR
      obtain ⟨hbR, hsR⟩ := hft
      have hf2 : ∀ V, Below wr.heap.size wr V → Calls Tryd.prog 9 #[.agg #[.slice As R.length cs], .slice (if cb = a then B else Option.map (fun x => x.add a) B) n' (cb - a)] V (FeedOwn V.heap.size (R ++ (bs.drop a).take n') V) := by
        intro V hV
        have hV2 := hbel.trans (hV.mono hbel.size)
        have h1 := feed_own_c As (if cb = a then B else Option.map (fun x => x.add a) B) R ((bs.drop a).take n') cs (cb - a) V (hT.below hV2 hT.size) (hRd.on hV) (((h.on hV2).cut hbc).take n') hbR
          (fun c hc => hb c (List.mem_of_mem_drop (List.mem_of_mem_take hc))) hRc hRm hsR (by omega)
        rw [hpl] at h1
        exact h1
      obtain ⟨L, hL⟩ : ∃ L, L = R ++ (bs.drop a).take n' := ⟨_, rfl⟩
      rw [← hL] at hf2
      have HCUT2 : Hid (feedF (bs.take (a + n')) = (done ++ (feedF L).1, (feedF L).2)) := by rw [hL]; exact HCUT
      have hLl : L.length ≤ 600 := by rw [hL, List.length_append, hpl]; omega
      have hfL := feed_count L
      have HFP : Hid (cb = a → ∀ V, Below wr.heap.size wr V → Calls Tryd.prog 9 #[.agg #[.slice As R.length cs], .slice B n' 0] V (FeedOwn V.heap.size L V)) := Lib.hid fun e V hV => by
        have h1 := hf2 V hV
        rw [if_pos e, show cb - a = 0 by omega] at h1; exact h1
      have HFN : Hid (¬ cb = a → ∀ V, Below wr.heap.size wr V → Calls Tryd.prog 9 #[.agg #[.slice As R.length cs], .slice (Option.map (fun x => x.add a) B) n' (cb - a)] V (FeedOwn V.heap.size L V)) := Lib.hid fun e V hV => by
        have h1 := hf2 V hV
        rw [if_neg e] at h1; exact h1
      clear hf2 hbR hsR hRd HCUT hL
      go_wp2_with fail
      go_cut [11, 12] (fun pv mv wx => FMet wr L pv mv wx)
      case first =>
        by_cases hca : cb = a
        · subst hca
          have HF2 := Lib.hid (HFP.out rfl)
          clear HFP HFN
          refine region_plan2 [([0, 1, 2, 3, 4, 5, 6], [])] 6 7 11 [([8, 9, 10], [11, 12]), ([13], [])] [([], [7]), ([8, 9, 10], [12]), ([13], [])] (fun w' => ∃ u : Ext wr wr.heap.size, w' = u.val) (by kernel_rfl) (by kernel_rfl) (fun _ _ _ _ _ h => h) ⟨⟨_, (Below.refl _ _).drew⟩, rfl⟩ ?_
          simp only [wpPlanK, sel, List.take_succ_cons, List.take_zero, List.drop_succ_cons, List.drop_zero, List.cons_append, List.nil_append]
          repeat (go_big_quiet_step (fail))
          refine wpQuiet_nil ?_
          simp only [wpChain]
          refine ⟨?_, ?_⟩
          · go_wp2_with fail
            refine (HF2.out _ (Below.refl _ _).drew).mono ?_
            rintro e w4 ⟨A5, c5, A6, c6, rfl, hoB, hcB, hmB, hoL, hz, hAp⟩
            have hb4 : Below wr.heap.size wr w4 := ((Below.refl _ _).drew).trans hz
            have hb5 := hb4.alloc hb4.size (.cells #[.slice none 0 0] 26)
            have hbx6 := Box.new w4 26 #[.slice A5 (feedF L).2.length c5]
            have hoB6 := hoB.alloc (.cells #[.slice A5 (feedF L).2.length c5] 26)
            have hoL6 := hoL.alloc (.cells #[.slice A5 (feedF L).2.length c5] 26)
            have hb6 := hb4.alloc hb4.size (.cells #[.slice A5 (feedF L).2.length c5] 26)
            have hne6 : Value.ownBlock (.slice A5 (feedF L).2.length c5) ≠ some w4.heap.size := fun e => by have := (own_block hoB e).2; omega
            have hs4 := hb4.size
            have HFM : Hid (FMet wr L (.pointer (some ⟨w4.heap.size, 0, none⟩)) (.slice A6 (feedF L).1.length c6) (w4.alloc (.cells #[.slice A5 (feedF L).2.length c5] 26))) := ⟨_, _, _, _, _, rfl, rfl, hbx6, hs4, hoB6, hcB, hmB, hoL6, hb6, hne6⟩
            clear hz hoB hoL hbx6 hoB6 hoL6 hb6 hne6 hAp hcB hmB
            generalize (feedF L).1.length = n1 at *
            generalize (feedF L).2.length = n2 at *
            go_wp2_with fail
            refine ⟨⟨⟨_, hb4⟩, rfl⟩, ?_⟩
            simp only [wpPlan, sel, List.take_succ_cons, List.take_zero, List.drop_succ_cons, List.drop_zero, List.cons_append, List.nil_append]
            repeat (go_big_quiet_step (fail))
            refine wpQuiet_nil ?_
            unfold wpChain
            go_wp2_with fail
            refine ⟨⟨⟨_, hb5⟩, rfl⟩, ?_⟩
            unfold wpChain
            go_wp2_with fail
            refine ⟨⟨⟨_, hb4.alloc hb4.size _⟩, rfl⟩, ?_⟩
            unfold wpChain
            repeat (go_big_quiet_step (fail))
            refine wpQuiet_nil ?_
            unfold wpChain
            go_wp2_with fail
            refine Met.intro ?_
            go_step
            (repeat apply Exists.intro)
            refine ⟨?_, rfl⟩
            exact HFM.out
          · have hbxY := Box.new wr 26 #[.slice none 0 0]
            have hbY : Below wr.heap.size wr (wr.alloc (.cells #[.slice none 0 0] 26)) := (Below.refl _ _).alloc (Nat.le_refl _) _
            go_wp2_with fail
            refine ⟨⟨⟨_, hbY.drew⟩, rfl⟩, ?_⟩
            simp only [wpPlan, sel, List.take_succ_cons, List.take_zero, List.drop_succ_cons, List.drop_zero, List.cons_append, List.nil_append]
            refine wpQuiet_nil ?_
            unfold wpChain
            go_wp2_with fail
            refine (HF2.out _ hbY.drew).mono ?_
            rintro e w4 ⟨A5, c5, A6, c6, rfl, hoB, hcB, hmB, hoL, hz, hAp⟩
            have hb4 : Below wr.heap.size wr w4 := hbY.drew.trans (hz.mono hbY.drew.size)
            have hbx4 := hbxY.drew.below hz hbxY.drew.lt
            have hc4 : w4.cell? ⟨wr.heap.size, 0, none⟩ = some (.slice none 0 0) := hbx4.cell 0
            have hfr4 := hbx4.free 0
            have hs4 := hbY.drew.size
            have hbx6 := hbx4.set_ 0 (.slice A5 (feedF L).2.length c5)
            have hb6 : Below wr.heap.size wr (w4.setCell ⟨wr.heap.size, 0, none⟩ (.slice A5 (feedF L).2.length c5)) := hb4.setCell (Nat.le_refl _) _
            have hlt4 : wr.heap.size < (World.drew (wr.alloc (.cells #[.slice none 0 0] 26))).heap.size := hbxY.drew.lt
            have hneB : Value.ownBlock (.slice A5 (feedF L).2.length c5) ≠ some wr.heap.size := fun e => by have := (own_block hoB e).1; omega
            have hneL : Value.ownBlock (.slice A6 (feedF L).1.length c6) ≠ some wr.heap.size := fun e => by have := (own_block hoL e).1; omega
            have hoB6 := own_far (own_le hoB (Nat.le_of_lt hlt4)) (p := ⟨wr.heap.size, 0, none⟩) hneB (.slice A5 (feedF L).2.length c5)
            have hoL6 := own_far (own_le hoL (Nat.le_of_lt hlt4)) (p := ⟨wr.heap.size, 0, none⟩) hneL (.slice A5 (feedF L).2.length c5)
            have HFM : Hid (FMet wr L (.pointer (some ⟨wr.heap.size, 0, none⟩)) (.slice A6 (feedF L).1.length c6) (w4.setCell ⟨wr.heap.size, 0, none⟩ (.slice A5 (feedF L).2.length c5))) := ⟨_, _, _, _, _, rfl, rfl, hbx6, Nat.le_refl _, hoB6, hcB, hmB, hoL6, hb6, hneB⟩
            have HB6 := Lib.hid hb6
            clear hz hoB hoL hbx6 hoB6 hoL6 hb6 hneB hneL hAp hcB hmB
            generalize (feedF L).1.length = n1 at *
            generalize (feedF L).2.length = n2 at *
            go_wp2_with fail
            refine ⟨⟨⟨_, hb4⟩, rfl⟩, ?_⟩
            unfold wpChain
            repeat (go_big_quiet_step (fail))
            refine wpQuiet_nil ?_
            unfold wpChain
            go_wp2_with fail
            refine ⟨⟨⟨_, HB6.out⟩, rfl⟩, ?_⟩
            unfold wpChain
            repeat (go_big_quiet_step (fail))
            refine wpQuiet_nil ?_
            unfold wpChain
            go_wp2_with fail
            refine Met.intro ?_
            go_step
            (repeat apply Exists.intro)
            refine ⟨?_, rfl⟩
            exact HFM.out
        · have HF2 := Lib.hid (HFN.out hca)
          clear HFP HFN
          refine region_plan2 [([0, 1, 2, 3, 4, 5, 6], [])] 6 7 11 [([8, 9, 10], [11, 12]), ([13], [])] [([], [7]), ([8, 9, 10], [12]), ([13], [])] (fun w' => ∃ u : Ext wr wr.heap.size, w' = u.val) (by kernel_rfl) (by kernel_rfl) (fun _ _ _ _ _ h => h) ⟨⟨_, (Below.refl _ _).drew⟩, rfl⟩ ?_
          simp only [wpPlanK, sel, List.take_succ_cons, List.take_zero, List.drop_succ_cons, List.drop_zero, List.cons_append, List.nil_append]
          repeat (go_big_quiet_step (fail))
          refine wpQuiet_nil ?_
          simp only [wpChain]
          refine ⟨?_, ?_⟩
          · go_wp2_with fail
            refine (HF2.out _ (Below.refl _ _).drew).mono ?_
            rintro e w4 ⟨A5, c5, A6, c6, rfl, hoB, hcB, hmB, hoL, hz, hAp⟩
            have hb4 : Below wr.heap.size wr w4 := ((Below.refl _ _).drew).trans hz
            have hb5 := hb4.alloc hb4.size (.cells #[.slice none 0 0] 26)
            have hbx6 := Box.new w4 26 #[.slice A5 (feedF L).2.length c5]
            have hoB6 := hoB.alloc (.cells #[.slice A5 (feedF L).2.length c5] 26)
            have hoL6 := hoL.alloc (.cells #[.slice A5 (feedF L).2.length c5] 26)
            have hb6 := hb4.alloc hb4.size (.cells #[.slice A5 (feedF L).2.length c5] 26)
            have hne6 : Value.ownBlock (.slice A5 (feedF L).2.length c5) ≠ some w4.heap.size := fun e => by have := (own_block hoB e).2; omega
            have hs4 := hb4.size
            have HFM : Hid (FMet wr L (.pointer (some ⟨w4.heap.size, 0, none⟩)) (.slice A6 (feedF L).1.length c6) (w4.alloc (.cells #[.slice A5 (feedF L).2.length c5] 26))) := ⟨_, _, _, _, _, rfl, rfl, hbx6, hs4, hoB6, hcB, hmB, hoL6, hb6, hne6⟩
            clear hz hoB hoL hbx6 hoB6 hoL6 hb6 hne6 hAp hcB hmB
            generalize (feedF L).1.length = n1 at *
            generalize (feedF L).2.length = n2 at *
            go_wp2_with fail
            refine ⟨⟨⟨_, hb4⟩, rfl⟩, ?_⟩
            simp only [wpPlan, sel, List.take_succ_cons, List.take_zero, List.drop_succ_cons, List.drop_zero, List.cons_append, List.nil_append]
            repeat (go_big_quiet_step (fail))
            refine wpQuiet_nil ?_
            unfold wpChain
            go_wp2_with fail
            refine ⟨⟨⟨_, hb5⟩, rfl⟩, ?_⟩
            unfold wpChain
            go_wp2_with fail
            refine ⟨⟨⟨_, hb4.alloc hb4.size _⟩, rfl⟩, ?_⟩
            unfold wpChain
            repeat (go_big_quiet_step (fail))
            refine wpQuiet_nil ?_
            unfold wpChain
            go_wp2_with fail
            refine Met.intro ?_
            go_step
            (repeat apply Exists.intro)
            refine ⟨?_, rfl⟩
            exact HFM.out
          · have hbxY := Box.new wr 26 #[.slice none 0 0]
            have hbY : Below wr.heap.size wr (wr.alloc (.cells #[.slice none 0 0] 26)) := (Below.refl _ _).alloc (Nat.le_refl _) _
            go_wp2_with fail
            refine ⟨⟨⟨_, hbY.drew⟩, rfl⟩, ?_⟩
            simp only [wpPlan, sel, List.take_succ_cons, List.take_zero, List.drop_succ_cons, List.drop_zero, List.cons_append, List.nil_append]
            refine wpQuiet_nil ?_
            unfold wpChain
            go_wp2_with fail
            refine (HF2.out _ hbY.drew).mono ?_
            rintro e w4 ⟨A5, c5, A6, c6, rfl, hoB, hcB, hmB, hoL, hz, hAp⟩
            have hb4 : Below wr.heap.size wr w4 := hbY.drew.trans (hz.mono hbY.drew.size)
            have hbx4 := hbxY.drew.below hz hbxY.drew.lt
            have hc4 : w4.cell? ⟨wr.heap.size, 0, none⟩ = some (.slice none 0 0) := hbx4.cell 0
            have hfr4 := hbx4.free 0
            have hs4 := hbY.drew.size
            have hbx6 := hbx4.set_ 0 (.slice A5 (feedF L).2.length c5)
            have hb6 : Below wr.heap.size wr (w4.setCell ⟨wr.heap.size, 0, none⟩ (.slice A5 (feedF L).2.length c5)) := hb4.setCell (Nat.le_refl _) _
            have hlt4 : wr.heap.size < (World.drew (wr.alloc (.cells #[.slice none 0 0] 26))).heap.size := hbxY.drew.lt
            have hneB : Value.ownBlock (.slice A5 (feedF L).2.length c5) ≠ some wr.heap.size := fun e => by have := (own_block hoB e).1; omega
            have hneL : Value.ownBlock (.slice A6 (feedF L).1.length c6) ≠ some wr.heap.size := fun e => by have := (own_block hoL e).1; omega
            have hoB6 := own_far (own_le hoB (Nat.le_of_lt hlt4)) (p := ⟨wr.heap.size, 0, none⟩) hneB (.slice A5 (feedF L).2.length c5)
            have hoL6 := own_far (own_le hoL (Nat.le_of_lt hlt4)) (p := ⟨wr.heap.size, 0, none⟩) hneL (.slice A5 (feedF L).2.length c5)
            have HFM : Hid (FMet wr L (.pointer (some ⟨wr.heap.size, 0, none⟩)) (.slice A6 (feedF L).1.length c6) (w4.setCell ⟨wr.heap.size, 0, none⟩ (.slice A5 (feedF L).2.length c5))) := ⟨_, _, _, _, _, rfl, rfl, hbx6, Nat.le_refl _, hoB6, hcB, hmB, hoL6, hb6, hneB⟩
            have HB6 := Lib.hid hb6
            clear hz hoB hoL hbx6 hoB6 hoL6 hb6 hneB hneL hAp hcB hmB
            generalize (feedF L).1.length = n1 at *
            generalize (feedF L).2.length = n2 at *
            go_wp2_with fail
            refine ⟨⟨⟨_, hb4⟩, rfl⟩, ?_⟩
            unfold wpChain
            repeat (go_big_quiet_step (fail))
            refine wpQuiet_nil ?_
            unfold wpChain
            go_wp2_with fail
            refine ⟨⟨⟨_, HB6.out⟩, rfl⟩, ?_⟩
            unfold wpChain
            repeat (go_big_quiet_step (fail))
            refine wpQuiet_nil ?_
            unfold wpChain
            go_wp2_with fail
            refine Met.intro ?_
            go_step
            (repeat apply Exists.intro)
            refine ⟨?_, rfl⟩
            exact HFM.out
      case rest =>
        obtain ⟨g, A5, c5, A6, c6, rfl, rfl, hbg, hgW, hoB, hcB, hmB, hoL, hbV, hng⟩ := hcut
        clear HFP HFN e1
        have hbelC := hbel.trans (hbV.mono hbel.size)
        have hbxC := hbx.below hbV hbx.lt
        have hXl := hbx.lt
        have hownC := own_below hown hbV
        have hsz := hbV.size
        have hl1 : done.length + (feedF L).1.length ≤ a + n' := by
          have := feed_count (bs.take (a + n'))
          rw [HCUT2.out, List.length_take, Nat.min_eq_left (by omega)] at this
          simp at this
          omega
        have hap2 : Apart u7 (.slice A5 (feedF L).2.length c5) := fun g' hg' hu => by
          have h1 := (own_block hown hg').2
          have h2 := (own_block hoB hu).1
          omega
        generalize (feedF L).1 = L1 at *
        generalize (feedF L).2 = R2 at *
        have dg : wc.cell? ⟨g, 0, none⟩ = some (.slice A5 R2.length c5) := hbg.cell 0
        have dx : wc.cell? ⟨X, 0, none⟩ = some (.slice As R.length cs) := hbxC.cell 0
        have hfx := hbxC.free 0
        have hneO : (u7 : Value).ownBlock ≠ some X := fun e => by have := (own_block hownC e).1; omega
        have hneB : Value.ownBlock (.slice A5 R2.length c5) ≠ some X := fun e => by have := (own_block hoB e).1; omega
        have hneL : Value.ownBlock (.slice A6 L1.length c6) ≠ some X := fun e => by have := (own_block hoL e).1; omega
        have hown5 := own_far hownC (p := ⟨X, 0, none⟩) hneO (.slice A5 R2.length c5)
        have hoB5 := own_far (own_le hoB (Nat.le_trans hWs (Nat.le_refl _))) (p := ⟨X, 0, none⟩) hneB (.slice A5 R2.length c5)
        have hoL5 := own_far hoL (p := ⟨X, 0, none⟩) hneL (.slice A5 R2.length c5)
        have hbx5 := hbxC.set_ 0 (.slice A5 R2.length c5)
        have hbel5 : Below w.heap.size w (wc.setCell ⟨X, 0, none⟩ (.slice A5 R2.length c5)) := hbelC.setCell (by exact hXw) _
        have hsz5 : (wc.setCell ⟨X, 0, none⟩ (.slice A5 R2.length c5)).heap.size = wc.heap.size := by simp
        have hI5 := Rd.of_own hoL5
        have HBX5 := Lib.hid hbx5
        clear hbx hbV hown hownC hoB hoL hbg hbx5 hbxC hownR hap hneB hneL hoL5
        go_wp2_with (at_builtin; refine wpList_append_rd (f := intV) (fun _ => rfl) rfl _ _ 23 rfl W0.heap.size 3 j0 _ 8 Tryd.underlying23 hj hy0 hy1 hy2 rfl _ _ _ rfl hown5 A6 c6 _ L1 rfl hI5 (by unfold maxLen; omega) (by omega) (by omega) ?_)
        intro v' w6 hown6 hO
        have hbx6 := hO.box (HBX5.out) hneO
        have hoB6 := hO.keep hoB5 hap2
        have hap6 := hO.apart hoB5 hap2
        have hbel6 := hbel5.trans (hO.belowBase hbel5.size (fun g' hg' => by have := (own_block hown5 hg').1; omega))
        have hsz6 := hO.gr.size
        have hown7 : w6.ownsRow W0.heap.size 3 1 v' (done.length + L1.length) ((done ++ L1).map intV) := by rw [List.map_append]; exact hown6
        clear hO hown6 hown5 hoB5 hI5 hap2 HBX5 dg dx hfx
        have HB6 := Lib.hid hbx6
        have HO6 := Lib.hid hoB6
        clear hbx6 hoB6
        have hal : a + n' ≤ bs.length := by omega
        have hW6 : W0.heap.size ≤ w6.heap.size := by omega
        go_wp2_with fail
        exact ⟨⟨k + 1, a + n', done.length + L1.length, done ++ L1, R2, A5, c5, by omega, by go_num, by go_num, hal, hown7, HB6.out, HO6.out, hcB, hmB, hap6, HCUT2, hW6, hbel6⟩, by simp [intOf]; omega⟩
    · have hq3 : ¬ (k : Int) < (cuts.length : Int) := by omega
      have hpl : (bs.drop a).length = bs.length - a := List.length_drop
      have hfc := feed_count (bs.take a)
      rw [HF.out, List.length_take, Nat.min_eq_left ha] at hfc
      simp only at hfc
      have hcut := feed_cut (bs.take a) (bs.drop a)
      rw [List.take_append_drop, HF.out] at hcut
      simp only at hcut
      have hft := feed_bd (bs := bs.take a) (fun c hc => hb c (List.mem_of_mem_take hc))
      rw [HF.out] at hft
      simp only at hft
      have hRd := Rd.of_own hownR
      obtain ⟨hbR, hsR⟩ := hft
      have e1 := Ext.cell (B := wr.heap.size) (w := wr) (p := ⟨X, 0, none⟩) hbx.lt (hbx.cell 0)
      have hf2 : ∀ V, Below wr.heap.size wr V → Calls Tryd.prog 9 #[.agg #[.slice As R.length cs], .slice (if cb = a then B else Option.map (fun x => x.add a) B) (bs.length - a) (cb - a)] V (FeedOwn V.heap.size (R ++ bs.drop a) V) := by
        intro V hV
        have hV2 := hbel.trans (hV.mono hbel.size)
        have h1 := feed_own_c As (if cb = a then B else Option.map (fun x => x.add a) B) R (bs.drop a) cs (cb - a) V (hT.below hV2 hT.size) (hRd.on hV) ((h.on hV2).cut hbc) hbR
          (fun c hc => hb c (List.mem_of_mem_drop hc)) hRc hRm hsR (by omega)
        rw [hpl] at h1
        exact h1
      obtain ⟨L, hL⟩ : ∃ L, L = R ++ bs.drop a := ⟨_, rfl⟩
      rw [← hL] at hf2
      have HCUT2 : Hid (feedF bs = (done ++ (feedF L).1, (feedF L).2)) := by rw [hL]; exact Lib.hid hcut
      have hLl : L.length ≤ 600 := by rw [hL, List.length_append, hpl]; omega
      have HFP : Hid (cb = a → ∀ V, Below wr.heap.size wr V → Calls Tryd.prog 9 #[.agg #[.slice As R.length cs], .slice B 0 0] V (FeedOwn V.heap.size L V)) := Lib.hid fun e V hV => by
        have h1 := hf2 V hV
        rw [if_pos e, show cb - a = 0 by omega, show bs.length - a = 0 by omega] at h1; exact h1
      have HFN : Hid (¬ cb = a → ∀ V, Below wr.heap.size wr V → Calls Tryd.prog 9 #[.agg #[.slice As R.length cs], .slice (Option.map (fun x => x.add a) B) (bs.length - a) (cb - a)] V (FeedOwn V.heap.size L V)) := Lib.hid fun e V hV => by
        have h1 := hf2 V hV
        rw [if_neg e] at h1; exact h1
      clear hf2 hbR hsR hRd hcut hL
      go_wp2_with fail
      go_cut [13, 14] (fun pv mv wx => FMet wr L pv mv wx)
      case first =>
        by_cases hca : cb = a
        · subst hca
          have HF2 := Lib.hid (HFP.out rfl)
          clear HFP HFN
          refine region_plan2 [([0, 1, 2, 3], [])] 6 4 8 [([5, 6, 7], [8, 9]), ([10], [])] [([], [4]), ([5, 6, 7], [9]), ([10], [])] (fun w' => ∃ u : Ext wr wr.heap.size, w' = u.val) (by kernel_rfl) (by kernel_rfl) (fun _ _ _ _ _ h => h) ⟨⟨_, (Below.refl _ _).drew⟩, rfl⟩ ?_
          simp only [wpPlanK, sel, List.take_succ_cons, List.take_zero, List.drop_succ_cons, List.drop_zero, List.cons_append, List.nil_append]
          repeat (go_big_quiet_step (fail))
          refine wpQuiet_nil ?_
          simp only [wpChain]
          refine ⟨?_, ?_⟩
          · go_wp2_with fail
            refine (HF2.out _ (Below.refl _ _).drew).mono ?_
            rintro e w4 ⟨A5, c5, A6, c6, rfl, hoB, hcB, hmB, hoL, hz, hAp⟩
            have hb4 : Below wr.heap.size wr w4 := ((Below.refl _ _).drew).trans hz
            have hb5 := hb4.alloc hb4.size (.cells #[.slice none 0 0] 26)
            have hbx6 := Box.new w4 26 #[.slice A5 (feedF L).2.length c5]
            have hoB6 := hoB.alloc (.cells #[.slice A5 (feedF L).2.length c5] 26)
            have hoL6 := hoL.alloc (.cells #[.slice A5 (feedF L).2.length c5] 26)
            have hb6 := hb4.alloc hb4.size (.cells #[.slice A5 (feedF L).2.length c5] 26)
            have hne6 : Value.ownBlock (.slice A5 (feedF L).2.length c5) ≠ some w4.heap.size := fun e => by have := (own_block hoB e).2; omega
            have hs4 := hb4.size
            have HFM : Hid (FMet wr L (.pointer (some ⟨w4.heap.size, 0, none⟩)) (.slice A6 (feedF L).1.length c6) (w4.alloc (.cells #[.slice A5 (feedF L).2.length c5] 26))) := ⟨_, _, _, _, _, rfl, rfl, hbx6, hs4, hoB6, hcB, hmB, hoL6, hb6, hne6⟩
            clear hz hoB hoL hbx6 hoB6 hoL6 hb6 hne6 hAp hcB hmB
            generalize (feedF L).1.length = n1 at *
            generalize (feedF L).2.length = n2 at *
            go_wp2_with fail
            refine ⟨⟨⟨_, hb4⟩, rfl⟩, ?_⟩
            simp only [wpPlan, sel, List.take_succ_cons, List.take_zero, List.drop_succ_cons, List.drop_zero, List.cons_append, List.nil_append]
            repeat (go_big_quiet_step (fail))
            refine wpQuiet_nil ?_
            unfold wpChain
            go_wp2_with fail
            refine ⟨⟨⟨_, hb5⟩, rfl⟩, ?_⟩
            unfold wpChain
            go_wp2_with fail
            refine ⟨⟨⟨_, hb4.alloc hb4.size _⟩, rfl⟩, ?_⟩
            unfold wpChain
            repeat (go_big_quiet_step (fail))
            refine wpQuiet_nil ?_
            unfold wpChain
            go_wp2_with fail
            refine Met.intro ?_
            go_step
            (repeat apply Exists.intro)
            refine ⟨?_, rfl⟩
            exact HFM.out
          · have hbxY := Box.new wr 26 #[.slice none 0 0]
            have hbY : Below wr.heap.size wr (wr.alloc (.cells #[.slice none 0 0] 26)) := (Below.refl _ _).alloc (Nat.le_refl _) _
            go_wp2_with fail
            refine ⟨⟨⟨_, hbY.drew⟩, rfl⟩, ?_⟩
            simp only [wpPlan, sel, List.take_succ_cons, List.take_zero, List.drop_succ_cons, List.drop_zero, List.cons_append, List.nil_append]
            refine wpQuiet_nil ?_
            unfold wpChain
            go_wp2_with fail
            refine (HF2.out _ hbY.drew).mono ?_
            rintro e w4 ⟨A5, c5, A6, c6, rfl, hoB, hcB, hmB, hoL, hz, hAp⟩
            have hb4 : Below wr.heap.size wr w4 := hbY.drew.trans (hz.mono hbY.drew.size)
            have hbx4 := hbxY.drew.below hz hbxY.drew.lt
            have hc4 : w4.cell? ⟨wr.heap.size, 0, none⟩ = some (.slice none 0 0) := hbx4.cell 0
            have hfr4 := hbx4.free 0
            have hs4 := hbY.drew.size
            have hbx6 := hbx4.set_ 0 (.slice A5 (feedF L).2.length c5)
            have hb6 : Below wr.heap.size wr (w4.setCell ⟨wr.heap.size, 0, none⟩ (.slice A5 (feedF L).2.length c5)) := hb4.setCell (Nat.le_refl _) _
            have hlt4 : wr.heap.size < (World.drew (wr.alloc (.cells #[.slice none 0 0] 26))).heap.size := hbxY.drew.lt
            have hneB : Value.ownBlock (.slice A5 (feedF L).2.length c5) ≠ some wr.heap.size := fun e => by have := (own_block hoB e).1; omega
            have hneL : Value.ownBlock (.slice A6 (feedF L).1.length c6) ≠ some wr.heap.size := fun e => by have := (own_block hoL e).1; omega
            have hoB6 := own_far (own_le hoB (Nat.le_of_lt hlt4)) (p := ⟨wr.heap.size, 0, none⟩) hneB (.slice A5 (feedF L).2.length c5)
            have hoL6 := own_far (own_le hoL (Nat.le_of_lt hlt4)) (p := ⟨wr.heap.size, 0, none⟩) hneL (.slice A5 (feedF L).2.length c5)
            have HFM : Hid (FMet wr L (.pointer (some ⟨wr.heap.size, 0, none⟩)) (.slice A6 (feedF L).1.length c6) (w4.setCell ⟨wr.heap.size, 0, none⟩ (.slice A5 (feedF L).2.length c5))) := ⟨_, _, _, _, _, rfl, rfl, hbx6, Nat.le_refl _, hoB6, hcB, hmB, hoL6, hb6, hneB⟩
            have HB6 := Lib.hid hb6
            clear hz hoB hoL hbx6 hoB6 hoL6 hb6 hneB hneL hAp hcB hmB
            generalize (feedF L).1.length = n1 at *
            generalize (feedF L).2.length = n2 at *
            go_wp2_with fail
            refine ⟨⟨⟨_, hb4⟩, rfl⟩, ?_⟩
            unfold wpChain
            repeat (go_big_quiet_step (fail))
            refine wpQuiet_nil ?_
            unfold wpChain
            go_wp2_with fail
            refine ⟨⟨⟨_, HB6.out⟩, rfl⟩, ?_⟩
            unfold wpChain
            repeat (go_big_quiet_step (fail))
            refine wpQuiet_nil ?_
            unfold wpChain
            go_wp2_with fail
            refine Met.intro ?_
            go_step
            (repeat apply Exists.intro)
            refine ⟨?_, rfl⟩
            exact HFM.out
        · have HF2 := Lib.hid (HFN.out hca)
          clear HFP HFN
          refine region_plan2 [([0, 1, 2, 3], [])] 6 4 8 [([5, 6, 7], [8, 9]), ([10], [])] [([], [4]), ([5, 6, 7], [9]), ([10], [])] (fun w' => ∃ u : Ext wr wr.heap.size, w' = u.val) (by kernel_rfl) (by kernel_rfl) (fun _ _ _ _ _ h => h) ⟨⟨_, (Below.refl _ _).drew⟩, rfl⟩ ?_
          simp only [wpPlanK, sel, List.take_succ_cons, List.take_zero, List.drop_succ_cons, List.drop_zero, List.cons_append, List.nil_append]
          repeat (go_big_quiet_step (fail))
          refine wpQuiet_nil ?_
          simp only [wpChain]
          refine ⟨?_, ?_⟩
          · go_wp2_with fail
            refine (HF2.out _ (Below.refl _ _).drew).mono ?_
            rintro e w4 ⟨A5, c5, A6, c6, rfl, hoB, hcB, hmB, hoL, hz, hAp⟩
            have hb4 : Below wr.heap.size wr w4 := ((Below.refl _ _).drew).trans hz
            have hb5 := hb4.alloc hb4.size (.cells #[.slice none 0 0] 26)
            have hbx6 := Box.new w4 26 #[.slice A5 (feedF L).2.length c5]
            have hoB6 := hoB.alloc (.cells #[.slice A5 (feedF L).2.length c5] 26)
            have hoL6 := hoL.alloc (.cells #[.slice A5 (feedF L).2.length c5] 26)
            have hb6 := hb4.alloc hb4.size (.cells #[.slice A5 (feedF L).2.length c5] 26)
            have hne6 : Value.ownBlock (.slice A5 (feedF L).2.length c5) ≠ some w4.heap.size := fun e => by have := (own_block hoB e).2; omega
            have hs4 := hb4.size
            have HFM : Hid (FMet wr L (.pointer (some ⟨w4.heap.size, 0, none⟩)) (.slice A6 (feedF L).1.length c6) (w4.alloc (.cells #[.slice A5 (feedF L).2.length c5] 26))) := ⟨_, _, _, _, _, rfl, rfl, hbx6, hs4, hoB6, hcB, hmB, hoL6, hb6, hne6⟩
            clear hz hoB hoL hbx6 hoB6 hoL6 hb6 hne6 hAp hcB hmB
            generalize (feedF L).1.length = n1 at *
            generalize (feedF L).2.length = n2 at *
            go_wp2_with fail
            refine ⟨⟨⟨_, hb4⟩, rfl⟩, ?_⟩
            simp only [wpPlan, sel, List.take_succ_cons, List.take_zero, List.drop_succ_cons, List.drop_zero, List.cons_append, List.nil_append]
            repeat (go_big_quiet_step (fail))
            refine wpQuiet_nil ?_
            unfold wpChain
            go_wp2_with fail
            refine ⟨⟨⟨_, hb5⟩, rfl⟩, ?_⟩
            unfold wpChain
            go_wp2_with fail
            refine ⟨⟨⟨_, hb4.alloc hb4.size _⟩, rfl⟩, ?_⟩
            unfold wpChain
            repeat (go_big_quiet_step (fail))
            refine wpQuiet_nil ?_
            unfold wpChain
            go_wp2_with fail
            refine Met.intro ?_
            go_step
            (repeat apply Exists.intro)
            refine ⟨?_, rfl⟩
            exact HFM.out
          · have hbxY := Box.new wr 26 #[.slice none 0 0]
            have hbY : Below wr.heap.size wr (wr.alloc (.cells #[.slice none 0 0] 26)) := (Below.refl _ _).alloc (Nat.le_refl _) _
            go_wp2_with fail
            refine ⟨⟨⟨_, hbY.drew⟩, rfl⟩, ?_⟩
            simp only [wpPlan, sel, List.take_succ_cons, List.take_zero, List.drop_succ_cons, List.drop_zero, List.cons_append, List.nil_append]
            refine wpQuiet_nil ?_
            unfold wpChain
            go_wp2_with fail
            refine (HF2.out _ hbY.drew).mono ?_
            rintro e w4 ⟨A5, c5, A6, c6, rfl, hoB, hcB, hmB, hoL, hz, hAp⟩
            have hb4 : Below wr.heap.size wr w4 := hbY.drew.trans (hz.mono hbY.drew.size)
            have hbx4 := hbxY.drew.below hz hbxY.drew.lt
            have hc4 : w4.cell? ⟨wr.heap.size, 0, none⟩ = some (.slice none 0 0) := hbx4.cell 0
            have hfr4 := hbx4.free 0
            have hs4 := hbY.drew.size
            have hbx6 := hbx4.set_ 0 (.slice A5 (feedF L).2.length c5)
            have hb6 : Below wr.heap.size wr (w4.setCell ⟨wr.heap.size, 0, none⟩ (.slice A5 (feedF L).2.length c5)) := hb4.setCell (Nat.le_refl _) _
            have hlt4 : wr.heap.size < (World.drew (wr.alloc (.cells #[.slice none 0 0] 26))).heap.size := hbxY.drew.lt
            have hneB : Value.ownBlock (.slice A5 (feedF L).2.length c5) ≠ some wr.heap.size := fun e => by have := (own_block hoB e).1; omega
            have hneL : Value.ownBlock (.slice A6 (feedF L).1.length c6) ≠ some wr.heap.size := fun e => by have := (own_block hoL e).1; omega
            have hoB6 := own_far (own_le hoB (Nat.le_of_lt hlt4)) (p := ⟨wr.heap.size, 0, none⟩) hneB (.slice A5 (feedF L).2.length c5)
            have hoL6 := own_far (own_le hoL (Nat.le_of_lt hlt4)) (p := ⟨wr.heap.size, 0, none⟩) hneL (.slice A5 (feedF L).2.length c5)
            have HFM : Hid (FMet wr L (.pointer (some ⟨wr.heap.size, 0, none⟩)) (.slice A6 (feedF L).1.length c6) (w4.setCell ⟨wr.heap.size, 0, none⟩ (.slice A5 (feedF L).2.length c5))) := ⟨_, _, _, _, _, rfl, rfl, hbx6, Nat.le_refl _, hoB6, hcB, hmB, hoL6, hb6, hneB⟩
            have HB6 := Lib.hid hb6
            clear hz hoB hoL hbx6 hoB6 hoL6 hb6 hneB hneL hAp hcB hmB
            generalize (feedF L).1.length = n1 at *
            generalize (feedF L).2.length = n2 at *
            go_wp2_with fail
            refine ⟨⟨⟨_, hb4⟩, rfl⟩, ?_⟩
            unfold wpChain
            repeat (go_big_quiet_step (fail))
            refine wpQuiet_nil ?_
            unfold wpChain
            go_wp2_with fail
            refine ⟨⟨⟨_, HB6.out⟩, rfl⟩, ?_⟩
            unfold wpChain
            repeat (go_big_quiet_step (fail))
            refine wpQuiet_nil ?_
            unfold wpChain
            go_wp2_with fail
            refine Met.intro ?_
            go_step
            (repeat apply Exists.intro)
            refine ⟨?_, rfl⟩
            exact HFM.out
      case rest =>
        obtain ⟨g, A5, c5, A6, c6, rfl, rfl, hbg, hgW, hoB, hcB, hmB, hoL, hbV, hng⟩ := hcut
        clear HFP HFN e1
        have hbelC := hbel.trans (hbV.mono hbel.size)
        have hownC := own_below hown hbV
        have hsz := hbV.size
        have hap2 : Apart u7 (.slice A5 (feedF L).2.length c5) := fun g' hg' hu => by
          have h1 := (own_block hown hg').2
          have h2 := (own_block hoB hu).1
          omega
        have hfL := feed_count L
        have hq := feed_bd hb
        rw [HCUT2.out] at hq
        obtain ⟨hqb, hqs⟩ := hq
        have hq4 : (feedF L).2.length ≤ 3 := by
          rcases feed_left L with h0 | h0
          · rw [h0]; simp
          · exact (opn_short h0).1
        simp only at hqb hqs
        generalize (feedF L).1 = L1 at *
        generalize (feedF L).2 = R2 at *
        have hI5 := Rd.of_own hoL
        have hneg : (u7 : Value).ownBlock ≠ some g := fun e => by have := (own_block hown e).2; omega
        have HBG := Lib.hid hbg
        clear hbx hbV hown hoL hbg hownR hap
        go_wp2_with (at_builtin; refine wpList_append_rd (f := intV) (fun _ => rfl) rfl _ _ 23 rfl W0.heap.size 3 j0 _ 8 Tryd.underlying23 hj hy0 hy1 hy2 rfl _ _ _ rfl hownC A6 c6 _ L1 rfl hI5 (by unfold maxLen; omega) (by omega) (by omega) ?_)
        intro v' w6 hown6 hO
        have hbg6 := hO.box HBG.out hneg
        have hoB6 := hO.keep hoB hap2
        have hbel6 := hbelC.trans (hO.belowBase hbelC.size (fun g' hg' => by have := (own_block hownC hg').1; omega))
        have hown7 : w6.ownsRow W0.heap.size 3 1 v' (done ++ L1).length ((done ++ L1).map intV) := by rw [List.length_append, List.map_append]; exact hown6
        have hnl : done.length + L1.length = (done ++ L1).length := by rw [List.length_append]
        have hPl : (done ++ L1).length ≤ 2000 := by rw [List.length_append]; omega
        clear hO hown6 hownC hoB hI5 hap2 HBG hneg
        have HNL := Lib.hid hnl
        clear hnl
        generalize done ++ L1 = P at *
        obtain ⟨A7, c7, rfl, hc7, hm7⟩ := own_form1 hown7
        have hI7 := Rd.of_own hown7
        have hR6 := Rd.of_own hoB6
        clear hown7 hoB6
        have hf3 := feed_c none B [] bs 0 cb w6 (hT.below hbel6 hT.size) Rd.nil (h.on hbel6) (by simp) hb (Nat.le_refl _) (Nat.zero_le _) rfl (by simp; omega)
        rw [List.nil_append] at hf3
        unfold FeedSaid at hf3
        rw [HCUT2.out] at hf3
        simp only at hf3
        go_wp2_with fail
        refine hf3.mono ?_
        rintro e w7 ⟨A8, c8, A9, c9, rfl, hR8, hc8, hm8, hown9, hz⟩
        have hbel7 := hbel6.trans (hz.mono hbel6.size)
        have hI77 := hI7.on hz
        have hR67 := hR6.on hz
        have hbg7 := hbg6.below hz hbg6.lt
        have hI9 := Rd.of_own hown9
        clear hz hf3 hI7 hR6 hbg6 hown9
        have hz : Below w7.heap.size w7 (w7.alloc (.cells #[.slice A8 R2.length c8] 26)) := (Below.refl _ _).alloc (Nat.le_refl _) _
        have hbu := Box.new w7 26 #[.slice A8 R2.length c8]
        have hbel8 := hbel7.trans (hz.mono hbel7.size)
        have hI78 := hI77.on hz
        have hI98 := hI9.on hz
        have hR68 := hR67.on hz
        have hR88 := hR8.on hz
        have hbg8 := hbg7.below hz hbg7.lt
        have hic := ints_c A7 A9 P c7 c9 _ hI78 hI98 (by omega)
        clear hz hI77 hI9 hR67 hR8 hbg7 hI78 hI98
        go_wp2_with fail
        refine hic.mono ?_
        rintro e w9 ⟨rfl, hz⟩
        have hbel9 := hbel8.trans (hz.mono hbel8.size)
        have hR69 := hR68.on hz
        have hR89 := hR88.on hz
        have hbg9 := hbg8.below hz hbg8.lt
        have hbu9 := hbu.below hz hbu.lt
        have dg : w9.cell? ⟨g, 0, none⟩ = some (.slice A5 R2.length c5) := hbg9.cell 0
        have du : w9.cell? ⟨w7.heap.size, 0, none⟩ = some (.slice A8 R2.length c8) := hbu9.cell 0
        have k1 := conv_c A5 R2 c5 w9 hR69
        have k2 := conv_c A8 R2 c8 w9 hR89
        generalize strOfNums (R2.map Int.ofNat) = S at *
        have hsc := sane_c A5 R2 c5 w9 (hT.below hbel9 hT.size) hR69 hqb hcB hmB
        rw [hqs] at hsc
        have hq5 : (R2.length : Int) < 4 := by omega
        clear hz hic hR68 hR88 hbg8 hbu hR69 hR89 hbu9
        go_wp2_with fail
        refine hsc.mono ?_
        rintro e w10 ⟨rfl, hz⟩
        have hbel10 := hbel9.trans (hz.mono hbel9.size)
        have hbg10 := hbg9.below hz hbg9.lt
        have dg10 : w10.cell? ⟨g, 0, none⟩ = some (.slice A5 R2.length c5) := hbg10.cell 0
        clear hz hsc hbg9 hbg10 dg du k1 k2
        go_wp2_with fail
        go_ret
        exact ⟨rfl, hbel10⟩
end Go.Proofs.YthkahbgcemhebaaDoor
