/- ParseFew, walked over the contracts. -/
import Derived.Test.YtiaippdaogmcmaaDoorGroundL6
import Derived.Test.YtiaippdaogmcmaaDoorP5Calls
import Derived.Test.YtiaippdaogmcmaaDoorMem6
namespace Go.Proofs.YtiaippdaogmcmaaDoor
open Go Go.RowKit
set_option linter.unusedVariables false
set_option linter.unusedSimpArgs false

/-- The law's own state. -/
structure SVar (w : World) (X : Nat) (W : World) (s : S6) (A : Option Addr) (c : Nat) (es : List El) : Prop where
  box : Box W X 28 (stCells s A es.length c)
  ins : InS W A c es s
  off : Off X A es
  bel : Below w.heap.size w W
  hX : w.heap.size ≤ X
/-- Behind a step: its state, its actions. -/
def TMet (w : World) (X : Nat) (s : S6) (A : Option Addr) (c : Nat) (es : List El) (x : S6 × List A6) (u7 u8 : Value) (wx : World) : Prop :=
  ∃ T A' c' es' B d l, u7 = .pointer (some ⟨T, 0, none⟩) ∧ u8 = .slice B (List.length l) d ∧ Box wx T 28 (stCells x.1 A' es'.length c') ∧ InS wx A' c' es' x.1 ∧ InA wx B d l ∧ acts l = x.2 ∧ Off X A' es' ∧ SVar w X wx s A c es
theorem SVar.step {w W : World} {X : Nat} {s t : S6} {A A' : Option Addr} {c c' : Nat} {es es' : List El} (h : SVar w X W s A c es) (hi : InS W A' c' es' t) (ho : Off X A' es') :
    SVar w X (set7 W X (.int .i64 t.at_) (.string (strS t.inter)) (.bool t.over) (.slice A' es'.length c') (.bool t.par.o) (.string (strS t.text)) (.int .u8 (t.kind : Int))) t A' c' es' := by
  have hp := h.box.put7 h.bel h.hX (.int .i64 t.at_) (.string (strS t.inter)) (.bool t.over) (.slice A' es'.length c') (.bool t.par.o) (.string (strS t.text)) (.int .u8 (t.kind : Int))
  exact ⟨hp.1, hi.set7 ho _ _ _ _ _ _ _, ho, hp.2, h.hX⟩
set_option maxRecDepth 100000 in
set_option maxHeartbeats 8000000 in
theorem few_law (hf : Feed6C) (hst : Step6C) (hsn : Sane6C) (L : Option Addr) (cap : Nat) (rs : List Int) (w : World) (hL : Its w w.heap.size L rs) (hk : rs.length ≤ cap) (hk2 : cap ≤ maxLen) (hr : ∀ r ∈ rs, I64 r) (hP : Pw w) :
    Calls Tryd.prog 7 #[.slice L rs.length cap] w fun e w' => e = .returned (.bool true) ∧ Below w.heap.size w w' := by
  have hg := hP.size
  have hmk := hk2
  unfold maxLen at hmk
  by_cases hbig : 1000 < rs.length
  · have hz : (rs.length : Int) > 1000 := by omega
    go_enter Tryd.func7, Tryd.ntmps7
    go_wp2_with fail
    refine (awake6_c hf w hP).mono ?_
    rintro e w1 ⟨rfl, hb1⟩
    go_wp2_with fail
    go_ret
    exact ⟨rfl, hb1⟩
  · have hz : ¬ (rs.length : Int) > 1000 := by omega
    go_enter Tryd.func7, Tryd.ntmps7
    go_wp2_with fail
    refine (awake6_c hf w hP).mono ?_
    rintro e w1 ⟨rfl, hb1⟩
    have hal : Below w1.heap.size w1 (w1.alloc (.cells #[.int .i64 0, .string ⟨#[]⟩, .bool false, .slice none 0 0, .bool false, .string ⟨#[]⟩, .int .u8 0] 28)) := (Below.refl _ _).alloc (Nat.le_refl _) _
    have hsv : SVar w w1.heap.size (w1.alloc (.cells #[.int .i64 0, .string ⟨#[]⟩, .bool false, .slice none 0 0, .bool false, .string ⟨#[]⟩, .int .u8 0] 28)) zeroS none 0 [] := ⟨Box.new w1 _ _, InS.zero _, Off.nil, hb1.trans (hal.mono hb1.size), hb1.size⟩
    have HX := Lib.hid hb1.size
    clear hal hb1
    go_wp2_with fail
    go_loopw [5, 6] (fun u5 u6 wr => ∃ (k N : Nat) (s : S6) (A : Option Addr) (c : Nat) (es : List El), k ≤ rs.length ∧ u6 = .int .i64 (k : Int) ∧ u5 = .int .i64 (N : Int) ∧ N ≤ 2 * k ∧ SVar w w1.heap.size wr s A c es ∧ Hid (SaneS s ∧ Byt6 s)) (fun _ u6 _ => rs.length - (intOf u6).toNat)
    case atStart => exact ⟨0, 0, zeroS, none, 0, [], Nat.zero_le _, rfl, rfl, Nat.zero_le _, hsv, Lib.hid ⟨zeroS_sane, zero_byt⟩⟩
    case round =>
      obtain ⟨k, N, s, A, c, es, hkl, rfl, rfl, hN, hs, HSB⟩ := hrel
      by_cases hlt : k < rs.length
      · obtain ⟨r, hr1⟩ : ∃ r, rs[k]? = some r := ⟨_, List.getElem?_eq_getElem hlt⟩
        have hrI := hr r (List.mem_of_getElem? hr1)
        obtain ⟨bL, oL, rfl, hbL, cL⟩ := (hL.on hs.bel).at_ hr1
        unfold intV at cL
        have hsp : ∀ V, Below wr.heap.size wr V → Calls Tryd.prog 16 #[stV s A es.length c, .int .i64 r] V (GivesS (stepS s r) A es V) := fun V hV => hst s A c es r V (hs.ins.on hV) HSB.out.2 (sane_size6 HSB.out.1) hrI
        have hfs := few_step HSB.out.1 r
        have hsn2 : SaneS (stepS s r).1 ∧ Byt6 (stepS s r).1 := ⟨step6_sane s r, step_byt HSB.out.2 r⟩
        generalize stepS s r = x at *
        obtain ⟨t, la⟩ := x
        have HF := Lib.hid hfs
        have HN2 := Lib.hid hsn2
        simp only [stV_eq] at hsp
        have HSP := Lib.hid hsp
        have HS := Lib.hid hs
        have hbX := hs.box.lt
        have z1 : (k : Int) < (rs.length : Int) := by omega
        have g0 := Ext.cell (w := wr) (B := wr.heap.size) hbL cL
        have p0 := Ext.cell (w := wr) (B := wr.heap.size) hbX (show wr.cell? ⟨w1.heap.size, 0, none⟩ = some (.int .i64 s.at_) from hs.box.cell 0)
        have p1 := Ext.cell (w := wr) (B := wr.heap.size) hbX (show wr.cell? ⟨w1.heap.size, 1, none⟩ = some (.string (strS s.inter)) from hs.box.cell 1)
        have p2 := Ext.cell (w := wr) (B := wr.heap.size) hbX (show wr.cell? ⟨w1.heap.size, 2, none⟩ = some (.bool s.over) from hs.box.cell 2)
        have p3 := Ext.cell (w := wr) (B := wr.heap.size) hbX (show wr.cell? ⟨w1.heap.size, 3, none⟩ = some (.slice A es.length c) from hs.box.cell 3)
        have p4 := Ext.cell (w := wr) (B := wr.heap.size) hbX (show wr.cell? ⟨w1.heap.size, 4, none⟩ = some (.bool s.par.o) from hs.box.cell 4)
        have p5 := Ext.cell (w := wr) (B := wr.heap.size) hbX (show wr.cell? ⟨w1.heap.size, 5, none⟩ = some (.string (strS s.text)) from hs.box.cell 5)
        have p6 := Ext.cell (w := wr) (B := wr.heap.size) hbX (show wr.cell? ⟨w1.heap.size, 6, none⟩ = some (.int .u8 (s.kind : Int)) from hs.box.cell 6)
        clear hr1 hrI hfs hsn2 hsp hs cL
        go_upto_region 9 with fail
        go_cut [7, 8] (fun u7 u8 wx => TMet w w1.heap.size s A c es (t, la) u7 u8 wx)
        case first =>
          refine region_plan2 [([0, 1, 2, 3, 4], [])] 6 5 9 [([6, 7, 8], [9, 10]), ([11], [])] [([], [5]), ([6, 7, 8], [10]), ([11], [])] (fun w' => ∃ u : Ext wr wr.heap.size, w' = u.val) (by kernel_rfl) (by kernel_rfl) (fun _ _ _ _ _ h => h) ⟨⟨_, (Below.refl _ _).drew⟩, rfl⟩ ?_
          simp only [wpPlanK, sel, List.take_succ_cons, List.take_zero, List.drop_succ_cons, List.drop_zero, List.cons_append, List.nil_append]
          repeat (go_big_quiet_step (fail))
          refine wpQuiet_nil ?_
          simp only [wpChain, wpPlanK]
          clear g0 p0 p1 p2 p3 p4 p5 p6
          refine ⟨?_, ?_⟩
          · go_wp2_with fail
            refine (HSP.out _ (Below.refl _ _).drew).mono ?_
            rintro e w7 ⟨A', c', es', B, d, l, rfl, hS2, hin, hac, hfar, hb7⟩
            have hv7 : Below wr.heap.size wr w7 := ((Below.refl wr.heap.size wr).drew).trans hb7
            have hbz : Below wr.heap.size wr (w7.alloc (.cells #[.int .i64 0, .string ⟨#[]⟩, .bool false, .slice none 0 0, .bool false, .string ⟨#[]⟩, .int .u8 0] 28)) := hv7.alloc hv7.size _
            have hal8 : Below w7.heap.size w7 (w7.alloc (.cells #[.int .i64 t.at_, .string (strS t.inter), .bool t.over, .slice A' es'.length c', .bool t.par.o, .string (strS t.text), .int .u8 (t.kind : Int)] 28)) := (Below.refl _ _).alloc (Nat.le_refl _) _
            have hb8 : Below wr.heap.size wr (w7.alloc (.cells #[.int .i64 t.at_, .string (strS t.inter), .bool t.over, .slice A' es'.length c', .bool t.par.o, .string (strS t.text), .int .u8 (t.kind : Int)] 28)) := hv7.alloc hv7.size _
            have hoX := (hfar w1.heap.size hbX).2 HS.out.off
            have hs8 : SVar w w1.heap.size (w7.alloc (.cells #[.int .i64 t.at_, .string (strS t.inter), .bool t.over, .slice A' es'.length c', .bool t.par.o, .string (strS t.text), .int .u8 (t.kind : Int)] 28)) s A c es := ⟨HS.out.box.below hb8 hbX, HS.out.ins.on hb8, HS.out.off, HS.out.bel.trans (hb8.mono HS.out.bel.size), HS.out.hX⟩
            have HFM : Hid (TMet w w1.heap.size s A c es (t, la) (.pointer (some ⟨w7.heap.size, 0, none⟩)) (.slice B l.length d) (w7.alloc (.cells #[.int .i64 t.at_, .string (strS t.inter), .bool t.over, .slice A' es'.length c', .bool t.par.o, .string (strS t.text), .int .u8 (t.kind : Int)] 28))) := Lib.hid ⟨w7.heap.size, A', c', es', B, d, l, rfl, rfl, Box.new w7 _ _, hS2.on hal8, hin.on hal8, hac, hoX.1, hs8⟩
            have HB8 := Lib.hid hb8
            clear hS2 hin hac hfar hb7 hal8 hb8 hoX hs8
            simp only [stV_eq]
            go_wp2_with fail
            refine ⟨⟨⟨_, hv7⟩, rfl⟩, ?_⟩
            simp only [wpPlan, sel, List.take_succ_cons, List.take_zero, List.drop_succ_cons, List.drop_zero, List.cons_append, List.nil_append]
            repeat (go_big_quiet_step (fail))
            refine wpQuiet_nil ?_
            unfold wpChain
            go_wp2_with fail
            refine ⟨⟨⟨_, hbz⟩, rfl⟩, ?_⟩
            unfold wpChain
            go_wp2_with fail
            refine ⟨⟨⟨_, HB8.out⟩, rfl⟩, ?_⟩
            unfold wpChain
            repeat (go_big_quiet_step (fail))
            refine wpQuiet_nil ?_
            unfold wpChain
            go_wp2_with fail
            refine Met.intro ?_
            go_step
            (repeat apply Exists.intro)
            refine ⟨?_, rfl⟩
            exact HFM.out
          · have hbY := (Below.refl wr.heap.size wr).alloc (Nat.le_refl _) (.cells #[.int .i64 0, .string ⟨#[]⟩, .bool false, .slice none 0 0, .bool false, .string ⟨#[]⟩, .int .u8 0] 28)
            have hbxY : Box (World.drew (wr.alloc (.cells #[.int .i64 0, .string ⟨#[]⟩, .bool false, .slice none 0 0, .bool false, .string ⟨#[]⟩, .int .u8 0] 28))) wr.heap.size 28 #[.int .i64 0, .string ⟨#[]⟩, .bool false, .slice none 0 0, .bool false, .string ⟨#[]⟩, .int .u8 0] := Box.new wr 28 _
            go_wp2_with fail
            refine ⟨⟨⟨_, hbY.drew⟩, rfl⟩, ?_⟩
            simp only [wpPlan, sel, List.take_succ_cons, List.take_zero, List.drop_succ_cons, List.drop_zero, List.cons_append, List.nil_append]
            refine wpQuiet_nil ?_
            unfold wpChain
            go_wp2_with fail
            refine (HSP.out _ hbY.drew).mono ?_
            rintro e w7 ⟨A', c', es', B, d, l, rfl, hS2, hin, hac, hfar, hb7⟩
            have hv7 : Below wr.heap.size wr w7 := hbY.drew.trans (hb7.mono hbY.drew.size)
            have hbx7 := hbxY.below hb7 hbxY.lt
            have hfY := hfar wr.heap.size hbxY.lt
            have hoY := hfY.2 (HS.out.ins.inp.offNew (Nat.le_refl _))
            have hoX := (hfar w1.heap.size (Nat.lt_of_lt_of_le hbX hbY.drew.size)).2 HS.out.off
            have hput := hbx7.put7 hv7 (Nat.le_refl _) (.int .i64 t.at_) (.string (strS t.inter)) (.bool t.over) (.slice A' es'.length c') (.bool t.par.o) (.string (strS t.text)) (.int .u8 (t.kind : Int))
            have hs8 : SVar w w1.heap.size (set7 w7 wr.heap.size (.int .i64 t.at_) (.string (strS t.inter)) (.bool t.over) (.slice A' es'.length c') (.bool t.par.o) (.string (strS t.text)) (.int .u8 (t.kind : Int))) s A c es := ⟨HS.out.box.below hput.2 hbX, HS.out.ins.on hput.2, HS.out.off, HS.out.bel.trans (hput.2.mono HS.out.bel.size), HS.out.hX⟩
            have HFM : Hid (TMet w w1.heap.size s A c es (t, la) (.pointer (some ⟨wr.heap.size, 0, none⟩)) (.slice B l.length d) (set7 w7 wr.heap.size (.int .i64 t.at_) (.string (strS t.inter)) (.bool t.over) (.slice A' es'.length c') (.bool t.par.o) (.string (strS t.text)) (.int .u8 (t.kind : Int)))) := Lib.hid ⟨wr.heap.size, A', c', es', B, d, l, rfl, rfl, hput.1, hS2.set7 hoY.1 _ _ _ _ _ _ _, hin.set7 hfY.1 hoY.2 _ _ _ _ _ _ _, hac, hoX.1, hs8⟩
            have HPUT := Lib.hid hput.2
            have k0 := hbx7.cell 0
            have k1 := hbx7.cell 1
            have k2 := hbx7.cell 2
            have k3 := hbx7.cell 3
            have k4 := hbx7.cell 4
            have k5 := hbx7.cell 5
            have k6 := hbx7.cell 6
            have f0 := hbx7.free 0
            have f1 := hbx7.free 1
            have f2 := hbx7.free 2
            have f3 := hbx7.free 3
            have f4 := hbx7.free 4
            have f5 := hbx7.free 5
            have f6 := hbx7.free 6
            clear hS2 hin hac hfar hb7 hfY hoY hoX hput hs8 hbx7
            simp only [stV_eq]
            go_wp2_with fail
            refine ⟨⟨⟨_, hv7⟩, rfl⟩, ?_⟩
            unfold wpChain
            repeat (go_big_quiet_step (fail))
            refine wpQuiet_nil ?_
            unfold wpChain
            go_wp2_with fail
            refine ⟨⟨⟨_, HPUT.out⟩, rfl⟩, ?_⟩
            unfold wpChain
            repeat (go_big_quiet_step (fail))
            refine wpQuiet_nil ?_
            unfold wpChain
            go_wp2_with fail
            refine Met.intro ?_
            go_step
            (repeat apply Exists.intro)
            refine ⟨?_, rfl⟩
            exact HFM.out
        case rest =>
          obtain ⟨T, A', c', es', B, d, l, rfl, rfl, hbT, hS2, hin, hac, hoX, hs2⟩ := hcut
          have hl2 : l.length ≤ 2 := by rw [← acts_len, hac]; exact HF.out.1
          have hl3 : l.length = 2 → 7 ≤ s.at_ := by rw [← acts_len, hac]; exact HF.out.2.1
          have hel : ∀ (j : Nat) (e : AcE), l[j]? = some e → (1 ≤ e.what ∧ e.what ≤ 7) ∧ e.text.length ≤ 1024 ∧ e.inter.length ≤ 2 ∧ e.es.length ≤ 16 := fun j e he => by
            have hm : e.plain ∈ la := by
              have : acts l = la := hac
              rw [← this]
              exact List.mem_map.2 ⟨e, List.mem_of_getElem? he, rfl⟩
            have := HF.out.2.2 _ hm
            simp only [AcE.plain, qs_length] at this
            exact this
          have HE := Lib.hid hel
          have HT := Lib.hid (And.intro hbT (And.intro hS2 hoX))
          have HS2 := Lib.hid hs2
          have HI2 := Lib.hid hin
          have hcap := hin.cap
          have hmax := hin.max
          unfold maxLen at hmax
          have y0 : wc.cell? ⟨w1.heap.size, 0, none⟩ = some (.int .i64 s.at_) := hs2.box.cell 0
          clear hac hel hbT hS2 hoX hs2 hin g0 p0 p1 p2 p3 p4 p5 p6 HF
          have zl1 : ¬ ((l.length : Int) > 2) := by omega
          have zl2 : ((l.length : Int) == 2) = false ∨ (((l.length : Int) == 2) = true ∧ ¬ s.at_ < 7) := by
            by_cases h : l.length = 2
            · exact .inr ⟨beq_iff_eq.2 (by omega), by have := hl3 h; omega⟩
            · exact .inl (beq_eq_false_iff_ne.2 (by omega))
          clear hl3
          rcases zl2 with zl2 | ⟨zl2, zl3⟩
          all_goals
            go_wp2_with fail
            go_loopw [9] (fun u9 wr2 => ∃ j : Nat, j ≤ l.length ∧ u9 = .int .i64 (j : Int) ∧ wr2 = wc) (fun u9 _ => l.length - (intOf u9).toNat)
            case atStart => exact ⟨0, Nat.zero_le _, rfl, rfl⟩
            case round =>
              obtain ⟨j, hj, rfl, rfl⟩ := hrel
              by_cases hjl : j < l.length
              · obtain ⟨e1, he⟩ : ∃ e1, l[j]? = some e1 := ⟨_, List.getElem?_eq_getElem hjl⟩
                obtain ⟨⟨q1, q2⟩, q3, q4, q5⟩ := HE.out j e1 he
                obtain ⟨b, o, rfl, hb, a0, a1, a2, a3, a4, a5, ip⟩ := HI2.out.at_ he
                have zj : (j : Int) < (l.length : Int) := by omega
                have m1 : ¬ e1.what < 1 := by omega
                have m2 : ¬ e1.what > 7 := by omega
                have m3 : ¬ ((strS e1.text).size : Int) > 1024 := by rw [strS_size]; omega
                have m4 : ¬ ((strS e1.inter).size : Int) > 2 := by rw [strS_size]; omega
                have m5 : ¬ (e1.es.length : Int) > 16 := by omega
                clear he q1 q2 q3 q4 q5 ip a1 a2
                go_wp2_with fail
                exact ⟨⟨j + 1, by omega, by go_num, by first | rfl | trivial⟩, by simp [intOf]; omega⟩
              · obtain rfl : j = l.length := by omega
                have zj : ¬ (l.length : Int) < (l.length : Int) := by omega
                have hsX := HS2.out
                have hNN : N + l.length ≤ 2 * (k + 1) := by omega
                obtain ⟨d0, d1, d2, d3, d4, d5, d6⟩ := HT.out.1.st
                obtain ⟨hX0, hX1, hX2, hX3, hX4, hX5, hX6⟩ := hsX.box.st
                have f0 := hsX.box.free 0
                have f1 := hsX.box.free 1
                have f2 := hsX.box.free 2
                have f3 := hsX.box.free 3
                have f4 := hsX.box.free 4
                have f5 := hsX.box.free 5
                have f6 := hsX.box.free 6
                have HNX := Lib.hid (hsX.step HT.out.2.1 HT.out.2.2)
                clear hsX y0
                go_wp2_with fail
                exact ⟨⟨k + 1, N + l.length, t, A', c', es', by omega, by go_num, by go_num, hNN, HNX.out, HN2⟩, by simp [intOf]; omega⟩
      · obtain rfl : k = rs.length := by omega
        have z1 : ¬ (rs.length : Int) < (rs.length : Int) := by omega
        have hsa := hsn s A c es wr hs.ins HSB.out.2 (sane_size6 HSB.out.1)
        rw [decide_eq_true HSB.out.1] at hsa
        simp only [stV_eq] at hsa
        obtain ⟨c0, c1, c2, c3, c4, c5, c6⟩ := hs.box.st
        have HB := Lib.hid hs.bel
        have z2 : (N : Int) ≤ 2 * (rs.length : Int) := by omega
        clear hs hsv
        go_wp2_with fail
        refine hsa.mono ?_
        rintro e w2 ⟨rfl, hb2⟩
        have hbel := HB.out.trans (hb2.mono HB.out.size)
        clear hsa hb2
        go_wp2_with fail
        go_ret
        exact ⟨rfl, hbel⟩
end Go.Proofs.YtiaippdaogmcmaaDoor
