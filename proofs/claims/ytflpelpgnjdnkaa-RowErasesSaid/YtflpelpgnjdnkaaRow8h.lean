/- Package row, walked: what is erased. -/
import Derived.Test.YtflpelpgnjdnkaaRow8g
import Derived.Test.YtflpelpgnjdnkaaMem08e
namespace Go.Proofs.Ytflpelpgnjdnkaa
open Go Go.RowKit
set_option linter.unusedVariables false
set_option linter.unusedSimpArgs false

set_option maxRecDepth 100000 in
set_option maxHeartbeats 1000000 in
theorem erase8_c : Erase8C := by
  intro r A c a b p w hin hok ha hb hp
  obtain ⟨l, y1, y2, y3⟩ := r
  rw [rwV_eq, show pnV p = .agg #[.int .i64 p.fg, .int .i64 p.bg, .int .i64 p.fl] from rfl]
  have hlen := hin.len
  unfold maxLen at hlen
  have hcap := hin.cap
  have hR3 := Rw3.new (r := ⟨l, y1, y2, y3⟩) 27 #[.int .i64 p.fg, .int .i64 p.bg, .int .i64 p.fl] hin
  have hsr := fun V (hV : Below w.heap.size w V) => sane8_b ⟨l, y1, y2, y3⟩ A c V (hin.on hV) hok
  have hpr := fun V => sane7_c p V hp
  have HSR := Lib.hid hsr
  have HPR := Lib.hid hpr
  have HR3 := Lib.hid hR3
  have HL1 : Hid (SaneR ⟨l, y1, y2, y3⟩ → l.length ≤ 4096) := Lib.hid fun h => h.1.2
  have hwa := fun V => within8_c ⟨l, y1, y2, y3⟩ A c a V ha (by unfold maxLen; exact hlen)
  have hwb := fun V => within8_c ⟨l, y1, y2, y3⟩ A c b V hb (by unfold maxLen; exact hlen)
  simp only at hwa hwb hlen hcap
  generalize hS : eraseR ⟨l, y1, y2, y3⟩ a b p = S
  have HNOT : Hid (¬ (SaneR ⟨l, y1, y2, y3⟩ ∧ SaneN p ∧ fitN l.length a < fitN l.length b) → S = ⟨l, y1, y2, y3⟩) := Lib.hid fun h => by rw [← hS]; exact erase_not h
  have HYES : Hid (SaneR ⟨l, y1, y2, y3⟩ → SaneN p → fitN l.length a < fitN l.length b → S = ⟨mendL (l.take (fitN l.length a) ++ (List.replicate (fitN l.length b - fitN l.length a) (blankC p) ++ l.drop (fitN l.length b))), y1, y2, y3⟩) := Lib.hid fun h1 h2 h3 => by rw [← hS]; exact erase_laid (r := ⟨l, y1, y2, y3⟩) h1 h2 h3
  have hfa := fit_le l.length a
  have hfb := fit_le l.length b
  generalize fitN l.length a = F at *
  generalize fitN l.length b = T at *
  have HWA := Lib.hid hwa
  have HWB := Lib.hid hwb
  clear hS hwa hwb hsr hpr hR3 hin hok hp ha hb
  go_enter Try.func17, Try.ntmps17
  go_upto_region 1 with fail
  simp only at HR3
  generalize ((w.alloc (.cells #[.slice A l.length c, .bool y1, .int .i64 y2, .bool y3] 24)).alloc (.cells #[.int .i64 p.fg, .int .i64 p.bg, .int .i64 p.fl] 27)).alloc (.cells #[.slice none 0 0, .bool false, .int .i64 0, .bool false] 24) = W at *
  obtain ⟨m0, m1, m2, m3⟩ := HR3.out.ext
  simp only at m0 m1 m2 m3
  have hsz : w.heap.size + 2 ≤ W.heap.size := Nat.le_of_lt HR3.out.b3.lt
  have HSZ0 := Lib.hid hsz
  clear hsz
  refine region_plan [([0, 1, 3, 4], [2, 5]), ([6, 7], [])] (fun w' => ∃ u : Ext W (w.heap.size + 2), w' = u.val) (by kernel_rfl) (by kernel_rfl) (fun _ _ _ _ _ h => h) ⟨⟨_, (Below.refl _ _).drew⟩, rfl⟩ ?_
  simp only [wpPlan, sel, List.take_succ_cons, List.take_zero, List.drop_succ_cons, List.drop_zero, List.cons_append, List.nil_append]
  repeat (go_big_quiet_step (fail))
  refine wpQuiet_nil ?_
  unfold wpChain
  go_wp2_with fail
  refine (HWA.out _).mono ?_
  rintro e v1 ⟨rfl, hv1⟩
  have hv2 : Below W.heap.size W v1 := (Below.refl W.heap.size W).drew.trans hv1
  have HV2 := Lib.hid hv2
  clear hv1 hv2 HWA
  go_wp2_with fail
  refine ⟨⟨⟨_, HV2.out.mono HSZ0.out⟩, rfl⟩, ?_⟩
  unfold wpChain
  go_wp2_with fail
  refine (HWB.out _).mono ?_
  rintro e v2 ⟨rfl, hv1⟩
  have hv2 : Below W.heap.size W v2 := HV2.out.trans (hv1.mono HV2.out.size)
  have HV3 := Lib.hid hv2
  clear hv1 hv2 HWB HV2
  go_wp2_with fail
  refine ⟨⟨⟨_, HV3.out.mono HSZ0.out⟩, rfl⟩, ?_⟩
  unfold wpChain
  repeat (go_big_quiet_step (fail))
  refine wpQuiet_nil ?_
  unfold wpChain
  have HR4 := Lib.hid (HR3.out.on HV3.out)
  clear m0 m1 m2 m3 HV3 HR3 HSZ0
  obtain ⟨k0, k1, k2, k3⟩ := HR4.out.row
  simp only at k0 k1 k2 k3
  obtain ⟨p0, p1, p2⟩ : v2.cell? ⟨w.heap.size + 1, 0, none⟩ = some (.int .i64 p.fg) ∧ v2.cell? ⟨w.heap.size + 1, 1, none⟩ = some (.int .i64 p.bg) ∧ v2.cell? ⟨w.heap.size + 1, 2, none⟩ = some (.int .i64 p.fl) := ⟨HR4.out.b2.cell 0, HR4.out.b2.cell 1, HR4.out.b2.cell 2⟩
  cases hs1 : decide (SaneR ⟨l, y1, y2, y3⟩) with
  | false =>
    have h1 : Hid (∀ V, Below w.heap.size w V → _) := Lib.hid fun V hV => HSR.out V hV
    simp only [hs1] at h1
    have HF := Lib.hid (of_decide_eq_false hs1)
    clear hs1 HSR
    go_wp2_with fail
    refine (h1.out _ HR4.out.bel).mono ?_
    rintro e v3 ⟨rfl, hv⟩
    have HR5 := Lib.hid (HR4.out.on hv)
    clear hv h1 k0 k1 k2 k3 p0 p1 p2 HR4
    obtain ⟨k0, k1, k2, k3⟩ := HR5.out.row
    simp only at k0 k1 k2 k3
    obtain ⟨p0, p1, p2⟩ : v3.cell? ⟨w.heap.size + 1, 0, none⟩ = some (.int .i64 p.fg) ∧ v3.cell? ⟨w.heap.size + 1, 1, none⟩ = some (.int .i64 p.bg) ∧ v3.cell? ⟨w.heap.size + 1, 2, none⟩ = some (.int .i64 p.fl) := ⟨HR5.out.b2.cell 0, HR5.out.b2.cell 1, HR5.out.b2.cell 2⟩
    have e : S = ⟨l, y1, y2, y3⟩ := HNOT.out (fun g => HF.out g.1)
    have HE := Lib.hid e
    clear e
    obtain ⟨⟨f0, f1, f2, f3⟩, j0, j1, j2, j3⟩ := HR5.out.free
    go_wp2_with fail
    have h4 := HR5.out.fin ⟨l, y1, y2, y3⟩ A c HR5.out.inr
    rw [HE.out]
    exact bodyPost_ret (ret8_rw rfl ⟨l, y1, y2, y3⟩ A c _ _ (w.heap.size + 2) 24 rfl h4.1) rfl ⟨_, _, rfl, h4.2.1, h4.2.2⟩
  | true =>
    have h1 : Hid (∀ V, Below w.heap.size w V → _) := Lib.hid fun V hV => HSR.out V hV
    simp only [hs1] at h1
    have HT1 := Lib.hid (of_decide_eq_true hs1)
    have hl4 := HL1.out HT1.out
    clear hs1 HSR
    cases hs2 : decide (SaneN p) with
    | false =>
      have h2 : Hid (∀ V, _) := Lib.hid fun V => HPR.out V
      simp only [hs2, show pnV p = .agg #[.int .i64 p.fg, .int .i64 p.bg, .int .i64 p.fl] from rfl] at h2
      have HF := Lib.hid (of_decide_eq_false hs2)
      clear hs2 HPR
      go_wp2_with fail
      refine (h1.out _ HR4.out.bel).mono ?_
      rintro e v3 ⟨rfl, hv⟩
      have HR5 := Lib.hid (HR4.out.on hv)
      clear hv h1 k0 k1 k2 k3 p0 p1 p2 HR4
      obtain ⟨k0, k1, k2, k3⟩ := HR5.out.row
      simp only at k0 k1 k2 k3
      obtain ⟨p0, p1, p2⟩ : v3.cell? ⟨w.heap.size + 1, 0, none⟩ = some (.int .i64 p.fg) ∧ v3.cell? ⟨w.heap.size + 1, 1, none⟩ = some (.int .i64 p.bg) ∧ v3.cell? ⟨w.heap.size + 1, 2, none⟩ = some (.int .i64 p.fl) := ⟨HR5.out.b2.cell 0, HR5.out.b2.cell 1, HR5.out.b2.cell 2⟩
      go_wp2_with fail
      refine (h2.out _).mono ?_
      rintro e v4 ⟨rfl, hv⟩
      have HR6 := Lib.hid (HR5.out.on hv)
      clear hv h2 k0 k1 k2 k3 p0 p1 p2 HR5
      obtain ⟨k0, k1, k2, k3⟩ := HR6.out.row
      simp only at k0 k1 k2 k3
      obtain ⟨p0, p1, p2⟩ : v4.cell? ⟨w.heap.size + 1, 0, none⟩ = some (.int .i64 p.fg) ∧ v4.cell? ⟨w.heap.size + 1, 1, none⟩ = some (.int .i64 p.bg) ∧ v4.cell? ⟨w.heap.size + 1, 2, none⟩ = some (.int .i64 p.fl) := ⟨HR6.out.b2.cell 0, HR6.out.b2.cell 1, HR6.out.b2.cell 2⟩
      have e : S = ⟨l, y1, y2, y3⟩ := HNOT.out (fun g => HF.out g.2.1)
      have HE := Lib.hid e
      clear e
      obtain ⟨⟨f0, f1, f2, f3⟩, j0, j1, j2, j3⟩ := HR6.out.free
      go_wp2_with fail
      have h4 := HR6.out.fin ⟨l, y1, y2, y3⟩ A c HR6.out.inr
      rw [HE.out]
      exact bodyPost_ret (ret8_rw rfl ⟨l, y1, y2, y3⟩ A c _ _ (w.heap.size + 2) 24 rfl h4.1) rfl ⟨_, _, rfl, h4.2.1, h4.2.2⟩
    | true =>
      have h2 : Hid (∀ V, _) := Lib.hid fun V => HPR.out V
      simp only [hs2, show pnV p = .agg #[.int .i64 p.fg, .int .i64 p.bg, .int .i64 p.fl] from rfl] at h2
      have HT2 := Lib.hid (of_decide_eq_true hs2)
      clear hs2 HPR
      by_cases hft : F < T
      · have zf : ¬ (F : Int) ≥ (T : Int) := by omega
        have zd : decide ((T : Int) ≤ (F : Int)) = false := decide_eq_false (by omega)
        have HE := Lib.hid (HYES.out HT1.out HT2.out hft)
        clear HYES
        go_wp2_with fail
        refine (h1.out _ HR4.out.bel).mono ?_
        rintro e v3 ⟨rfl, hv⟩
        have HR5 := Lib.hid (HR4.out.on hv)
        clear hv h1 k0 k1 k2 k3 p0 p1 p2 HR4
        obtain ⟨k0, k1, k2, k3⟩ := HR5.out.row
        simp only at k0 k1 k2 k3
        obtain ⟨p0, p1, p2⟩ : v3.cell? ⟨w.heap.size + 1, 0, none⟩ = some (.int .i64 p.fg) ∧ v3.cell? ⟨w.heap.size + 1, 1, none⟩ = some (.int .i64 p.bg) ∧ v3.cell? ⟨w.heap.size + 1, 2, none⟩ = some (.int .i64 p.fl) := ⟨HR5.out.b2.cell 0, HR5.out.b2.cell 1, HR5.out.b2.cell 2⟩
        go_wp2_with fail
        refine (h2.out _).mono ?_
        rintro e v5 ⟨rfl, hv⟩
        have HR6 := Lib.hid (HR5.out.on hv)
        clear hv h2 k0 k1 k2 k3 p0 p1 p2 HR5
        obtain ⟨k0, k1, k2, k3⟩ := HR6.out.row
        simp only at k0 k1 k2 k3
        obtain ⟨p0, p1, p2⟩ : v5.cell? ⟨w.heap.size + 1, 0, none⟩ = some (.int .i64 p.fg) ∧ v5.cell? ⟨w.heap.size + 1, 1, none⟩ = some (.int .i64 p.bg) ∧ v5.cell? ⟨w.heap.size + 1, 2, none⟩ = some (.int .i64 p.fl) := ⟨HR6.out.b2.cell 0, HR6.out.b2.cell 1, HR6.out.b2.cell 2⟩
        go_upto_region 4 with fail
        clear zd zf
        have hu := HR6.out.inr.upto (b := F) (by simp only; omega)
        obtain ⟨B2, d2, hf, hi2⟩ := HR6.out.inr.from_ (a := T) (by simp only; omega)
        simp only at hu hf hi2
        obtain ⟨hu, hi1⟩ := hu
        have hbk := fun V => blanks8_c (T - F) (by omega) p V
        rw [show ((T - F : Nat) : Int) = (T : Int) - (F : Int) by omega] at hbk
        have HBK := Lib.hid hbk
        have hsum : (l.take F).length + ((T - F) + (l.drop T).length) ≤ 8192 := by rw [List.length_take, List.length_drop]; omega
        have HSUM := Lib.hid hsum
        have HI1 := Lib.hid hi1
        have HI2 := Lib.hid hi2
        generalize l.take F = T1 at *
        generalize l.drop T = T2 at *
        clear hbk hsum hi1 hi2
        have hE := HE.out
        obtain ⟨m0, m1, m2, m3⟩ := HR6.out.ext
        simp only at m0 m1 m2 m3
        have n0 := Ext.cell (w := v5) (B := w.heap.size + 2) (p := ⟨w.heap.size + 1, 0, none⟩) (by simp) p0
        have n1 := Ext.cell (w := v5) (B := w.heap.size + 2) (p := ⟨w.heap.size + 1, 1, none⟩) (by simp) p1
        have n2 := Ext.cell (w := v5) (B := w.heap.size + 2) (p := ⟨w.heap.size + 1, 2, none⟩) (by simp) p2
        have hsz : w.heap.size + 2 ≤ v5.heap.size := Nat.le_of_lt HR6.out.b3.lt
        have HSZ := Lib.hid hsz
        have HE2 := Lib.hid hE
        clear k0 k1 k2 k3 p0 p1 p2 hE HE hsz HNOT
        refine region_plan [([0, 1, 2, 3, 4, 5, 6, 7, 8, 10, 11, 12, 13], [9, 14, 15, 16])] (fun w' => ∃ u : Ext v5 (w.heap.size + 2), w' = u.val) (by kernel_rfl) (by kernel_rfl) (fun _ _ _ _ _ h => h) ⟨⟨_, (Below.refl _ _).drew⟩, rfl⟩ ?_
        simp only [wpPlan, sel, List.take_succ_cons, List.take_zero, List.drop_succ_cons, List.drop_zero, List.cons_append, List.nil_append]
        repeat (go_big_quiet_step (fail))
        refine wpQuiet_nil ?_
        unfold wpChain
        go_wp2_with fail
        refine (HBK.out _).mono ?_
        rintro e v8 ⟨BB, db, rfl, hBB, hv8⟩
        have hv9 : Below v5.heap.size v5 v8 := (Below.refl v5.heap.size v5).drew.trans hv8
        have HR8 := Lib.hid (HR6.out.on hv9)
        have hps : ∀ e ∈ [(⟨A, c, T1⟩ : Pt), ⟨BB, db, (List.replicate (T - F) (blankC p))⟩, ⟨B2, d2, T2⟩], InC v8 e.A e.c e.l := by
          intro e he
          simp only [List.mem_cons, List.not_mem_nil, or_false] at he
          rcases he with rfl | rfl | rfl
          · exact HI1.out.on hv9
          · exact hBB
          · exact HI2.out.on hv9
        generalize hBL : List.replicate (T - F) (blankC p) = BL at *
        have hbl : BL.length = (T - F) := by rw [← hBL]; exact List.length_replicate
        have hin3 := parts_in v8 22 _ hps
        have hcat : catL [(⟨A, c, T1⟩ : Pt), ⟨BB, db, BL⟩, ⟨B2, d2, T2⟩] = T1 ++ (BL ++ T2) := by simp [catL]
        have hld := laid8_c ⟨l, y1, y2, y3⟩ A c (some ⟨v8.heap.size, 0, none⟩) _ 3 3 rfl _ hin3 (by simp) (by rw [hcat]; simp only [List.length_append, hbl]; exact HSUM.out) (Nat.le_refl _)
        rw [hcat] at hld
        have HLD := Lib.hid hld
        have hal : Below v8.heap.size v8 (v8.alloc (.cells #[.slice A T1.length c, .slice BB BL.length db, .slice B2 T2.length d2] 22)) := (Below.refl _ _).alloc (Nat.le_refl _) _
        have HAL := Lib.hid hal
        have HV9 := Lib.hid hv9
        rw [← hbl]
        clear hv8 hBB hps hbl hin3 hcat hld hal HBK hv9 hBL
        go_wp2_with fail
        refine ⟨⟨⟨_, HV9.out.mono HSZ.out⟩, rfl⟩, ?_⟩
        unfold wpChain
        go_wp2_with fail
        refine ⟨⟨⟨_, (HV9.out.trans (HAL.out.mono HV9.out.size)).mono HSZ.out⟩, rfl⟩, ?_⟩
        unfold wpChain
        go_wp2_with fail
        refine HLD.out.mono ?_
        rintro e v4 ⟨B4, d4, rfl, hB4, hv4⟩
        have hv5 : Below v8.heap.size v8 v4 := HAL.out.trans (hv4.mono HAL.out.size)
        have HR7 := Lib.hid (HR8.out.on hv5)
        have HV5 := Lib.hid ((HV9.out.trans (hv5.mono HV9.out.size)).mono HSZ.out)
        have HB7 := Lib.hid hB4
        clear hB4 hv4 hv5 HLD m0 m1 m2 m3 n0 n1 n2 HAL HR8
        simp only [rwV_eq]
        go_wp2_with fail
        refine ⟨⟨⟨_, HV5.out⟩, rfl⟩, ?_⟩
        unfold wpChain
        obtain ⟨⟨f0, f1, f2, f3⟩, j0, j1, j2, j3⟩ := HR7.out.free
        go_wp2_with fail
        refine ⟨⟨⟨_, below_four HV5.out (Nat.le_refl _) _ _ _ _⟩, rfl⟩, ?_⟩
        unfold wpChain
        go_wp2_with fail
        have h4 := HR7.out.fin ⟨mendL (T1 ++ (BL ++ T2)), y1, y2, y3⟩ B4 d4 HB7.out
        rw [HE2.out]
        exact bodyPost_ret (ret8_rw rfl ⟨mendL (T1 ++ (BL ++ T2)), y1, y2, y3⟩ B4 d4 _ _ (w.heap.size + 2) 24 rfl h4.1) rfl ⟨_, _, rfl, h4.2.1, h4.2.2⟩
      · have zf : (F : Int) ≥ (T : Int) := by omega
        have zd : decide ((T : Int) ≤ (F : Int)) = true := decide_eq_true (by omega)
        go_wp2_with fail
        refine (h1.out _ HR4.out.bel).mono ?_
        rintro e v3 ⟨rfl, hv⟩
        have HR5 := Lib.hid (HR4.out.on hv)
        clear hv h1 k0 k1 k2 k3 p0 p1 p2 HR4
        obtain ⟨k0, k1, k2, k3⟩ := HR5.out.row
        simp only at k0 k1 k2 k3
        obtain ⟨p0, p1, p2⟩ : v3.cell? ⟨w.heap.size + 1, 0, none⟩ = some (.int .i64 p.fg) ∧ v3.cell? ⟨w.heap.size + 1, 1, none⟩ = some (.int .i64 p.bg) ∧ v3.cell? ⟨w.heap.size + 1, 2, none⟩ = some (.int .i64 p.fl) := ⟨HR5.out.b2.cell 0, HR5.out.b2.cell 1, HR5.out.b2.cell 2⟩
        go_wp2_with fail
        refine (h2.out _).mono ?_
        rintro e v5 ⟨rfl, hv⟩
        have HR6 := Lib.hid (HR5.out.on hv)
        clear hv h2 k0 k1 k2 k3 p0 p1 p2 HR5
        obtain ⟨k0, k1, k2, k3⟩ := HR6.out.row
        simp only at k0 k1 k2 k3
        obtain ⟨p0, p1, p2⟩ : v5.cell? ⟨w.heap.size + 1, 0, none⟩ = some (.int .i64 p.fg) ∧ v5.cell? ⟨w.heap.size + 1, 1, none⟩ = some (.int .i64 p.bg) ∧ v5.cell? ⟨w.heap.size + 1, 2, none⟩ = some (.int .i64 p.fl) := ⟨HR6.out.b2.cell 0, HR6.out.b2.cell 1, HR6.out.b2.cell 2⟩
        have e : S = ⟨l, y1, y2, y3⟩ := HNOT.out (fun g => hft g.2.2)
        have HE := Lib.hid e
        clear e
        obtain ⟨⟨f0, f1, f2, f3⟩, j0, j1, j2, j3⟩ := HR6.out.free
        go_wp2_with fail
        have h4 := HR6.out.fin ⟨l, y1, y2, y3⟩ A c HR6.out.inr
        rw [HE.out]
        exact bodyPost_ret (ret8_rw rfl ⟨l, y1, y2, y3⟩ A c _ _ (w.heap.size + 2) 24 rfl h4.1) rfl ⟨_, _, rfl, h4.2.1, h4.2.2⟩
end Go.Proofs.Ytflpelpgnjdnkaa
