/- Package row, walked: what is put. -/
import Derived.Test.YtflpelpgnjdnkaaRow8f
namespace Go.Proofs.Ytflpelpgnjdnkaa
open Go Go.RowKit
set_option linter.unusedVariables false
set_option linter.unusedSimpArgs false

theorem whole_okc {x : Cl} (h : ClOk x) : RwOk ⟨wholeL x, false, 0, false⟩ := by
  refine ⟨by simp [I64], fun c hc => ?_⟩
  unfold wholeL at hc
  split at hc
  · simp at hc
    rcases hc with rfl | rfl
    · exact h
    · exact ⟨by simp [halfC, I64], by simp [halfC, I64], by simp [halfC, I64], by simp [halfC, I64], h.2.2.2.2⟩
  · simp at hc; subst hc; exact h
set_option maxRecDepth 100000 in
set_option maxHeartbeats 1000000 in
theorem put8_c : Put8C := by
  intro r A c k x w hin hok hk hx
  obtain ⟨l, y1, y2, y3⟩ := r
  rw [rwV_eq, show clV x = .agg #[.int .i64 x.r, .int .i64 x.m0, .int .i64 x.m1, .int .i64 x.w, .int .i64 x.pen.fg, .int .i64 x.pen.bg, .int .i64 x.pen.fl] from rfl]
  have hlen := hin.len
  unfold maxLen at hlen
  have hcap := hin.cap
  have hR3 := Rw3.new (r := ⟨l, y1, y2, y3⟩) 29 #[.int .i64 x.r, .int .i64 x.m0, .int .i64 x.m1, .int .i64 x.w, .int .i64 x.pen.fg, .int .i64 x.pen.bg, .int .i64 x.pen.fl] hin
  have hsr := fun V (hV : Below w.heap.size w V) => sane8_b ⟨l, y1, y2, y3⟩ A c V (hin.on hV) hok
  have hsw := fun V B d (hB : InC V B d (wholeL x)) => sane8_b ⟨wholeL x, false, 0, false⟩ B d V hB (whole_okc hx)
  have hwh := whole8_c x
  have hlw : (wholeL x).length ≤ 2 := by rw [whole_len]; split <;> omega
  generalize hS : putR ⟨l, y1, y2, y3⟩ k x = S
  have HNOT : Hid (¬ (SaneR ⟨l, y1, y2, y3⟩ ∧ SaneR ⟨wholeL x, false, 0, false⟩ ∧ 0 ≤ k ∧ k ≤ (l.length : Int) - ((wholeL x).length : Int)) → S = ⟨l, y1, y2, y3⟩) := Lib.hid fun h => by rw [← hS]; exact put_not h
  have HYES : Hid (∀ m : Nat, k = m → SaneR ⟨l, y1, y2, y3⟩ → SaneR ⟨wholeL x, false, 0, false⟩ → (m : Int) ≤ (l.length : Int) - ((wholeL x).length : Int) → S = ⟨mendL (l.take m ++ (wholeL x ++ l.drop (m + (wholeL x).length))), y1, y2, y3⟩) := Lib.hid fun m hm h1 h2 h3 => by rw [← hS, hm]; exact put_laid (r := ⟨l, y1, y2, y3⟩) h1 h2 h3
  generalize hWL : wholeL x = WL at *
  have HSW := Lib.hid hsw
  have HSR := Lib.hid hsr
  have HR3 := Lib.hid hR3
  have HWH := Lib.hid hwh
  have HL1 : Hid (SaneR ⟨l, y1, y2, y3⟩ → l.length ≤ 4096) := Lib.hid fun h => h.1.2
  unfold I64 at hk
  obtain ⟨hk0, hk1⟩ := hk
  clear hS hWL hsw hsr hR3 hwh hin hok hx
  simp only at hcap hlen
  go_enter Try.func9, Try.ntmps9
  go_upto_region 1 with fail
  simp only at HR3
  generalize ((w.alloc (.cells #[.slice A l.length c, .bool y1, .int .i64 y2, .bool y3] 24)).alloc (.cells #[.int .i64 x.r, .int .i64 x.m0, .int .i64 x.m1, .int .i64 x.w, .int .i64 x.pen.fg, .int .i64 x.pen.bg, .int .i64 x.pen.fl] 29)).alloc (.cells #[.slice none 0 0, .bool false, .int .i64 0, .bool false] 24) = W at *
  obtain ⟨c0, c1, c2, c3, c4, c5, c6⟩ : W.cell? ⟨w.heap.size + 1, 0, none⟩ = some (.int .i64 x.r) ∧ W.cell? ⟨w.heap.size + 1, 1, none⟩ = some (.int .i64 x.m0) ∧ W.cell? ⟨w.heap.size + 1, 2, none⟩ = some (.int .i64 x.m1) ∧ W.cell? ⟨w.heap.size + 1, 3, none⟩ = some (.int .i64 x.w) ∧ W.cell? ⟨w.heap.size + 1, 4, none⟩ = some (.int .i64 x.pen.fg) ∧ W.cell? ⟨w.heap.size + 1, 5, none⟩ = some (.int .i64 x.pen.bg) ∧ W.cell? ⟨w.heap.size + 1, 6, none⟩ = some (.int .i64 x.pen.fl) := ⟨HR3.out.b2.cell 0, HR3.out.b2.cell 1, HR3.out.b2.cell 2, HR3.out.b2.cell 3, HR3.out.b2.cell 4, HR3.out.b2.cell 5, HR3.out.b2.cell 6⟩
  go_wp2_with fail
  refine (HWH.out _).mono ?_
  rintro e v1 ⟨B, d, rfl, hB, hv1⟩
  have HR4 := Lib.hid (HR3.out.on hv1)
  have HB4 := Lib.hid hB
  clear hv1 hB c0 c1 c2 c3 c4 c5 c6 HR3 HWH
  obtain ⟨k0, k1, k2, k3⟩ := HR4.out.row
  simp only at k0 k1 k2 k3
  have h1 := HSR.out
  have h2 := HSW.out
  clear HSR HSW
  cases hs1 : decide (SaneR ⟨l, y1, y2, y3⟩) with
  | false =>
    simp only [hs1] at h1
    have HF := Lib.hid (of_decide_eq_false hs1)
    clear hs1 h2
    go_wp2_with fail
    refine (h1 _ HR4.out.bel).mono ?_
    rintro e v2 ⟨rfl, hv2⟩
    have HR5 := Lib.hid (HR4.out.on hv2)
    have HB5 := Lib.hid (HB4.out.on hv2)
    clear hv2 h1 k0 k1 k2 k3 HR4 HB4
    obtain ⟨k0, k1, k2, k3⟩ := HR5.out.row
    simp only at k0 k1 k2 k3
    have e : S = ⟨l, y1, y2, y3⟩ := HNOT.out (by rintro ⟨g1, g2, g3, g4⟩; exact HF.out g1)
    have HE := Lib.hid e
    clear e
    obtain ⟨⟨f0, f1, f2, f3⟩, j0, j1, j2, j3⟩ := HR5.out.free
    go_wp2_with fail
    have h4 := HR5.out.fin ⟨l, y1, y2, y3⟩ A c HR5.out.inr
    rw [HE.out]
    exact bodyPost_ret (ret8_rw rfl ⟨l, y1, y2, y3⟩ A c _ _ (w.heap.size + 2) 24 rfl h4.1) rfl ⟨_, _, rfl, h4.2.1, h4.2.2⟩
  | true =>
    simp only [hs1] at h1
    have HT1 := Lib.hid (of_decide_eq_true hs1)
    have hl4 := HL1.out HT1.out
    clear hs1
    go_wp2_with fail
    refine (h1 _ HR4.out.bel).mono ?_
    rintro e v2 ⟨rfl, hv2⟩
    have HR5 := Lib.hid (HR4.out.on hv2)
    have HB5 := Lib.hid (HB4.out.on hv2)
    clear hv2 h1 k0 k1 k2 k3 HR4 HB4
    obtain ⟨k0, k1, k2, k3⟩ := HR5.out.row
    simp only at k0 k1 k2 k3
    cases hs2 : decide (SaneR ⟨WL, false, 0, false⟩) with
    | false =>
      simp only [hs2] at h2
      have HF := Lib.hid (of_decide_eq_false hs2)
      clear hs2
      go_wp2_with fail
      refine (h2 _ B d HB5.out).mono ?_
      rintro e v3 ⟨rfl, hv3⟩
      have HR6 := Lib.hid (HR5.out.on hv3)
      have HB6 := Lib.hid (HB5.out.on hv3)
      clear hv3 h2 k0 k1 k2 k3 HR5 HB5
      obtain ⟨k0, k1, k2, k3⟩ := HR6.out.row
      simp only at k0 k1 k2 k3
      have e : S = ⟨l, y1, y2, y3⟩ := HNOT.out (by rintro ⟨g1, g2, g3, g4⟩; exact HF.out g2)
      have HE := Lib.hid e
      clear e
      obtain ⟨⟨f0, f1, f2, f3⟩, j0, j1, j2, j3⟩ := HR6.out.free
      go_wp2_with fail
      have h4 := HR6.out.fin ⟨l, y1, y2, y3⟩ A c HR6.out.inr
      rw [HE.out]
      exact bodyPost_ret (ret8_rw rfl ⟨l, y1, y2, y3⟩ A c _ _ (w.heap.size + 2) 24 rfl h4.1) rfl ⟨_, _, rfl, h4.2.1, h4.2.2⟩
    | true =>
      simp only [hs2] at h2
      have HT2 := Lib.hid (of_decide_eq_true hs2)
      clear hs2
      rcases (show k < 0 ∨ (0 ≤ k ∧ (l.length : Int) - (WL.length : Int) < k) ∨ (0 ≤ k ∧ k ≤ (l.length : Int) - (WL.length : Int)) by omega) with q | ⟨q, q'⟩ | ⟨q, q'⟩
      · have zd : decide (k < 0) = true := decide_eq_true q
        go_wp2_with fail
        refine (h2 _ B d HB5.out).mono ?_
        rintro e v3 ⟨rfl, hv3⟩
        have HR6 := Lib.hid (HR5.out.on hv3)
        have HB6 := Lib.hid (HB5.out.on hv3)
        clear hv3 h2 k0 k1 k2 k3 HR5 HB5
        obtain ⟨k0, k1, k2, k3⟩ := HR6.out.row
        simp only at k0 k1 k2 k3
        have e : S = ⟨l, y1, y2, y3⟩ := HNOT.out (by rintro ⟨g1, g2, g3, g4⟩; omega)
        have HE := Lib.hid e
        clear e
        obtain ⟨⟨f0, f1, f2, f3⟩, j0, j1, j2, j3⟩ := HR6.out.free
        go_wp2_with fail
        have h4 := HR6.out.fin ⟨l, y1, y2, y3⟩ A c HR6.out.inr
        rw [HE.out]
        exact bodyPost_ret (ret8_rw rfl ⟨l, y1, y2, y3⟩ A c _ _ (w.heap.size + 2) 24 rfl h4.1) rfl ⟨_, _, rfl, h4.2.1, h4.2.2⟩
      · have zd : decide (k < 0) = false := decide_eq_false (by omega)
        go_wp2_with fail
        refine (h2 _ B d HB5.out).mono ?_
        rintro e v3 ⟨rfl, hv3⟩
        have HR6 := Lib.hid (HR5.out.on hv3)
        have HB6 := Lib.hid (HB5.out.on hv3)
        clear hv3 h2 k0 k1 k2 k3 HR5 HB5
        obtain ⟨k0, k1, k2, k3⟩ := HR6.out.row
        simp only at k0 k1 k2 k3
        have e : S = ⟨l, y1, y2, y3⟩ := HNOT.out (by rintro ⟨g1, g2, g3, g4⟩; omega)
        have HE := Lib.hid e
        clear e
        obtain ⟨⟨f0, f1, f2, f3⟩, j0, j1, j2, j3⟩ := HR6.out.free
        go_wp2_with fail
        have h4 := HR6.out.fin ⟨l, y1, y2, y3⟩ A c HR6.out.inr
        rw [HE.out]
        exact bodyPost_ret (ret8_rw rfl ⟨l, y1, y2, y3⟩ A c _ _ (w.heap.size + 2) 24 rfl h4.1) rfl ⟨_, _, rfl, h4.2.1, h4.2.2⟩
      · have zd : decide (k < 0) = false := decide_eq_false (by omega)
        obtain ⟨m, rfl⟩ : ∃ m : Nat, k = (m : Int) := ⟨k.toNat, by omega⟩
        have HE := Lib.hid (HYES.out m rfl HT1.out HT2.out q')
        go_wp2_with fail
        refine (h2 _ B d HB5.out).mono ?_
        rintro e v3 ⟨rfl, hv3⟩
        have HR6 := Lib.hid (HR5.out.on hv3)
        have HB6 := Lib.hid (HB5.out.on hv3)
        clear hv3 h2 k0 k1 k2 k3 HR5 HB5
        obtain ⟨k0, k1, k2, k3⟩ := HR6.out.row
        simp only at k0 k1 k2 k3
        go_upto_region 4 with fail
        have hu := HR6.out.inr.upto (b := m) (by simp only; omega)
        obtain ⟨B2, d2, hf, hi2⟩ := HR6.out.inr.from_ (a := m + WL.length) (by simp only; omega)
        simp only at hu hf hi2
        obtain ⟨hu, hi1⟩ := hu
        rw [Int.natCast_add] at hf
        have hsum : (l.take m).length + (WL.length + (l.drop (m + WL.length)).length) ≤ 8192 := by rw [List.length_take, List.length_drop]; omega
        have hE := HE.out
        generalize l.take m = T1 at *
        generalize l.drop (m + WL.length) = T2 at *
        have hps : ∀ e ∈ [(⟨A, c, T1⟩ : Pt), ⟨B, d, WL⟩, ⟨B2, d2, T2⟩], InC v3 e.A e.c e.l := by
          intro e he
          simp only [List.mem_cons, List.not_mem_nil, or_false] at he
          rcases he with rfl | rfl | rfl
          · exact hi1
          · exact HB6.out
          · exact hi2
        have hin3 := (parts_in v3 22 _ hps).on (Below.refl _ _).drew
        have hcat : catL [(⟨A, c, T1⟩ : Pt), ⟨B, d, WL⟩, ⟨B2, d2, T2⟩] = T1 ++ (WL ++ T2) := by simp [catL]
        have hld := laid8_c ⟨l, y1, y2, y3⟩ A c (some ⟨v3.heap.size, 0, none⟩) _ 3 3 rfl _ hin3 (by simp) (by rw [hcat, List.length_append, List.length_append]; exact hsum) (Nat.le_refl _)
        rw [hcat] at hld
        have HLD := Lib.hid hld
        have HE2 := Lib.hid hE
        obtain ⟨m0, m1, m2, m3⟩ := HR6.out.ext
        simp only at m0 m1 m2 m3
        have hal : Below v3.heap.size v3 (v3.alloc (.cells #[.slice A T1.length c, .slice B WL.length d, .slice B2 T2.length d2] 22)).drew := ((Below.refl _ _).alloc (Nat.le_refl _) _).drew
        have HAL := Lib.hid hal
        have hsz : w.heap.size + 2 ≤ v3.heap.size := Nat.le_of_lt HR6.out.b3.lt
        have HSZ := Lib.hid hsz
        clear k0 k1 k2 k3 hi1 hi2 hsum hE hps hin3 hcat hld HE hal hsz HB6 HYES HNOT
        refine region_plan [([0, 1, 2, 3, 4, 5, 6, 7, 8, 9, 10, 11, 12], [13, 14, 15])] (fun w' => ∃ u : Ext v3 (w.heap.size + 2), w' = u.val) (by kernel_rfl) (by kernel_rfl) (fun _ _ _ _ _ h => h) ⟨⟨_, (Below.refl _ _).drew⟩, rfl⟩ ?_
        simp only [wpPlan, sel, List.take_succ_cons, List.take_zero, List.drop_succ_cons, List.drop_zero, List.cons_append, List.nil_append]
        repeat (go_big_quiet_step (fail))
        refine wpQuiet_nil ?_
        unfold wpChain
        go_wp2_with fail
        refine ⟨⟨⟨_, HAL.out.mono HSZ.out⟩, rfl⟩, ?_⟩
        unfold wpChain
        go_wp2_with fail
        refine HLD.out.mono ?_
        rintro e v4 ⟨B4, d4, rfl, hB4, hv4⟩
        have hv5 : Below v3.heap.size v3 v4 := HAL.out.trans (hv4.mono HAL.out.size)
        have HR7 := Lib.hid (HR6.out.on hv5)
        have HV5 := Lib.hid (hv5.mono HSZ.out)
        have HB7 := Lib.hid hB4
        clear hB4 hv4 hv5 HLD m0 m1 m2 m3 hu hf HAL
        simp only [rwV_eq]
        go_wp2_with fail
        refine ⟨⟨⟨_, HV5.out⟩, rfl⟩, ?_⟩
        unfold wpChain
        obtain ⟨⟨f0, f1, f2, f3⟩, j0, j1, j2, j3⟩ := HR7.out.free
        go_wp2_with fail
        refine ⟨⟨⟨_, below_four HV5.out (Nat.le_refl _) _ _ _ _⟩, rfl⟩, ?_⟩
        unfold wpChain
        go_wp2_with fail
        have h4 := HR7.out.fin ⟨mendL (T1 ++ (WL ++ T2)), y1, y2, y3⟩ B4 d4 HB7.out
        rw [HE2.out]
        exact bodyPost_ret (ret8_rw rfl ⟨mendL (T1 ++ (WL ++ T2)), y1, y2, y3⟩ B4 d4 _ _ (w.heap.size + 2) 24 rfl h4.1) rfl ⟨_, _, rfl, h4.2.1, h4.2.2⟩
end Go.Proofs.Ytflpelpgnjdnkaa
