/- Package row, walked: what is inserted, what is deleted. -/
import Derived.Test.YtflpelpgnjdnkaaRow8g
import Derived.Test.YtflpelpgnjdnkaaMem08m
namespace Go.Proofs.Ytflpelpgnjdnkaa
open Go Go.RowKit
set_option linter.unusedVariables false
set_option linter.unusedSimpArgs false

set_option maxRecDepth 100000 in
set_option maxHeartbeats 1000000 in
theorem insert8_c : Insert8C := by
  intro r A c k n t p w hin hok hk hn ht hp
  obtain ⟨l, y1, y2, y3⟩ := r
  rw [rwV_eq, show pnV p = .agg #[.int .i64 p.fg, .int .i64 p.bg, .int .i64 p.fl] from rfl]
  have hlen := hin.len
  unfold maxLen at hlen
  have hcap := hin.cap
  have hR3 := Rw3.new (r := ⟨l, y1, y2, y3⟩) 27 #[.int .i64 p.fg, .int .i64 p.bg, .int .i64 p.fl] hin
  have hsr := fun V (hV : Below w.heap.size w V) => sane8_b ⟨l, y1, y2, y3⟩ A c V (hin.on hV) hok
  have hpr := fun V => sane7_c p V hp
  have HSR := Lib.hid hsr
  have HPR := Lib.hid hpr
  have HR3 := Lib.hid hR3
  have HL1 : Hid (SaneR ⟨l, y1, y2, y3⟩ → l.length ≤ 4096) := Lib.hid fun h => h.1.2
  have hpt := fun V => part8_c ⟨l, y1, y2, y3⟩ A c k t V
  simp only at hpt hlen hcap
  generalize hS : insR ⟨l, y1, y2, y3⟩ k n t p = S
  have HNOT : Hid (¬ (SaneR ⟨l, y1, y2, y3⟩ ∧ SaneN p ∧ PartC l.length k t) → S = ⟨l, y1, y2, y3⟩) := Lib.hid fun h => by rw [← hS]; exact ins_not (fun m => h ⟨m.1, m.2.1, m.2.2⟩)
  have HYES : Hid (∀ K N T : Nat, k = K → t = T → (N : Int) = max 0 (min n (t - k)) → SaneR ⟨l, y1, y2, y3⟩ → SaneN p → PartC l.length k t → S = ⟨mendL (insL l K N T p), y1, y2, y3⟩) := Lib.hid fun K N T e1 e2 e3 h1 h2 h3 => by
    have e4 : moveN k n t = N := by unfold moveN; omega
    rw [← hS, ins_laid (r := ⟨l, y1, y2, y3⟩) ⟨h1, h2, h3⟩, e4, e1, e2, Int.toNat_natCast, Int.toNat_natCast]
  have HPT := Lib.hid hpt
  unfold I64 at hk hn ht
  obtain ⟨hk0, hk1⟩ := hk
  obtain ⟨hn0, hn1⟩ := hn
  obtain ⟨ht0, ht1⟩ := ht
  clear hS hpt hsr hpr hR3 hin hok hp
  go_enter Try.func12, Try.ntmps12
  go_upto_region 1 with fail
  simp only at HR3
  generalize ((w.alloc (.cells #[.slice A l.length c, .bool y1, .int .i64 y2, .bool y3] 24)).alloc (.cells #[.int .i64 p.fg, .int .i64 p.bg, .int .i64 p.fl] 27)).alloc (.cells #[.slice none 0 0, .bool false, .int .i64 0, .bool false] 24) = W at *
  obtain ⟨k0, k1, k2, k3⟩ := HR3.out.row
  simp only at k0 k1 k2 k3
  obtain ⟨p0, p1, p2⟩ : W.cell? ⟨w.heap.size + 1, 0, none⟩ = some (.int .i64 p.fg) ∧ W.cell? ⟨w.heap.size + 1, 1, none⟩ = some (.int .i64 p.bg) ∧ W.cell? ⟨w.heap.size + 1, 2, none⟩ = some (.int .i64 p.fl) := ⟨HR3.out.b2.cell 0, HR3.out.b2.cell 1, HR3.out.b2.cell 2⟩
  have HR4 := HR3
  clear HR3
  cases hs1 : decide (SaneR ⟨l, y1, y2, y3⟩) with
  | false =>
    have h1 : Hid (∀ V, Below w.heap.size w V → _) := Lib.hid fun V hV => HSR.out V hV
    simp only [hs1] at h1
    have HF := Lib.hid (of_decide_eq_false hs1)
    clear hs1 HSR
    go_wp2_with fail
    refine (h1.out _ HR4.out.bel).mono ?_
    rintro e v3 ⟨rfl, hv⟩
    have HR5 := Lib.hid (HR4.out.on hv)
    clear hv h1 k0 k1 k2 k3 p0 p1 p2 HR4
    obtain ⟨k0, k1, k2, k3⟩ := HR5.out.row
    simp only at k0 k1 k2 k3
    obtain ⟨p0, p1, p2⟩ : v3.cell? ⟨w.heap.size + 1, 0, none⟩ = some (.int .i64 p.fg) ∧ v3.cell? ⟨w.heap.size + 1, 1, none⟩ = some (.int .i64 p.bg) ∧ v3.cell? ⟨w.heap.size + 1, 2, none⟩ = some (.int .i64 p.fl) := ⟨HR5.out.b2.cell 0, HR5.out.b2.cell 1, HR5.out.b2.cell 2⟩
    have e : S = ⟨l, y1, y2, y3⟩ := HNOT.out (fun g => HF.out g.1)
    have HE := Lib.hid e
    clear e
    obtain ⟨⟨f0, f1, f2, f3⟩, j0, j1, j2, j3⟩ := HR5.out.free
    go_wp2_with fail
    have h4 := HR5.out.fin ⟨l, y1, y2, y3⟩ A c HR5.out.inr
    rw [HE.out]
    exact bodyPost_ret (ret8_rw rfl ⟨l, y1, y2, y3⟩ A c _ _ (w.heap.size + 2) 24 rfl h4.1) rfl ⟨_, _, rfl, h4.2.1, h4.2.2⟩
  | true =>
    have h1 : Hid (∀ V, Below w.heap.size w V → _) := Lib.hid fun V hV => HSR.out V hV
    simp only [hs1] at h1
    have HT1 := Lib.hid (of_decide_eq_true hs1)
    have hl4 := HL1.out HT1.out
    clear hs1 HSR
    cases hs2 : decide (SaneN p) with
    | false =>
      have h2 : Hid (∀ V, _) := Lib.hid fun V => HPR.out V
      simp only [hs2, show pnV p = .agg #[.int .i64 p.fg, .int .i64 p.bg, .int .i64 p.fl] from rfl] at h2
      have HF := Lib.hid (of_decide_eq_false hs2)
      clear hs2 HPR
      go_wp2_with fail
      refine (h1.out _ HR4.out.bel).mono ?_
      rintro e v3 ⟨rfl, hv⟩
      have HR5 := Lib.hid (HR4.out.on hv)
      clear hv h1 k0 k1 k2 k3 p0 p1 p2 HR4
      obtain ⟨k0, k1, k2, k3⟩ := HR5.out.row
      simp only at k0 k1 k2 k3
      obtain ⟨p0, p1, p2⟩ : v3.cell? ⟨w.heap.size + 1, 0, none⟩ = some (.int .i64 p.fg) ∧ v3.cell? ⟨w.heap.size + 1, 1, none⟩ = some (.int .i64 p.bg) ∧ v3.cell? ⟨w.heap.size + 1, 2, none⟩ = some (.int .i64 p.fl) := ⟨HR5.out.b2.cell 0, HR5.out.b2.cell 1, HR5.out.b2.cell 2⟩
      go_wp2_with fail
      refine (h2.out _).mono ?_
      rintro e v4 ⟨rfl, hv⟩
      have HR6 := Lib.hid (HR5.out.on hv)
      clear hv h2 k0 k1 k2 k3 p0 p1 p2 HR5
      obtain ⟨k0, k1, k2, k3⟩ := HR6.out.row
      simp only at k0 k1 k2 k3
      obtain ⟨p0, p1, p2⟩ : v4.cell? ⟨w.heap.size + 1, 0, none⟩ = some (.int .i64 p.fg) ∧ v4.cell? ⟨w.heap.size + 1, 1, none⟩ = some (.int .i64 p.bg) ∧ v4.cell? ⟨w.heap.size + 1, 2, none⟩ = some (.int .i64 p.fl) := ⟨HR6.out.b2.cell 0, HR6.out.b2.cell 1, HR6.out.b2.cell 2⟩
      have e : S = ⟨l, y1, y2, y3⟩ := HNOT.out (fun g => HF.out g.2.1)
      have HE := Lib.hid e
      clear e
      obtain ⟨⟨f0, f1, f2, f3⟩, j0, j1, j2, j3⟩ := HR6.out.free
      go_wp2_with fail
      have h4 := HR6.out.fin ⟨l, y1, y2, y3⟩ A c HR6.out.inr
      rw [HE.out]
      exact bodyPost_ret (ret8_rw rfl ⟨l, y1, y2, y3⟩ A c _ _ (w.heap.size + 2) 24 rfl h4.1) rfl ⟨_, _, rfl, h4.2.1, h4.2.2⟩
    | true =>
      have h2 : Hid (∀ V, _) := Lib.hid fun V => HPR.out V
      simp only [hs2, show pnV p = .agg #[.int .i64 p.fg, .int .i64 p.bg, .int .i64 p.fl] from rfl] at h2
      have HT2 := Lib.hid (of_decide_eq_true hs2)
      clear hs2 HPR
      cases hs3 : decide (PartC l.length k t) with
      | false =>
        have h3 : Hid (∀ V, _) := Lib.hid fun V => HPT.out V
        simp only [hs3] at h3
        have HF := Lib.hid (of_decide_eq_false hs3)
        clear hs3 HPT
        go_wp2_with fail
        refine (h1.out _ HR4.out.bel).mono ?_
        rintro e v3 ⟨rfl, hv⟩
        have HR5 := Lib.hid (HR4.out.on hv)
        clear hv h1 k0 k1 k2 k3 p0 p1 p2 HR4
        obtain ⟨k0, k1, k2, k3⟩ := HR5.out.row
        simp only at k0 k1 k2 k3
        obtain ⟨p0, p1, p2⟩ : v3.cell? ⟨w.heap.size + 1, 0, none⟩ = some (.int .i64 p.fg) ∧ v3.cell? ⟨w.heap.size + 1, 1, none⟩ = some (.int .i64 p.bg) ∧ v3.cell? ⟨w.heap.size + 1, 2, none⟩ = some (.int .i64 p.fl) := ⟨HR5.out.b2.cell 0, HR5.out.b2.cell 1, HR5.out.b2.cell 2⟩
        go_wp2_with fail
        refine (h2.out _).mono ?_
        rintro e v4 ⟨rfl, hv⟩
        have HR6 := Lib.hid (HR5.out.on hv)
        clear hv h2 k0 k1 k2 k3 p0 p1 p2 HR5
        obtain ⟨k0, k1, k2, k3⟩ := HR6.out.row
        simp only at k0 k1 k2 k3
        obtain ⟨p0, p1, p2⟩ : v4.cell? ⟨w.heap.size + 1, 0, none⟩ = some (.int .i64 p.fg) ∧ v4.cell? ⟨w.heap.size + 1, 1, none⟩ = some (.int .i64 p.bg) ∧ v4.cell? ⟨w.heap.size + 1, 2, none⟩ = some (.int .i64 p.fl) := ⟨HR6.out.b2.cell 0, HR6.out.b2.cell 1, HR6.out.b2.cell 2⟩
        go_wp2_with fail
        refine (h3.out _).mono ?_
        rintro e v5 ⟨rfl, hv⟩
        have HR7 := Lib.hid (HR6.out.on hv)
        clear hv h3 k0 k1 k2 k3 p0 p1 p2 HR6
        obtain ⟨k0, k1, k2, k3⟩ := HR7.out.row
        simp only at k0 k1 k2 k3
        obtain ⟨p0, p1, p2⟩ : v5.cell? ⟨w.heap.size + 1, 0, none⟩ = some (.int .i64 p.fg) ∧ v5.cell? ⟨w.heap.size + 1, 1, none⟩ = some (.int .i64 p.bg) ∧ v5.cell? ⟨w.heap.size + 1, 2, none⟩ = some (.int .i64 p.fl) := ⟨HR7.out.b2.cell 0, HR7.out.b2.cell 1, HR7.out.b2.cell 2⟩
        have e : S = ⟨l, y1, y2, y3⟩ := HNOT.out (fun g => HF.out g.2.2)
        have HE := Lib.hid e
        clear e
        obtain ⟨⟨f0, f1, f2, f3⟩, j0, j1, j2, j3⟩ := HR7.out.free
        go_wp2_with fail
        have h4 := HR7.out.fin ⟨l, y1, y2, y3⟩ A c HR7.out.inr
        rw [HE.out]
        exact bodyPost_ret (ret8_rw rfl ⟨l, y1, y2, y3⟩ A c _ _ (w.heap.size + 2) 24 rfl h4.1) rfl ⟨_, _, rfl, h4.2.1, h4.2.2⟩
      | true =>
        have h3 : Hid (∀ V, _) := Lib.hid fun V => HPT.out V
        simp only [hs3] at h3
        have hpc := of_decide_eq_true hs3
        have HPC := Lib.hid hpc
        unfold PartC at hpc
        clear hs3 HPT
        obtain ⟨K, rfl⟩ : ∃ K : Nat, k = (K : Int) := ⟨k.toNat, by omega⟩
        obtain ⟨T, rfl⟩ : ∃ T : Nat, t = (T : Int) := ⟨t.toNat, by omega⟩
        obtain ⟨N, hN⟩ : ∃ N : Nat, (N : Int) = max 0 (min n ((T : Int) - (K : Int))) := ⟨(max 0 (min n ((T : Int) - (K : Int)))).toNat, by omega⟩
        have HE := Lib.hid (HYES.out K N T rfl rfl hN HT1.out HT2.out HPC.out)
        have hKT : K < T := by omega
        have hTl : T ≤ l.length := by omega
        have hNK : K + N ≤ T := by omega
        have HNN := Lib.hid hN
        clear HYES hpc hN HPC
        go_wp2_with fail
        refine (h1.out _ HR4.out.bel).mono ?_
        rintro e v3 ⟨rfl, hv⟩
        have HR5 := Lib.hid (HR4.out.on hv)
        clear hv h1 k0 k1 k2 k3 p0 p1 p2 HR4
        obtain ⟨k0, k1, k2, k3⟩ := HR5.out.row
        simp only at k0 k1 k2 k3
        obtain ⟨p0, p1, p2⟩ : v3.cell? ⟨w.heap.size + 1, 0, none⟩ = some (.int .i64 p.fg) ∧ v3.cell? ⟨w.heap.size + 1, 1, none⟩ = some (.int .i64 p.bg) ∧ v3.cell? ⟨w.heap.size + 1, 2, none⟩ = some (.int .i64 p.fl) := ⟨HR5.out.b2.cell 0, HR5.out.b2.cell 1, HR5.out.b2.cell 2⟩
        go_wp2_with fail
        refine (h2.out _).mono ?_
        rintro e v4 ⟨rfl, hv⟩
        have HR6 := Lib.hid (HR5.out.on hv)
        clear hv h2 k0 k1 k2 k3 p0 p1 p2 HR5
        obtain ⟨k0, k1, k2, k3⟩ := HR6.out.row
        simp only at k0 k1 k2 k3
        obtain ⟨p0, p1, p2⟩ : v4.cell? ⟨w.heap.size + 1, 0, none⟩ = some (.int .i64 p.fg) ∧ v4.cell? ⟨w.heap.size + 1, 1, none⟩ = some (.int .i64 p.bg) ∧ v4.cell? ⟨w.heap.size + 1, 2, none⟩ = some (.int .i64 p.fl) := ⟨HR6.out.b2.cell 0, HR6.out.b2.cell 1, HR6.out.b2.cell 2⟩
        go_wp2_with fail
        refine (h3.out _).mono ?_
        rintro e v5 ⟨rfl, hv⟩
        have HR7 := Lib.hid (HR6.out.on hv)
        clear hv h3 k0 k1 k2 k3 p0 p1 p2 HR6
        obtain ⟨k0, k1, k2, k3⟩ := HR7.out.row
        simp only at k0 k1 k2 k3
        obtain ⟨p0, p1, p2⟩ : v5.cell? ⟨w.heap.size + 1, 0, none⟩ = some (.int .i64 p.fg) ∧ v5.cell? ⟨w.heap.size + 1, 1, none⟩ = some (.int .i64 p.bg) ∧ v5.cell? ⟨w.heap.size + 1, 2, none⟩ = some (.int .i64 p.fl) := ⟨HR7.out.b2.cell 0, HR7.out.b2.cell 1, HR7.out.b2.cell 2⟩
        go_upto_region 3 with fail
        go_cut [2] (fun u wx => u = .int .i64 (N : Int) ∧ wx = v5)
        case first =>
          go_wp2_with fail
          all_goals
            go_meet
            refine ⟨?_, by first | trivial | rfl⟩
            have hN := HNN.out
            congr 1
            omega
        case rest =>
          obtain ⟨rfl, hwc⟩ := hcut
          subst wc
          clear HNN hn0 hn1
          go_upto_region 4 with fail
          have hu := HR7.out.inr.upto (b := K) (by simp only; omega)
          obtain ⟨B2, d2, hf, hi2⟩ := HR7.out.inr.from_ (a := T) (by simp only; omega)
          obtain ⟨B3, d3, hg, hi3⟩ := HR7.out.inr.cut (a := K) (b := T - N) (by omega) (by simp only; omega)
          simp only at hu hf hi2 hg hi3
          rw [show ((T - N : Nat) : Int) = (T : Int) - (N : Int) by omega] at hg
          obtain ⟨hu, hi1⟩ := hu
          have HBK := Lib.hid (fun V => blanks8_c N (by omega) p V)
          have hsum : (l.take K).length + (N + (((l.take (T - N)).drop K).length + (l.drop T).length)) ≤ 8192 := by rw [List.length_take, List.length_drop, List.length_drop, List.length_take]; omega
          have HSUM := Lib.hid hsum
          have HI1 := Lib.hid hi1
          have HI2 := Lib.hid hi2
          have HI3 := Lib.hid hi3
          unfold insL at HE
          generalize l.take K = T1 at *
          generalize (l.take (T - N)).drop K = T3 at *
          generalize l.drop T = T2 at *
          clear hsum hi1 hi2 hi3
          have hE := HE.out
          obtain ⟨m0, m1, m2, m3⟩ := HR7.out.ext
          simp only at m0 m1 m2 m3
          have n0 := Ext.cell (w := v5) (B := w.heap.size + 2) (p := ⟨w.heap.size + 1, 0, none⟩) (by simp) p0
          have n1 := Ext.cell (w := v5) (B := w.heap.size + 2) (p := ⟨w.heap.size + 1, 1, none⟩) (by simp) p1
          have n2 := Ext.cell (w := v5) (B := w.heap.size + 2) (p := ⟨w.heap.size + 1, 2, none⟩) (by simp) p2
          have hsz : w.heap.size + 2 ≤ v5.heap.size := Nat.le_of_lt HR7.out.b3.lt
          have HSZ := Lib.hid hsz
          have HE2 := Lib.hid hE
          clear k0 k1 k2 k3 p0 p1 p2 hE HE hsz HNOT
          refine region_plan [([0, 1, 2, 3, 4, 5, 6, 8, 9, 10, 11, 12, 13, 14, 15, 16, 17, 18], [7, 19, 20, 21])] (fun w' => ∃ u : Ext v5 (w.heap.size + 2), w' = u.val) (by kernel_rfl) (by kernel_rfl) (fun _ _ _ _ _ h => h) ⟨⟨_, (Below.refl _ _).drew⟩, rfl⟩ ?_
          simp only [wpPlan, sel, List.take_succ_cons, List.take_zero, List.drop_succ_cons, List.drop_zero, List.cons_append, List.nil_append]
          repeat (go_big_quiet_step (fail))
          refine wpQuiet_nil ?_
          unfold wpChain
          go_wp2_with fail
          refine (HBK.out _).mono ?_
          rintro e v8 ⟨BB, db, rfl, hBB, hv8⟩
          have hv9 : Below v5.heap.size v5 v8 := (Below.refl v5.heap.size v5).drew.trans hv8
          have HR8 := Lib.hid (HR7.out.on hv9)
          have hps : ∀ e ∈ [(⟨A, c, T1⟩ : Pt), ⟨BB, db, List.replicate N (blankC p)⟩, ⟨B3, d3, T3⟩, ⟨B2, d2, T2⟩], InC v8 e.A e.c e.l := by
            intro e he
            simp only [List.mem_cons, List.not_mem_nil, or_false] at he
            rcases he with rfl | rfl | rfl | rfl
            · exact HI1.out.on hv9
            · exact hBB
            · exact HI3.out.on hv9
            · exact HI2.out.on hv9
          generalize hBL : List.replicate N (blankC p) = BL at *
          have hbl : BL.length = N := by rw [← hBL]; exact List.length_replicate
          have hin3 := parts_in v8 22 _ hps
          have hcat : catL [(⟨A, c, T1⟩ : Pt), ⟨BB, db, BL⟩, ⟨B3, d3, T3⟩, ⟨B2, d2, T2⟩] = T1 ++ (BL ++ (T3 ++ T2)) := by simp [catL]
          have hld := laid8_c ⟨l, y1, y2, y3⟩ A c (some ⟨v8.heap.size, 0, none⟩) _ 4 4 rfl _ hin3 (by simp) (by rw [hcat]; simp only [List.length_append, hbl]; exact HSUM.out) (Nat.le_refl _)
          rw [hcat] at hld
          have HLD := Lib.hid hld
          have hal : Below v8.heap.size v8 (v8.alloc (.cells #[.slice A T1.length c, .slice BB BL.length db, .slice B3 T3.length d3, .slice B2 T2.length d2] 22)) := (Below.refl _ _).alloc (Nat.le_refl _) _
          have HAL := Lib.hid hal
          have HV9 := Lib.hid hv9
          rw [← hbl]
          clear hv8 hBB hps hbl hin3 hcat hld hal HBK hv9 hBL
          go_wp2_with fail
          refine ⟨⟨⟨_, HV9.out.mono HSZ.out⟩, rfl⟩, ?_⟩
          unfold wpChain
          go_wp2_with fail
          refine ⟨⟨⟨_, (HV9.out.trans (HAL.out.mono HV9.out.size)).mono HSZ.out⟩, rfl⟩, ?_⟩
          unfold wpChain
          go_wp2_with fail
          refine HLD.out.mono ?_
          rintro e v4 ⟨B4, d4, rfl, hB4, hv4⟩
          have hv5 : Below v8.heap.size v8 v4 := HAL.out.trans (hv4.mono HAL.out.size)
          have HR7 := Lib.hid (HR8.out.on hv5)
          have HV5 := Lib.hid ((HV9.out.trans (hv5.mono HV9.out.size)).mono HSZ.out)
          have HB7 := Lib.hid hB4
          clear hB4 hv4 hv5 HLD m0 m1 m2 m3 n0 n1 n2 HAL HR8
          simp only [rwV_eq]
          go_wp2_with fail
          refine ⟨⟨⟨_, HV5.out⟩, rfl⟩, ?_⟩
          unfold wpChain
          obtain ⟨⟨f0, f1, f2, f3⟩, j0, j1, j2, j3⟩ := HR7.out.free
          go_wp2_with fail
          refine ⟨⟨⟨_, below_four HV5.out (Nat.le_refl _) _ _ _ _⟩, rfl⟩, ?_⟩
          unfold wpChain
          go_wp2_with fail
          have h4 := HR7.out.fin ⟨mendL (T1 ++ (BL ++ (T3 ++ T2))), y1, y2, y3⟩ B4 d4 HB7.out
          rw [HE2.out]
          exact bodyPost_ret (ret8_rw rfl ⟨mendL (T1 ++ (BL ++ (T3 ++ T2))), y1, y2, y3⟩ B4 d4 _ _ (w.heap.size + 2) 24 rfl h4.1) rfl ⟨_, _, rfl, h4.2.1, h4.2.2⟩
set_option maxRecDepth 100000 in
set_option maxHeartbeats 1000000 in
theorem delete8_c : Delete8C := by
  intro r A c k n t p w hin hok hk hn ht hp
  obtain ⟨l, y1, y2, y3⟩ := r
  rw [rwV_eq, show pnV p = .agg #[.int .i64 p.fg, .int .i64 p.bg, .int .i64 p.fl] from rfl]
  have hlen := hin.len
  unfold maxLen at hlen
  have hcap := hin.cap
  have hR3 := Rw3.new (r := ⟨l, y1, y2, y3⟩) 27 #[.int .i64 p.fg, .int .i64 p.bg, .int .i64 p.fl] hin
  have hsr := fun V (hV : Below w.heap.size w V) => sane8_b ⟨l, y1, y2, y3⟩ A c V (hin.on hV) hok
  have hpr := fun V => sane7_c p V hp
  have HSR := Lib.hid hsr
  have HPR := Lib.hid hpr
  have HR3 := Lib.hid hR3
  have HL1 : Hid (SaneR ⟨l, y1, y2, y3⟩ → l.length ≤ 4096) := Lib.hid fun h => h.1.2
  have hpt := fun V => part8_c ⟨l, y1, y2, y3⟩ A c k t V
  simp only at hpt hlen hcap
  generalize hS : delR ⟨l, y1, y2, y3⟩ k n t p = S
  have HNOT : Hid (¬ (SaneR ⟨l, y1, y2, y3⟩ ∧ SaneN p ∧ PartC l.length k t) → S = ⟨l, y1, y2, y3⟩) := Lib.hid fun h => by rw [← hS]; exact del_not (fun m => h ⟨m.1, m.2.1, m.2.2⟩)
  have HYES : Hid (∀ K N T : Nat, k = K → t = T → (N : Int) = max 0 (min n (t - k)) → SaneR ⟨l, y1, y2, y3⟩ → SaneN p → PartC l.length k t → S = ⟨mendL (delL l K N T p), y1, y2, y3⟩) := Lib.hid fun K N T e1 e2 e3 h1 h2 h3 => by
    have e4 : moveN k n t = N := by unfold moveN; omega
    rw [← hS, del_laid (r := ⟨l, y1, y2, y3⟩) ⟨h1, h2, h3⟩, e4, e1, e2, Int.toNat_natCast, Int.toNat_natCast]
  have HPT := Lib.hid hpt
  unfold I64 at hk hn ht
  obtain ⟨hk0, hk1⟩ := hk
  obtain ⟨hn0, hn1⟩ := hn
  obtain ⟨ht0, ht1⟩ := ht
  clear hS hpt hsr hpr hR3 hin hok hp
  go_enter Try.func13, Try.ntmps13
  go_upto_region 1 with fail
  simp only at HR3
  generalize ((w.alloc (.cells #[.slice A l.length c, .bool y1, .int .i64 y2, .bool y3] 24)).alloc (.cells #[.int .i64 p.fg, .int .i64 p.bg, .int .i64 p.fl] 27)).alloc (.cells #[.slice none 0 0, .bool false, .int .i64 0, .bool false] 24) = W at *
  obtain ⟨k0, k1, k2, k3⟩ := HR3.out.row
  simp only at k0 k1 k2 k3
  obtain ⟨p0, p1, p2⟩ : W.cell? ⟨w.heap.size + 1, 0, none⟩ = some (.int .i64 p.fg) ∧ W.cell? ⟨w.heap.size + 1, 1, none⟩ = some (.int .i64 p.bg) ∧ W.cell? ⟨w.heap.size + 1, 2, none⟩ = some (.int .i64 p.fl) := ⟨HR3.out.b2.cell 0, HR3.out.b2.cell 1, HR3.out.b2.cell 2⟩
  have HR4 := HR3
  clear HR3
  cases hs1 : decide (SaneR ⟨l, y1, y2, y3⟩) with
  | false =>
    have h1 : Hid (∀ V, Below w.heap.size w V → _) := Lib.hid fun V hV => HSR.out V hV
    simp only [hs1] at h1
    have HF := Lib.hid (of_decide_eq_false hs1)
    clear hs1 HSR
    go_wp2_with fail
    refine (h1.out _ HR4.out.bel).mono ?_
    rintro e v3 ⟨rfl, hv⟩
    have HR5 := Lib.hid (HR4.out.on hv)
    clear hv h1 k0 k1 k2 k3 p0 p1 p2 HR4
    obtain ⟨k0, k1, k2, k3⟩ := HR5.out.row
    simp only at k0 k1 k2 k3
    obtain ⟨p0, p1, p2⟩ : v3.cell? ⟨w.heap.size + 1, 0, none⟩ = some (.int .i64 p.fg) ∧ v3.cell? ⟨w.heap.size + 1, 1, none⟩ = some (.int .i64 p.bg) ∧ v3.cell? ⟨w.heap.size + 1, 2, none⟩ = some (.int .i64 p.fl) := ⟨HR5.out.b2.cell 0, HR5.out.b2.cell 1, HR5.out.b2.cell 2⟩
    have e : S = ⟨l, y1, y2, y3⟩ := HNOT.out (fun g => HF.out g.1)
    have HE := Lib.hid e
    clear e
    obtain ⟨⟨f0, f1, f2, f3⟩, j0, j1, j2, j3⟩ := HR5.out.free
    go_wp2_with fail
    have h4 := HR5.out.fin ⟨l, y1, y2, y3⟩ A c HR5.out.inr
    rw [HE.out]
    exact bodyPost_ret (ret8_rw rfl ⟨l, y1, y2, y3⟩ A c _ _ (w.heap.size + 2) 24 rfl h4.1) rfl ⟨_, _, rfl, h4.2.1, h4.2.2⟩
  | true =>
    have h1 : Hid (∀ V, Below w.heap.size w V → _) := Lib.hid fun V hV => HSR.out V hV
    simp only [hs1] at h1
    have HT1 := Lib.hid (of_decide_eq_true hs1)
    have hl4 := HL1.out HT1.out
    clear hs1 HSR
    cases hs2 : decide (SaneN p) with
    | false =>
      have h2 : Hid (∀ V, _) := Lib.hid fun V => HPR.out V
      simp only [hs2, show pnV p = .agg #[.int .i64 p.fg, .int .i64 p.bg, .int .i64 p.fl] from rfl] at h2
      have HF := Lib.hid (of_decide_eq_false hs2)
      clear hs2 HPR
      go_wp2_with fail
      refine (h1.out _ HR4.out.bel).mono ?_
      rintro e v3 ⟨rfl, hv⟩
      have HR5 := Lib.hid (HR4.out.on hv)
      clear hv h1 k0 k1 k2 k3 p0 p1 p2 HR4
      obtain ⟨k0, k1, k2, k3⟩ := HR5.out.row
      simp only at k0 k1 k2 k3
      obtain ⟨p0, p1, p2⟩ : v3.cell? ⟨w.heap.size + 1, 0, none⟩ = some (.int .i64 p.fg) ∧ v3.cell? ⟨w.heap.size + 1, 1, none⟩ = some (.int .i64 p.bg) ∧ v3.cell? ⟨w.heap.size + 1, 2, none⟩ = some (.int .i64 p.fl) := ⟨HR5.out.b2.cell 0, HR5.out.b2.cell 1, HR5.out.b2.cell 2⟩
      go_wp2_with fail
      refine (h2.out _).mono ?_
      rintro e v4 ⟨rfl, hv⟩
      have HR6 := Lib.hid (HR5.out.on hv)
      clear hv h2 k0 k1 k2 k3 p0 p1 p2 HR5
      obtain ⟨k0, k1, k2, k3⟩ := HR6.out.row
      simp only at k0 k1 k2 k3
      obtain ⟨p0, p1, p2⟩ : v4.cell? ⟨w.heap.size + 1, 0, none⟩ = some (.int .i64 p.fg) ∧ v4.cell? ⟨w.heap.size + 1, 1, none⟩ = some (.int .i64 p.bg) ∧ v4.cell? ⟨w.heap.size + 1, 2, none⟩ = some (.int .i64 p.fl) := ⟨HR6.out.b2.cell 0, HR6.out.b2.cell 1, HR6.out.b2.cell 2⟩
      have e : S = ⟨l, y1, y2, y3⟩ := HNOT.out (fun g => HF.out g.2.1)
      have HE := Lib.hid e
      clear e
      obtain ⟨⟨f0, f1, f2, f3⟩, j0, j1, j2, j3⟩ := HR6.out.free
      go_wp2_with fail
      have h4 := HR6.out.fin ⟨l, y1, y2, y3⟩ A c HR6.out.inr
      rw [HE.out]
      exact bodyPost_ret (ret8_rw rfl ⟨l, y1, y2, y3⟩ A c _ _ (w.heap.size + 2) 24 rfl h4.1) rfl ⟨_, _, rfl, h4.2.1, h4.2.2⟩
    | true =>
      have h2 : Hid (∀ V, _) := Lib.hid fun V => HPR.out V
      simp only [hs2, show pnV p = .agg #[.int .i64 p.fg, .int .i64 p.bg, .int .i64 p.fl] from rfl] at h2
      have HT2 := Lib.hid (of_decide_eq_true hs2)
      clear hs2 HPR
      cases hs3 : decide (PartC l.length k t) with
      | false =>
        have h3 : Hid (∀ V, _) := Lib.hid fun V => HPT.out V
        simp only [hs3] at h3
        have HF := Lib.hid (of_decide_eq_false hs3)
        clear hs3 HPT
        go_wp2_with fail
        refine (h1.out _ HR4.out.bel).mono ?_
        rintro e v3 ⟨rfl, hv⟩
        have HR5 := Lib.hid (HR4.out.on hv)
        clear hv h1 k0 k1 k2 k3 p0 p1 p2 HR4
        obtain ⟨k0, k1, k2, k3⟩ := HR5.out.row
        simp only at k0 k1 k2 k3
        obtain ⟨p0, p1, p2⟩ : v3.cell? ⟨w.heap.size + 1, 0, none⟩ = some (.int .i64 p.fg) ∧ v3.cell? ⟨w.heap.size + 1, 1, none⟩ = some (.int .i64 p.bg) ∧ v3.cell? ⟨w.heap.size + 1, 2, none⟩ = some (.int .i64 p.fl) := ⟨HR5.out.b2.cell 0, HR5.out.b2.cell 1, HR5.out.b2.cell 2⟩
        go_wp2_with fail
        refine (h2.out _).mono ?_
        rintro e v4 ⟨rfl, hv⟩
        have HR6 := Lib.hid (HR5.out.on hv)
        clear hv h2 k0 k1 k2 k3 p0 p1 p2 HR5
        obtain ⟨k0, k1, k2, k3⟩ := HR6.out.row
        simp only at k0 k1 k2 k3
        obtain ⟨p0, p1, p2⟩ : v4.cell? ⟨w.heap.size + 1, 0, none⟩ = some (.int .i64 p.fg) ∧ v4.cell? ⟨w.heap.size + 1, 1, none⟩ = some (.int .i64 p.bg) ∧ v4.cell? ⟨w.heap.size + 1, 2, none⟩ = some (.int .i64 p.fl) := ⟨HR6.out.b2.cell 0, HR6.out.b2.cell 1, HR6.out.b2.cell 2⟩
        go_wp2_with fail
        refine (h3.out _).mono ?_
        rintro e v5 ⟨rfl, hv⟩
        have HR7 := Lib.hid (HR6.out.on hv)
        clear hv h3 k0 k1 k2 k3 p0 p1 p2 HR6
        obtain ⟨k0, k1, k2, k3⟩ := HR7.out.row
        simp only at k0 k1 k2 k3
        obtain ⟨p0, p1, p2⟩ : v5.cell? ⟨w.heap.size + 1, 0, none⟩ = some (.int .i64 p.fg) ∧ v5.cell? ⟨w.heap.size + 1, 1, none⟩ = some (.int .i64 p.bg) ∧ v5.cell? ⟨w.heap.size + 1, 2, none⟩ = some (.int .i64 p.fl) := ⟨HR7.out.b2.cell 0, HR7.out.b2.cell 1, HR7.out.b2.cell 2⟩
        have e : S = ⟨l, y1, y2, y3⟩ := HNOT.out (fun g => HF.out g.2.2)
        have HE := Lib.hid e
        clear e
        obtain ⟨⟨f0, f1, f2, f3⟩, j0, j1, j2, j3⟩ := HR7.out.free
        go_wp2_with fail
        have h4 := HR7.out.fin ⟨l, y1, y2, y3⟩ A c HR7.out.inr
        rw [HE.out]
        exact bodyPost_ret (ret8_rw rfl ⟨l, y1, y2, y3⟩ A c _ _ (w.heap.size + 2) 24 rfl h4.1) rfl ⟨_, _, rfl, h4.2.1, h4.2.2⟩
      | true =>
        have h3 : Hid (∀ V, _) := Lib.hid fun V => HPT.out V
        simp only [hs3] at h3
        have hpc := of_decide_eq_true hs3
        have HPC := Lib.hid hpc
        unfold PartC at hpc
        clear hs3 HPT
        obtain ⟨K, rfl⟩ : ∃ K : Nat, k = (K : Int) := ⟨k.toNat, by omega⟩
        obtain ⟨T, rfl⟩ : ∃ T : Nat, t = (T : Int) := ⟨t.toNat, by omega⟩
        obtain ⟨N, hN⟩ : ∃ N : Nat, (N : Int) = max 0 (min n ((T : Int) - (K : Int))) := ⟨(max 0 (min n ((T : Int) - (K : Int)))).toNat, by omega⟩
        have HE := Lib.hid (HYES.out K N T rfl rfl hN HT1.out HT2.out HPC.out)
        have hKT : K < T := by omega
        have hTl : T ≤ l.length := by omega
        have hNK : K + N ≤ T := by omega
        have HNN := Lib.hid hN
        clear HYES hpc hN HPC
        go_wp2_with fail
        refine (h1.out _ HR4.out.bel).mono ?_
        rintro e v3 ⟨rfl, hv⟩
        have HR5 := Lib.hid (HR4.out.on hv)
        clear hv h1 k0 k1 k2 k3 p0 p1 p2 HR4
        obtain ⟨k0, k1, k2, k3⟩ := HR5.out.row
        simp only at k0 k1 k2 k3
        obtain ⟨p0, p1, p2⟩ : v3.cell? ⟨w.heap.size + 1, 0, none⟩ = some (.int .i64 p.fg) ∧ v3.cell? ⟨w.heap.size + 1, 1, none⟩ = some (.int .i64 p.bg) ∧ v3.cell? ⟨w.heap.size + 1, 2, none⟩ = some (.int .i64 p.fl) := ⟨HR5.out.b2.cell 0, HR5.out.b2.cell 1, HR5.out.b2.cell 2⟩
        go_wp2_with fail
        refine (h2.out _).mono ?_
        rintro e v4 ⟨rfl, hv⟩
        have HR6 := Lib.hid (HR5.out.on hv)
        clear hv h2 k0 k1 k2 k3 p0 p1 p2 HR5
        obtain ⟨k0, k1, k2, k3⟩ := HR6.out.row
        simp only at k0 k1 k2 k3
        obtain ⟨p0, p1, p2⟩ : v4.cell? ⟨w.heap.size + 1, 0, none⟩ = some (.int .i64 p.fg) ∧ v4.cell? ⟨w.heap.size + 1, 1, none⟩ = some (.int .i64 p.bg) ∧ v4.cell? ⟨w.heap.size + 1, 2, none⟩ = some (.int .i64 p.fl) := ⟨HR6.out.b2.cell 0, HR6.out.b2.cell 1, HR6.out.b2.cell 2⟩
        go_wp2_with fail
        refine (h3.out _).mono ?_
        rintro e v5 ⟨rfl, hv⟩
        have HR7 := Lib.hid (HR6.out.on hv)
        clear hv h3 k0 k1 k2 k3 p0 p1 p2 HR6
        obtain ⟨k0, k1, k2, k3⟩ := HR7.out.row
        simp only at k0 k1 k2 k3
        obtain ⟨p0, p1, p2⟩ : v5.cell? ⟨w.heap.size + 1, 0, none⟩ = some (.int .i64 p.fg) ∧ v5.cell? ⟨w.heap.size + 1, 1, none⟩ = some (.int .i64 p.bg) ∧ v5.cell? ⟨w.heap.size + 1, 2, none⟩ = some (.int .i64 p.fl) := ⟨HR7.out.b2.cell 0, HR7.out.b2.cell 1, HR7.out.b2.cell 2⟩
        go_upto_region 3 with fail
        go_cut [2] (fun u wx => u = .int .i64 (N : Int) ∧ wx = v5)
        case first =>
          go_wp2_with fail
          all_goals
            go_meet
            refine ⟨?_, by first | trivial | rfl⟩
            have hN := HNN.out
            congr 1
            omega
        case rest =>
          obtain ⟨rfl, hwc⟩ := hcut
          subst wc
          clear HNN hn0 hn1
          go_upto_region 4 with fail
          have hu := HR7.out.inr.upto (b := K) (by simp only; omega)
          obtain ⟨B2, d2, hf, hi2⟩ := HR7.out.inr.from_ (a := T) (by simp only; omega)
          obtain ⟨B3, d3, hg, hi3⟩ := HR7.out.inr.cut (a := K + N) (b := T) (by omega) (by simp only; omega)
          simp only at hu hf hi2 hg hi3
          rw [Int.natCast_add] at hg
          obtain ⟨hu, hi1⟩ := hu
          have HBK := Lib.hid (fun V => blanks8_c N (by omega) p V)
          have hsum : (l.take K).length + (((l.take T).drop (K + N)).length + (N + (l.drop T).length)) ≤ 8192 := by rw [List.length_take, List.length_drop, List.length_drop, List.length_take]; omega
          have HSUM := Lib.hid hsum
          have HI1 := Lib.hid hi1
          have HI2 := Lib.hid hi2
          have HI3 := Lib.hid hi3
          unfold delL at HE
          generalize l.take K = T1 at *
          generalize (l.take T).drop (K + N) = T3 at *
          generalize l.drop T = T2 at *
          clear hsum hi1 hi2 hi3
          have hE := HE.out
          obtain ⟨m0, m1, m2, m3⟩ := HR7.out.ext
          simp only at m0 m1 m2 m3
          have n0 := Ext.cell (w := v5) (B := w.heap.size + 2) (p := ⟨w.heap.size + 1, 0, none⟩) (by simp) p0
          have n1 := Ext.cell (w := v5) (B := w.heap.size + 2) (p := ⟨w.heap.size + 1, 1, none⟩) (by simp) p1
          have n2 := Ext.cell (w := v5) (B := w.heap.size + 2) (p := ⟨w.heap.size + 1, 2, none⟩) (by simp) p2
          have hsz : w.heap.size + 2 ≤ v5.heap.size := Nat.le_of_lt HR7.out.b3.lt
          have HSZ := Lib.hid hsz
          have HE2 := Lib.hid hE
          clear k0 k1 k2 k3 p0 p1 p2 hE HE hsz HNOT
          refine region_plan [([0, 1, 2, 3, 4, 5, 6, 7, 8, 9, 10, 11, 12, 13, 15, 16, 17, 18], [14, 19, 20, 21])] (fun w' => ∃ u : Ext v5 (w.heap.size + 2), w' = u.val) (by kernel_rfl) (by kernel_rfl) (fun _ _ _ _ _ h => h) ⟨⟨_, (Below.refl _ _).drew⟩, rfl⟩ ?_
          simp only [wpPlan, sel, List.take_succ_cons, List.take_zero, List.drop_succ_cons, List.drop_zero, List.cons_append, List.nil_append]
          repeat (go_big_quiet_step (fail))
          refine wpQuiet_nil ?_
          unfold wpChain
          go_wp2_with fail
          refine (HBK.out _).mono ?_
          rintro e v8 ⟨BB, db, rfl, hBB, hv8⟩
          have hv9 : Below v5.heap.size v5 v8 := (Below.refl v5.heap.size v5).drew.trans hv8
          have HR8 := Lib.hid (HR7.out.on hv9)
          have hps : ∀ e ∈ [(⟨A, c, T1⟩ : Pt), ⟨B3, d3, T3⟩, ⟨BB, db, List.replicate N (blankC p)⟩, ⟨B2, d2, T2⟩], InC v8 e.A e.c e.l := by
            intro e he
            simp only [List.mem_cons, List.not_mem_nil, or_false] at he
            rcases he with rfl | rfl | rfl | rfl
            · exact HI1.out.on hv9
            · exact HI3.out.on hv9
            · exact hBB
            · exact HI2.out.on hv9
          generalize hBL : List.replicate N (blankC p) = BL at *
          have hbl : BL.length = N := by rw [← hBL]; exact List.length_replicate
          have hin3 := parts_in v8 22 _ hps
          have hcat : catL [(⟨A, c, T1⟩ : Pt), ⟨B3, d3, T3⟩, ⟨BB, db, BL⟩, ⟨B2, d2, T2⟩] = T1 ++ (T3 ++ (BL ++ T2)) := by simp [catL]
          have hld := laid8_c ⟨l, y1, y2, y3⟩ A c (some ⟨v8.heap.size, 0, none⟩) _ 4 4 rfl _ hin3 (by simp) (by rw [hcat]; simp only [List.length_append, hbl]; exact HSUM.out) (Nat.le_refl _)
          rw [hcat] at hld
          have HLD := Lib.hid hld
          have hal : Below v8.heap.size v8 (v8.alloc (.cells #[.slice A T1.length c, .slice B3 T3.length d3, .slice BB BL.length db, .slice B2 T2.length d2] 22)) := (Below.refl _ _).alloc (Nat.le_refl _) _
          have HAL := Lib.hid hal
          have HV9 := Lib.hid hv9
          rw [← hbl]
          clear hv8 hBB hps hbl hin3 hcat hld hal HBK hv9 hBL
          go_wp2_with fail
          refine ⟨⟨⟨_, HV9.out.mono HSZ.out⟩, rfl⟩, ?_⟩
          unfold wpChain
          go_wp2_with fail
          refine ⟨⟨⟨_, (HV9.out.trans (HAL.out.mono HV9.out.size)).mono HSZ.out⟩, rfl⟩, ?_⟩
          unfold wpChain
          go_wp2_with fail
          refine HLD.out.mono ?_
          rintro e v4 ⟨B4, d4, rfl, hB4, hv4⟩
          have hv5 : Below v8.heap.size v8 v4 := HAL.out.trans (hv4.mono HAL.out.size)
          have HR7 := Lib.hid (HR8.out.on hv5)
          have HV5 := Lib.hid ((HV9.out.trans (hv5.mono HV9.out.size)).mono HSZ.out)
          have HB7 := Lib.hid hB4
          clear hB4 hv4 hv5 HLD m0 m1 m2 m3 n0 n1 n2 HAL HR8
          simp only [rwV_eq]
          go_wp2_with fail
          refine ⟨⟨⟨_, HV5.out⟩, rfl⟩, ?_⟩
          unfold wpChain
          obtain ⟨⟨f0, f1, f2, f3⟩, j0, j1, j2, j3⟩ := HR7.out.free
          go_wp2_with fail
          refine ⟨⟨⟨_, below_four HV5.out (Nat.le_refl _) _ _ _ _⟩, rfl⟩, ?_⟩
          unfold wpChain
          go_wp2_with fail
          have h4 := HR7.out.fin ⟨mendL (T1 ++ (T3 ++ (BL ++ T2))), y1, y2, y3⟩ B4 d4 HB7.out
          rw [HE2.out]
          exact bodyPost_ret (ret8_rw rfl ⟨mendL (T1 ++ (T3 ++ (BL ++ T2))), y1, y2, y3⟩ B4 d4 _ _ (w.heap.size + 2) 24 rfl h4.1) rfl ⟨_, _, rfl, h4.2.1, h4.2.2⟩
end Go.Proofs.Ytflpelpgnjdnkaa
