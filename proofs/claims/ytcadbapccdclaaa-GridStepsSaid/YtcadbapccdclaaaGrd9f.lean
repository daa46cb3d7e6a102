/- Package grid, walked: a row that is set, rows that are cleared. -/
import Derived.Test.YtcadbapccdclaaaGrd9e
namespace Go.Proofs.Ytcadbapccdclaaa
open Go Go.RowKit
set_option linter.unusedVariables false
set_option linter.unusedSimpArgs false

set_option maxRecDepth 100000 in
set_option maxHeartbeats 1000000 in
theorem set9_c : Set9C := by
  intro A c es y x w hin hok hy hx hxo
  rw [show rlV x = .agg #[.slice x.A x.r.cs.length x.c, .bool x.r.wrap, .int .i64 x.r.dir, .bool x.r.ex] from rfl]
  have hG := Gd3.new 35 #[.slice x.A x.r.cs.length x.c, .bool x.r.wrap, .int .i64 x.r.dir, .bool x.r.ex] hin
  have hsr := fun V (hV : Below w.heap.size w V) => sane8_b x.r x.A x.c V (hx.on hV) hxo
  have hsg := fun V (hV : Below w.heap.size w V) => sane9_c A c es V (hin.on hV) hok
  have hwd := fun V e0 (he : es[0]? = some e0) (hV : Below w.heap.size w V) => ofWidth9_c A c es x e0 he V (hin.on hV).rows
  have HNOT : Hid (¬ (SaneG (rws es) ∧ 0 ≤ y ∧ y < (rws es).length ∧ SaneR x.r ∧ x.r.cs.length = widthG (rws es)) → setG (rws es) y x.r = rws es) := Lib.hid fun h => by unfold setG; rw [if_neg h]
  have HYES : Hid ((SaneG (rws es) ∧ 0 ≤ y ∧ y < (rws es).length ∧ SaneR x.r ∧ x.r.cs.length = widthG (rws es)) → setG (rws es) y x.r = (rws es).set y.toNat x.r) := Lib.hid fun h => by unfold setG; rw [if_pos h]
  generalize setG (rws es) y x.r = U at *
  have hmax := hin.rows.max
  have hcap := hin.rows.cap
  unfold maxLen at hmax
  have HG := Lib.hid hG
  have HSR := Lib.hid hsr
  have HSG := Lib.hid hsg
  have HWD := Lib.hid hwd
  have HIN := Lib.hid (And.intro hin hx)
  unfold I64 at hy
  clear hG hsr hsg hwd hin hx hxo hok
  rcases (show y < 0 ∨ (0 ≤ y ∧ (es.length : Int) ≤ y) ∨ (0 ≤ y ∧ y < es.length) by omega) with q | ⟨q, q'⟩ | ⟨q, q'⟩
  · have HU := Lib.hid (HNOT.out (fun h => by omega))
    go_enter Try.func13, Try.ntmps13
    go_upto_region 1 with fail
    generalize ((w.alloc (.cells #[.slice A es.length c] 26)).alloc (.cells #[.slice x.A x.r.cs.length x.c, .bool x.r.wrap, .int .i64 x.r.dir, .bool x.r.ex] 35)).alloc (.cells #[.slice none 0 0] 26) = W at *
    clear HNOT HYES
    have k0 : W.cell? ⟨w.heap.size, 0, none⟩ = some (.slice A es.length c) := HG.out.b1.cell 0
    obtain ⟨r0, r1, r2, r3⟩ : W.cell? ⟨w.heap.size + 1, 0, none⟩ = some (.slice x.A x.r.cs.length x.c) ∧ W.cell? ⟨w.heap.size + 1, 1, none⟩ = some (.bool x.r.wrap) ∧ W.cell? ⟨w.heap.size + 1, 2, none⟩ = some (.int .i64 x.r.dir) ∧ W.cell? ⟨w.heap.size + 1, 3, none⟩ = some (.bool x.r.ex) := ⟨HG.out.b2.cell 0, HG.out.b2.cell 1, HG.out.b2.cell 2, HG.out.b2.cell 3⟩
    have f0 : W.frozen? ⟨w.heap.size + 2, 0, none⟩ = false := HG.out.b3.free 0
    have j0 : W.cell? ⟨w.heap.size + 2, 0, none⟩ = some (.slice none 0 0) := HG.out.b3.cell 0
    go_wp2_with fail
    have hf := HG.out.fin A es.length c
    refine bodyPost_ret (ret9_g rfl A es.length c _ _ (w.heap.size + 2) 26 rfl hf.1) rfl ⟨A, c, es, rfl, hf.2.2 _ _ _ HG.out.inr, HU.out.symm, hf.2.1⟩
  · have z0 : ¬ y < 0 := by omega
    have HU := Lib.hid (HNOT.out (fun h => by have := h.2.2.1; rw [rws_length] at this; omega))
    go_enter Try.func13, Try.ntmps13
    go_upto_region 1 with fail
    generalize ((w.alloc (.cells #[.slice A es.length c] 26)).alloc (.cells #[.slice x.A x.r.cs.length x.c, .bool x.r.wrap, .int .i64 x.r.dir, .bool x.r.ex] 35)).alloc (.cells #[.slice none 0 0] 26) = W at *
    clear HNOT HYES
    have k0 : W.cell? ⟨w.heap.size, 0, none⟩ = some (.slice A es.length c) := HG.out.b1.cell 0
    obtain ⟨r0, r1, r2, r3⟩ : W.cell? ⟨w.heap.size + 1, 0, none⟩ = some (.slice x.A x.r.cs.length x.c) ∧ W.cell? ⟨w.heap.size + 1, 1, none⟩ = some (.bool x.r.wrap) ∧ W.cell? ⟨w.heap.size + 1, 2, none⟩ = some (.int .i64 x.r.dir) ∧ W.cell? ⟨w.heap.size + 1, 3, none⟩ = some (.bool x.r.ex) := ⟨HG.out.b2.cell 0, HG.out.b2.cell 1, HG.out.b2.cell 2, HG.out.b2.cell 3⟩
    have f0 : W.frozen? ⟨w.heap.size + 2, 0, none⟩ = false := HG.out.b3.free 0
    have j0 : W.cell? ⟨w.heap.size + 2, 0, none⟩ = some (.slice none 0 0) := HG.out.b3.cell 0
    go_wp2_with fail
    have hf := HG.out.fin A es.length c
    refine bodyPost_ret (ret9_g rfl A es.length c _ _ (w.heap.size + 2) 26 rfl hf.1) rfl ⟨A, c, es, rfl, hf.2.2 _ _ _ HG.out.inr, HU.out.symm, hf.2.1⟩
  · obtain ⟨Y, rfl⟩ : ∃ Y : Nat, y = Y := ⟨y.toNat, by omega⟩
    have hY : Y < es.length := by omega
    have z0 : ¬ (Y : Int) < 0 := by omega
    have z1 : ¬ (Y : Int) ≥ (es.length : Int) := by omega
    obtain ⟨e0, he0⟩ : ∃ e0, es[0]? = some e0 := ⟨_, List.getElem?_eq_getElem (by omega)⟩
    have hwg : widthG (rws es) = e0.r.cs.length := by unfold widthG; rw [rws_at he0]; rfl
    have HWE : Hid (∀ V, Below w.heap.size w V → _) := Lib.hid fun V hV => HWD.out V e0 he0 hV
    rw [hwg] at HNOT HYES
    clear hwg he0 HWD q q'
    cases hw1 : decide (x.r.cs.length = e0.r.cs.length) with
    | false =>
      have HU := Lib.hid (HNOT.out (fun h => of_decide_eq_false hw1 h.2.2.2.2))
      simp only [hw1] at HWE
      clear hw1 HNOT HYES
      go_enter Try.func13, Try.ntmps13
      go_upto_region 1 with fail
      generalize ((w.alloc (.cells #[.slice A es.length c] 26)).alloc (.cells #[.slice x.A x.r.cs.length x.c, .bool x.r.wrap, .int .i64 x.r.dir, .bool x.r.ex] 35)).alloc (.cells #[.slice none 0 0] 26) = W at *
      have k0 : W.cell? ⟨w.heap.size, 0, none⟩ = some (.slice A es.length c) := HG.out.b1.cell 0
      obtain ⟨r0, r1, r2, r3⟩ : W.cell? ⟨w.heap.size + 1, 0, none⟩ = some (.slice x.A x.r.cs.length x.c) ∧ W.cell? ⟨w.heap.size + 1, 1, none⟩ = some (.bool x.r.wrap) ∧ W.cell? ⟨w.heap.size + 1, 2, none⟩ = some (.int .i64 x.r.dir) ∧ W.cell? ⟨w.heap.size + 1, 3, none⟩ = some (.bool x.r.ex) := ⟨HG.out.b2.cell 0, HG.out.b2.cell 1, HG.out.b2.cell 2, HG.out.b2.cell 3⟩
      go_wp2_with fail
      refine (HWE.out _ HG.out.bel).mono ?_
      rintro e v1 ⟨rfl, hv⟩
      have HG1 := Lib.hid (HG.out.on hv)
      clear hv k0 r0 r1 r2 r3 HG
      have k0 : v1.cell? ⟨w.heap.size, 0, none⟩ = some (.slice A es.length c) := HG1.out.b1.cell 0
      obtain ⟨r0, r1, r2, r3⟩ : v1.cell? ⟨w.heap.size + 1, 0, none⟩ = some (.slice x.A x.r.cs.length x.c) ∧ v1.cell? ⟨w.heap.size + 1, 1, none⟩ = some (.bool x.r.wrap) ∧ v1.cell? ⟨w.heap.size + 1, 2, none⟩ = some (.int .i64 x.r.dir) ∧ v1.cell? ⟨w.heap.size + 1, 3, none⟩ = some (.bool x.r.ex) := ⟨HG1.out.b2.cell 0, HG1.out.b2.cell 1, HG1.out.b2.cell 2, HG1.out.b2.cell 3⟩
      have f0 : v1.frozen? ⟨w.heap.size + 2, 0, none⟩ = false := HG1.out.b3.free 0
      have j0 : v1.cell? ⟨w.heap.size + 2, 0, none⟩ = some (.slice none 0 0) := HG1.out.b3.cell 0
      go_wp2_with fail
      have hf := HG1.out.fin A es.length c
      refine bodyPost_ret (ret9_g rfl A es.length c _ _ (w.heap.size + 2) 26 rfl hf.1) rfl ⟨A, c, es, rfl, hf.2.2 _ _ _ HG1.out.inr, HU.out.symm, hf.2.1⟩
    | true =>
      have HW1 := Lib.hid (of_decide_eq_true hw1)
      simp only [hw1] at HWE
      clear hw1
      cases hs1 : decide (SaneR x.r) with
      | false =>
        have HU := Lib.hid (HNOT.out (fun h => of_decide_eq_false hs1 h.2.2.2.1))
        rw [hs1] at HSR
        clear hs1 HNOT HYES
        go_enter Try.func13, Try.ntmps13
        go_upto_region 1 with fail
        generalize ((w.alloc (.cells #[.slice A es.length c] 26)).alloc (.cells #[.slice x.A x.r.cs.length x.c, .bool x.r.wrap, .int .i64 x.r.dir, .bool x.r.ex] 35)).alloc (.cells #[.slice none 0 0] 26) = W at *
        have k0 : W.cell? ⟨w.heap.size, 0, none⟩ = some (.slice A es.length c) := HG.out.b1.cell 0
        obtain ⟨r0, r1, r2, r3⟩ : W.cell? ⟨w.heap.size + 1, 0, none⟩ = some (.slice x.A x.r.cs.length x.c) ∧ W.cell? ⟨w.heap.size + 1, 1, none⟩ = some (.bool x.r.wrap) ∧ W.cell? ⟨w.heap.size + 1, 2, none⟩ = some (.int .i64 x.r.dir) ∧ W.cell? ⟨w.heap.size + 1, 3, none⟩ = some (.bool x.r.ex) := ⟨HG.out.b2.cell 0, HG.out.b2.cell 1, HG.out.b2.cell 2, HG.out.b2.cell 3⟩
        go_wp2_with fail
        refine (HWE.out _ HG.out.bel).mono ?_
        rintro e v1 ⟨rfl, hv⟩
        have HG1 := Lib.hid (HG.out.on hv)
        clear hv k0 r0 r1 r2 r3 HG
        have k0 : v1.cell? ⟨w.heap.size, 0, none⟩ = some (.slice A es.length c) := HG1.out.b1.cell 0
        obtain ⟨r0, r1, r2, r3⟩ : v1.cell? ⟨w.heap.size + 1, 0, none⟩ = some (.slice x.A x.r.cs.length x.c) ∧ v1.cell? ⟨w.heap.size + 1, 1, none⟩ = some (.bool x.r.wrap) ∧ v1.cell? ⟨w.heap.size + 1, 2, none⟩ = some (.int .i64 x.r.dir) ∧ v1.cell? ⟨w.heap.size + 1, 3, none⟩ = some (.bool x.r.ex) := ⟨HG1.out.b2.cell 0, HG1.out.b2.cell 1, HG1.out.b2.cell 2, HG1.out.b2.cell 3⟩
        go_wp2_with fail
        refine (HSR.out _ HG1.out.bel).mono ?_
        rintro e v2 ⟨rfl, hv⟩
        have HG2 := Lib.hid (HG1.out.on hv)
        clear hv k0 r0 r1 r2 r3 HG1
        have k0 : v2.cell? ⟨w.heap.size, 0, none⟩ = some (.slice A es.length c) := HG2.out.b1.cell 0
        obtain ⟨r0, r1, r2, r3⟩ : v2.cell? ⟨w.heap.size + 1, 0, none⟩ = some (.slice x.A x.r.cs.length x.c) ∧ v2.cell? ⟨w.heap.size + 1, 1, none⟩ = some (.bool x.r.wrap) ∧ v2.cell? ⟨w.heap.size + 1, 2, none⟩ = some (.int .i64 x.r.dir) ∧ v2.cell? ⟨w.heap.size + 1, 3, none⟩ = some (.bool x.r.ex) := ⟨HG2.out.b2.cell 0, HG2.out.b2.cell 1, HG2.out.b2.cell 2, HG2.out.b2.cell 3⟩
        have f0 : v2.frozen? ⟨w.heap.size + 2, 0, none⟩ = false := HG2.out.b3.free 0
        have j0 : v2.cell? ⟨w.heap.size + 2, 0, none⟩ = some (.slice none 0 0) := HG2.out.b3.cell 0
        go_wp2_with fail
        have hf := HG2.out.fin A es.length c
        refine bodyPost_ret (ret9_g rfl A es.length c _ _ (w.heap.size + 2) 26 rfl hf.1) rfl ⟨A, c, es, rfl, hf.2.2 _ _ _ HG2.out.inr, HU.out.symm, hf.2.1⟩
      | true =>
        have HS1 := Lib.hid (of_decide_eq_true hs1)
        rw [hs1] at HSR
        clear hs1
        cases hg1 : decide (SaneG (rws es)) with
        | false =>
          have HU := Lib.hid (HNOT.out (fun h => of_decide_eq_false hg1 h.1))
          rw [hg1] at HSG
          clear hg1 HNOT HYES
          go_enter Try.func13, Try.ntmps13
          go_upto_region 1 with fail
          generalize ((w.alloc (.cells #[.slice A es.length c] 26)).alloc (.cells #[.slice x.A x.r.cs.length x.c, .bool x.r.wrap, .int .i64 x.r.dir, .bool x.r.ex] 35)).alloc (.cells #[.slice none 0 0] 26) = W at *
          have k0 : W.cell? ⟨w.heap.size, 0, none⟩ = some (.slice A es.length c) := HG.out.b1.cell 0
          obtain ⟨r0, r1, r2, r3⟩ : W.cell? ⟨w.heap.size + 1, 0, none⟩ = some (.slice x.A x.r.cs.length x.c) ∧ W.cell? ⟨w.heap.size + 1, 1, none⟩ = some (.bool x.r.wrap) ∧ W.cell? ⟨w.heap.size + 1, 2, none⟩ = some (.int .i64 x.r.dir) ∧ W.cell? ⟨w.heap.size + 1, 3, none⟩ = some (.bool x.r.ex) := ⟨HG.out.b2.cell 0, HG.out.b2.cell 1, HG.out.b2.cell 2, HG.out.b2.cell 3⟩
          go_wp2_with fail
          refine (HWE.out _ HG.out.bel).mono ?_
          rintro e v1 ⟨rfl, hv⟩
          have HG1 := Lib.hid (HG.out.on hv)
          clear hv k0 r0 r1 r2 r3 HG
          have k0 : v1.cell? ⟨w.heap.size, 0, none⟩ = some (.slice A es.length c) := HG1.out.b1.cell 0
          obtain ⟨r0, r1, r2, r3⟩ : v1.cell? ⟨w.heap.size + 1, 0, none⟩ = some (.slice x.A x.r.cs.length x.c) ∧ v1.cell? ⟨w.heap.size + 1, 1, none⟩ = some (.bool x.r.wrap) ∧ v1.cell? ⟨w.heap.size + 1, 2, none⟩ = some (.int .i64 x.r.dir) ∧ v1.cell? ⟨w.heap.size + 1, 3, none⟩ = some (.bool x.r.ex) := ⟨HG1.out.b2.cell 0, HG1.out.b2.cell 1, HG1.out.b2.cell 2, HG1.out.b2.cell 3⟩
          go_wp2_with fail
          refine (HSR.out _ HG1.out.bel).mono ?_
          rintro e v2 ⟨rfl, hv⟩
          have HG2 := Lib.hid (HG1.out.on hv)
          clear hv k0 r0 r1 r2 r3 HG1
          have k0 : v2.cell? ⟨w.heap.size, 0, none⟩ = some (.slice A es.length c) := HG2.out.b1.cell 0
          obtain ⟨r0, r1, r2, r3⟩ : v2.cell? ⟨w.heap.size + 1, 0, none⟩ = some (.slice x.A x.r.cs.length x.c) ∧ v2.cell? ⟨w.heap.size + 1, 1, none⟩ = some (.bool x.r.wrap) ∧ v2.cell? ⟨w.heap.size + 1, 2, none⟩ = some (.int .i64 x.r.dir) ∧ v2.cell? ⟨w.heap.size + 1, 3, none⟩ = some (.bool x.r.ex) := ⟨HG2.out.b2.cell 0, HG2.out.b2.cell 1, HG2.out.b2.cell 2, HG2.out.b2.cell 3⟩
          go_wp2_with fail
          refine (HSG.out _ HG2.out.bel).mono ?_
          rintro e v3 ⟨rfl, hv⟩
          have HG3 := Lib.hid (HG2.out.on hv)
          clear hv k0 r0 r1 r2 r3 HG2
          have k0 : v3.cell? ⟨w.heap.size, 0, none⟩ = some (.slice A es.length c) := HG3.out.b1.cell 0
          obtain ⟨r0, r1, r2, r3⟩ : v3.cell? ⟨w.heap.size + 1, 0, none⟩ = some (.slice x.A x.r.cs.length x.c) ∧ v3.cell? ⟨w.heap.size + 1, 1, none⟩ = some (.bool x.r.wrap) ∧ v3.cell? ⟨w.heap.size + 1, 2, none⟩ = some (.int .i64 x.r.dir) ∧ v3.cell? ⟨w.heap.size + 1, 3, none⟩ = some (.bool x.r.ex) := ⟨HG3.out.b2.cell 0, HG3.out.b2.cell 1, HG3.out.b2.cell 2, HG3.out.b2.cell 3⟩
          have f0 : v3.frozen? ⟨w.heap.size + 2, 0, none⟩ = false := HG3.out.b3.free 0
          have j0 : v3.cell? ⟨w.heap.size + 2, 0, none⟩ = some (.slice none 0 0) := HG3.out.b3.cell 0
          go_wp2_with fail
          have hf := HG3.out.fin A es.length c
          refine bodyPost_ret (ret9_g rfl A es.length c _ _ (w.heap.size + 2) 26 rfl hf.1) rfl ⟨A, c, es, rfl, hf.2.2 _ _ _ HG3.out.inr, HU.out.symm, hf.2.1⟩
        | true =>
          have hgs := of_decide_eq_true hg1
          have HU : Hid (U = (rws es).set Y x.r) := Lib.hid (HYES.out ⟨hgs, by omega, by rw [rws_length]; omega, HS1.out, HW1.out⟩)
          have hl3 : es.length ≤ 1000 := by have := hgs.1.2; rw [rws_length] at this; exact this
          have hcl := fun V (hV : Below w.heap.size w V) => clone9_c A c es es.length rfl (by omega) V (HIN.out.1.on hV).rows
          have HCL := Lib.hid hcl
          rw [hg1] at HSG
          clear hg1 HNOT HYES hgs hcl hl3
          go_enter Try.func13, Try.ntmps13
          go_upto_region 1 with fail
          generalize ((w.alloc (.cells #[.slice A es.length c] 26)).alloc (.cells #[.slice x.A x.r.cs.length x.c, .bool x.r.wrap, .int .i64 x.r.dir, .bool x.r.ex] 35)).alloc (.cells #[.slice none 0 0] 26) = W at *
          have k0 : W.cell? ⟨w.heap.size, 0, none⟩ = some (.slice A es.length c) := HG.out.b1.cell 0
          obtain ⟨r0, r1, r2, r3⟩ : W.cell? ⟨w.heap.size + 1, 0, none⟩ = some (.slice x.A x.r.cs.length x.c) ∧ W.cell? ⟨w.heap.size + 1, 1, none⟩ = some (.bool x.r.wrap) ∧ W.cell? ⟨w.heap.size + 1, 2, none⟩ = some (.int .i64 x.r.dir) ∧ W.cell? ⟨w.heap.size + 1, 3, none⟩ = some (.bool x.r.ex) := ⟨HG.out.b2.cell 0, HG.out.b2.cell 1, HG.out.b2.cell 2, HG.out.b2.cell 3⟩
          go_wp2_with fail
          refine (HWE.out _ HG.out.bel).mono ?_
          rintro e v1 ⟨rfl, hv⟩
          have HG1 := Lib.hid (HG.out.on hv)
          clear hv k0 r0 r1 r2 r3 HG
          have k0 : v1.cell? ⟨w.heap.size, 0, none⟩ = some (.slice A es.length c) := HG1.out.b1.cell 0
          obtain ⟨r0, r1, r2, r3⟩ : v1.cell? ⟨w.heap.size + 1, 0, none⟩ = some (.slice x.A x.r.cs.length x.c) ∧ v1.cell? ⟨w.heap.size + 1, 1, none⟩ = some (.bool x.r.wrap) ∧ v1.cell? ⟨w.heap.size + 1, 2, none⟩ = some (.int .i64 x.r.dir) ∧ v1.cell? ⟨w.heap.size + 1, 3, none⟩ = some (.bool x.r.ex) := ⟨HG1.out.b2.cell 0, HG1.out.b2.cell 1, HG1.out.b2.cell 2, HG1.out.b2.cell 3⟩
          go_wp2_with fail
          refine (HSR.out _ HG1.out.bel).mono ?_
          rintro e v2 ⟨rfl, hv⟩
          have HG2 := Lib.hid (HG1.out.on hv)
          clear hv k0 r0 r1 r2 r3 HG1
          have k0 : v2.cell? ⟨w.heap.size, 0, none⟩ = some (.slice A es.length c) := HG2.out.b1.cell 0
          obtain ⟨r0, r1, r2, r3⟩ : v2.cell? ⟨w.heap.size + 1, 0, none⟩ = some (.slice x.A x.r.cs.length x.c) ∧ v2.cell? ⟨w.heap.size + 1, 1, none⟩ = some (.bool x.r.wrap) ∧ v2.cell? ⟨w.heap.size + 1, 2, none⟩ = some (.int .i64 x.r.dir) ∧ v2.cell? ⟨w.heap.size + 1, 3, none⟩ = some (.bool x.r.ex) := ⟨HG2.out.b2.cell 0, HG2.out.b2.cell 1, HG2.out.b2.cell 2, HG2.out.b2.cell 3⟩
          go_wp2_with fail
          refine (HSG.out _ HG2.out.bel).mono ?_
          rintro e v3 ⟨rfl, hv⟩
          have HG3 := Lib.hid (HG2.out.on hv)
          clear hv k0 r0 r1 r2 r3 HG2
          have k0 : v3.cell? ⟨w.heap.size, 0, none⟩ = some (.slice A es.length c) := HG3.out.b1.cell 0
          obtain ⟨r0, r1, r2, r3⟩ : v3.cell? ⟨w.heap.size + 1, 0, none⟩ = some (.slice x.A x.r.cs.length x.c) ∧ v3.cell? ⟨w.heap.size + 1, 1, none⟩ = some (.bool x.r.wrap) ∧ v3.cell? ⟨w.heap.size + 1, 2, none⟩ = some (.int .i64 x.r.dir) ∧ v3.cell? ⟨w.heap.size + 1, 3, none⟩ = some (.bool x.r.ex) := ⟨HG3.out.b2.cell 0, HG3.out.b2.cell 1, HG3.out.b2.cell 2, HG3.out.b2.cell 3⟩
          go_wp2_with fail
          refine (HCL.out _ HG3.out.bel).mono ?_
          rintro e v4 ⟨C, d, rfl, hC, hv4⟩
          obtain ⟨g, rfl, hg, hgv, -⟩ := hC.at_ (by intro h0; rw [h0] at hY; simp at hY)
          have hlt3 := HG3.out.b3.lt
          have hx3 := HIN.out.2.on HG3.out.bel
          have HO : Hid (OwnH v4 v3.heap.size g d es) := Lib.hid ⟨hC, fun e he => ⟨(HG3.out.inr.els e he).on hv4, FarG.old (HG3.out.inr.els e he) hg⟩⟩
          have HX : Hid (InC v4 x.A x.c x.r.cs ∧ FarG g x) := Lib.hid ⟨hx3.on hv4, FarG.old hx3 hg⟩
          have HG4 := Lib.hid (HG3.out.on hv4)
          have hne : w.heap.size + 2 < g := by omega
          have hd := hC.cap.1
          clear hv4 hC hg hgv hlt3 hx3 HG3 k0 r0 r1 r2 r3
          have k0 : v4.cell? ⟨w.heap.size, 0, none⟩ = some (.slice A es.length c) := HG4.out.b1.cell 0
          obtain ⟨r0, r1, r2, r3⟩ : v4.cell? ⟨w.heap.size + 1, 0, none⟩ = some (.slice x.A x.r.cs.length x.c) ∧ v4.cell? ⟨w.heap.size + 1, 1, none⟩ = some (.bool x.r.wrap) ∧ v4.cell? ⟨w.heap.size + 1, 2, none⟩ = some (.int .i64 x.r.dir) ∧ v4.cell? ⟨w.heap.size + 1, 3, none⟩ = some (.bool x.r.ex) := ⟨HG4.out.b2.cell 0, HG4.out.b2.cell 1, HG4.out.b2.cell 2, HG4.out.b2.cell 3⟩
          have f0 : v4.frozen? ⟨w.heap.size + 2, 0, none⟩ = false := HG4.out.b3.free 0
          have j0 : v4.cell? ⟨w.heap.size + 2, 0, none⟩ = some (.slice none 0 0) := HG4.out.b3.cell 0
          obtain ⟨y0, hy0⟩ : ∃ y0, es[Y]? = some y0 := ⟨_, List.getElem?_eq_getElem hY⟩
          obtain ⟨⟨g0, g1, g2, g3⟩, m0, m1, m2, m3⟩ := HO.out.cells hy0
          have HPUT := Lib.hid (HO.out.put hY HX.out.1 HX.out.2)
          have HB3 := Lib.hid (putG_box (k := Y) (x := x) HG4.out.b3 (show w.heap.size + 2 ≠ g by omega))
          have HBL := Lib.hid (putG_below (k := Y) (x := x) HG4.out.bel (show w.heap.size ≤ g by omega))
          clear hy0
          go_wp2_with fail
          refine bodyPost_ret (ret9_g rfl (some ⟨g, 0, none⟩) es.length d _ _ (w.heap.size + 2) 26 rfl (HB3.out.set_ 0 (.slice (some ⟨g, 0, none⟩) es.length d))) rfl ⟨some ⟨g, 0, none⟩, d, es.set Y x, by rw [List.length_set], HPUT.out.in_.far1 HB3.out (by simp) 0 _, ?_, HBL.out.setCell (p := ⟨w.heap.size + 2, 0, none⟩) (by show w.heap.size ≤ w.heap.size + 2; omega) _⟩
          rw [rws_set, HU.out]
set_option maxRecDepth 100000 in
set_option maxHeartbeats 1000000 in
theorem clear9_c : Clear9C := by
  intro A c es a b p w hin hok ha hb hp
  rw [show pnV p = .agg #[.int .i64 p.fg, .int .i64 p.bg, .int .i64 p.fl] from rfl]
  have hG := Gd3.new 31 #[.int .i64 p.fg, .int .i64 p.bg, .int .i64 p.fl] hin
  have hmax := hin.rows.max
  have hcap := hin.rows.cap
  unfold maxLen at hmax
  have hmy := fun V (hV : Below w.heap.size w V) => may9_c A c es p V (hin.on hV) hok hp
  have hwa := fun V => within9_c a (es.length : Int) V ha (by unfold I64; omega)
  have hwb := fun V => within9_c b (es.length : Int) V hb (by unfold I64; omega)
  have hfit := clearL_fit (rws es) a b (newR (widthG (rws es)) p)
  rw [rws_length] at hfit
  obtain ⟨F, hF, hF1⟩ : ∃ F : Nat, max 0 (min a (es.length : Int)) = (F : Int) ∧ F ≤ es.length := ⟨(max 0 (min a (es.length : Int))).toNat, by omega, by omega⟩
  obtain ⟨T, hT, hT1⟩ : ∃ T : Nat, max 0 (min b (es.length : Int)) = (T : Int) ∧ T ≤ es.length := ⟨(max 0 (min b (es.length : Int))).toNat, by omega, by omega⟩
  rw [hF, hT] at hfit
  rw [hF] at hwa
  rw [hT] at hwb
  have HNOT : Hid (¬ (F < T ∧ SaneN p ∧ SaneG (rws es)) → clearG (rws es) a b p = rws es) := Lib.hid fun h => by
    unfold clearG
    split
    · rename_i hq
      rw [hfit]
      exact clearL_none (by have : ¬ F < T := fun k => h ⟨k, hq.2, hq.1⟩; omega)
    · rfl
  have HYES : Hid (SaneN p → SaneG (rws es) → clearG (rws es) a b p = clearL (rws es) F T (newR (widthG (rws es)) p)) := Lib.hid fun h1 h2 => by
    unfold clearG
    rw [if_pos ⟨h2, h1⟩, hfit]
  generalize clearG (rws es) a b p = U at *
  have HG := Lib.hid hG
  have HMY := Lib.hid hmy
  have HWA := Lib.hid hwa
  have HWB := Lib.hid hwb
  have HIN := Lib.hid (And.intro hin (And.intro hok hp))
  clear hG hmy hwa hwb hin hok ha hb hp hF hT hfit
  go_enter Try.func15, Try.ntmps15
  go_upto_region 1 with fail
  generalize ((w.alloc (.cells #[.slice A es.length c] 26)).alloc (.cells #[.int .i64 p.fg, .int .i64 p.bg, .int .i64 p.fl] 31)).alloc (.cells #[.slice none 0 0] 26) = W at *
  have hsz : w.heap.size + 2 < W.heap.size := HG.out.b3.lt
  have m0 := Ext.cell (w := W) (B := W.heap.size) (p := ⟨w.heap.size, 0, none⟩) (by show w.heap.size < W.heap.size; omega) (HG.out.b1.cell 0)
  refine region_plan [([0, 1, 2, 3, 5, 6, 7, 8], [4, 9]), ([10, 11], [])] (fun w' => ∃ u : Ext W W.heap.size, w' = u.val) (by kernel_rfl) (by kernel_rfl) (fun _ _ _ _ _ h => h) ⟨⟨_, (Below.refl _ _).drew⟩, rfl⟩ ?_
  simp only [wpPlan, sel, List.take_succ_cons, List.take_zero, List.drop_succ_cons, List.drop_zero, List.cons_append, List.nil_append]
  repeat (go_big_quiet_step (fail))
  refine wpQuiet_nil ?_
  unfold wpChain
  go_wp2_with fail
  refine (HWA.out _).mono ?_
  rintro e v1 ⟨rfl, rfl⟩
  go_wp2_with fail
  refine ⟨⟨⟨_, (Below.refl _ _).drew⟩, rfl⟩, ?_⟩
  unfold wpChain
  go_wp2_with fail
  refine (HWB.out _).mono ?_
  rintro e v1 ⟨rfl, rfl⟩
  go_wp2_with fail
  refine ⟨⟨⟨_, (Below.refl _ _).drew⟩, rfl⟩, ?_⟩
  unfold wpChain
  repeat (go_big_quiet_step (fail))
  refine wpQuiet_nil ?_
  unfold wpChain
  have HG0 : Hid (Gd3 w W.drew A c es 31 #[.int .i64 p.fg, .int .i64 p.bg, .int .i64 p.fl]) := Lib.hid (HG.out.on (Below.refl _ _).drew)
  clear m0 HWA HWB hsz
  have f0 : W.frozen? ⟨w.heap.size + 2, 0, none⟩ = false := HG.out.b3.free 0
  have j0 : W.cell? ⟨w.heap.size + 2, 0, none⟩ = some (.slice none 0 0) := HG.out.b3.cell 0
  have k0 : W.cell? ⟨w.heap.size, 0, none⟩ = some (.slice A es.length c) := HG.out.b1.cell 0
  obtain ⟨p0, p1, p2⟩ : W.cell? ⟨w.heap.size + 1, 0, none⟩ = some (.int .i64 p.fg) ∧ W.cell? ⟨w.heap.size + 1, 1, none⟩ = some (.int .i64 p.bg) ∧ W.cell? ⟨w.heap.size + 1, 2, none⟩ = some (.int .i64 p.fl) := ⟨HG.out.b2.cell 0, HG.out.b2.cell 1, HG.out.b2.cell 2⟩
  by_cases hFT : F < T
  · have z0 : ¬ (F : Int) ≥ (T : Int) := by omega
    cases hs1 : decide (SaneN p ∧ SaneG (rws es)) with
    | false =>
      have HU := Lib.hid (HNOT.out (fun q => of_decide_eq_false hs1 q.2))
      rw [hs1] at HMY
      clear hs1 HNOT HYES
      go_wp2_with fail
      refine (HMY.out _ HG0.out.bel).mono ?_
      rintro e v1 ⟨rfl, hv1⟩
      have HG1 := Lib.hid (HG0.out.on hv1)
      clear hv1 k0 p0 p1 p2 f0 j0 HG0 HG
      have f0 : v1.frozen? ⟨w.heap.size + 2, 0, none⟩ = false := HG1.out.b3.free 0
      have j0 : v1.cell? ⟨w.heap.size + 2, 0, none⟩ = some (.slice none 0 0) := HG1.out.b3.cell 0
      have k0 : v1.cell? ⟨w.heap.size, 0, none⟩ = some (.slice A es.length c) := HG1.out.b1.cell 0
      go_wp2_with fail
      have hf := HG1.out.fin A es.length c
      refine bodyPost_ret (ret9_g rfl A es.length c _ _ (w.heap.size + 2) 26 rfl hf.1) rfl ⟨A, c, es, rfl, hf.2.2 _ _ _ HG1.out.inr, HU.out.symm, hf.2.1⟩
    | true =>
      have HS1 := Lib.hid (of_decide_eq_true hs1)
      rw [hs1] at HMY
      have hl3 : es.length ≤ 1000 := by have := HS1.out.2.1.2; rw [rws_length] at this; exact this
      have hU : ∀ l, (∀ i, l[i]? = movAt (rws es) F T ((T : Int) - F) (newR (widthG (rws es)) p) i) → l = U := fun l hl => by rw [HYES.out HS1.out.1 HS1.out.2]; exact clearL_mov (by omega) (by rw [rws_length]; omega) hl
      have hmv := fun V (hV : Below w.heap.size w V) => moved9_c A c es F T (T - F) ((T : Int) - F) p V (HIN.out.1.on hV) HS1.out.2 (by omega) (by omega) (by omega) (by omega) HIN.out.2.2
      have HFIN := Lib.hid hU
      have HMV := Lib.hid hmv
      clear hs1 HNOT HYES hU hmv
      go_wp2_with fail
      refine (HMY.out _ HG0.out.bel).mono ?_
      rintro e v1 ⟨rfl, hv1⟩
      have HG1 := Lib.hid (HG0.out.on hv1)
      clear hv1 k0 p0 p1 p2 f0 j0 HG0 HG
      have k0 : v1.cell? ⟨w.heap.size, 0, none⟩ = some (.slice A es.length c) := HG1.out.b1.cell 0
      obtain ⟨p0, p1, p2⟩ : v1.cell? ⟨w.heap.size + 1, 0, none⟩ = some (.int .i64 p.fg) ∧ v1.cell? ⟨w.heap.size + 1, 1, none⟩ = some (.int .i64 p.bg) ∧ v1.cell? ⟨w.heap.size + 1, 2, none⟩ = some (.int .i64 p.fl) := ⟨HG1.out.b2.cell 0, HG1.out.b2.cell 1, HG1.out.b2.cell 2⟩
      go_wp2_with fail
      refine (HMV.out _ HG1.out.bel).mono ?_
      rintro e v2 ⟨A1, c1, e1, rfl, hI1, hr1, hv2, -, -⟩
      have HG2 := Lib.hid (HG1.out.on hv2)
      have HI1 := Lib.hid (And.intro hI1 hr1)
      clear hv2 hI1 hr1 k0 p0 p1 p2 HG1
      have f0 : v2.frozen? ⟨w.heap.size + 2, 0, none⟩ = false := HG2.out.b3.free 0
      have j0 : v2.cell? ⟨w.heap.size + 2, 0, none⟩ = some (.slice none 0 0) := HG2.out.b3.cell 0
      go_wp2_with fail
      have hf := HG2.out.fin A1 e1.length c1
      refine bodyPost_ret (ret9_g rfl A1 e1.length c1 _ _ (w.heap.size + 2) 26 rfl hf.1) rfl ⟨A1, c1, e1, rfl, hf.2.2 _ _ _ HI1.out.1, HFIN.out _ HI1.out.2, hf.2.1⟩
  · have z0 : (F : Int) ≥ (T : Int) := by omega
    have HU := Lib.hid (HNOT.out (fun q => hFT q.1))
    clear HNOT HYES
    go_wp2_with fail
    have hf := HG0.out.fin A es.length c
    refine bodyPost_ret (ret9_g rfl A es.length c _ _ (w.heap.size + 2) 26 rfl hf.1) rfl ⟨A, c, es, rfl, hf.2.2 _ _ _ HG0.out.inr, HU.out.symm, hf.2.1⟩
end Go.Proofs.Ytcadbapccdclaaa
