/- Next to a range's ends: of a table that may be each row's ends have its number, and those next to them another one, or the next row's. -/
import Derived.Test.YtgmcpmhpafcihaaWalk01d
import Derived.Deep.DeepCutAuto
namespace Go.Proofs.Ytgmcpmhpafcihaa
open Go Go.RowKit
set_option linter.unusedVariables false
set_option linter.unusedSimpArgs false

theorem and_ffff (k : Int) : ∃ j : Nat, j ≤ 65535 ∧ bits .and .i64 k 65535 = (j : Int) := by
  refine ⟨(BitVec.ofInt 64 k &&& BitVec.ofInt 64 65535).toNat, ?_, ?_⟩
  · rw [BitVec.toNat_and]
    exact Nat.and_le_right
  · have hle : (BitVec.ofInt 64 k &&& BitVec.ofInt 64 65535).toNat ≤ 65535 := by
      rw [BitVec.toNat_and]; exact Nat.and_le_right
    show IntKind.i64.wrap ((BitVec.ofInt 64 k &&& BitVec.ofInt 64 65535).toNat : Int) = _
    rw [IntKind.wrap_i64]
    omega
theorem pick_index (k : Int) (n : Nat) (hn : 0 < n) : ∃ i : Nat, i < n ∧ (bits .and .i64 k 65535).tmod (n : Int) = (i : Int) := by
  obtain ⟨j, _, hj⟩ := and_ffff k
  refine ⟨j % n, Nat.mod_lt _ hn, ?_⟩
  rw [hj, Int.tmod_eq_emod_of_nonneg (by omega)]
  simp

theorem Tab.same {w : World} {B b o : Nat} {l : List R3} (h : Tab w B (some ⟨b, o, none⟩) l) {k : Nat} {x : R3} (hx : l[k]? = some x) : At3 w b o k x := by
  obtain ⟨b', o', e, _, hc⟩ := h.at_ hx
  injection e with e; injection e with e1 e2; subst e1; subst e2
  exact hc

/-- What the law's world holds when its rows are at hand. -/
structure EC (w W : World) (B b o : Nat) (A4 : Option Addr) (c4 : Nat) (l : List R3) (x : R3) : Prop where
  bx : Box W (B + 1) 40 #[.int .i64 x.lo, .int .i64 x.hi, .int .i64 x.v]
  bt : Box W B 27 #[.slice A4 l.length c4]
  bel : Below w.heap.size w W
  tl : Tab W w.heap.size (some ⟨b, o, none⟩) l
  t5 : Tab W W.heap.size A4 l
theorem EC.drewN {w W : World} {B b o : Nat} {A4 : Option Addr} {c4 : Nat} {l : List R3} {x : R3} (h : EC w W B b o A4 c4 l x) (n : Nat) : EC w (W.drewN n) B b o A4 c4 l x :=
  ⟨h.bx, h.bt, below_drewN h.bel n, h.tl, h.t5⟩

set_option maxRecDepth 100000 in
set_option maxHeartbeats 2000000 in
theorem edges_c (A : Option Addr) (l : List R3) (c : Nat) (k : Int) (w : World) (hn : l.length ≤ maxLen) (h : Tab w w.heap.size A l) :
    Calls Try.prog 6 #[.slice A l.length c, .int .i64 k] w fun e w' => e = .returned (.bool true) ∧ Below w.heap.size w w' := by
  unfold maxLen at hn
  by_cases h2 : 200 < l.length
  · have hd : decide ((200 : Int) < (l.length : Int)) = true := by simp; omega
    go_enter Try.func6, Try.ntmps6
    go_wp2_with fail
    refine (awake_c w).mono ?_
    rintro e w1 ⟨rfl, hb1⟩
    go_wp2
    go_ret
    exact ⟨rfl, hb1⟩
  · have hd : decide ((200 : Int) < (l.length : Int)) = false := by simp; omega
    by_cases h0 : l.length = 0
    · have he : ((l.length : Int) == 0) = true := by rw [h0]; rfl
      clear h0
      go_enter Try.func6, Try.ntmps6
      go_wp2_with fail
      refine (awake_c w).mono ?_
      rintro e w1 ⟨rfl, hb1⟩
      go_wp2
      go_ret
      exact ⟨rfl, hb1⟩
    · have he : ((l.length : Int) == 0) = false := by simp; intro h; exact h0 (by rw [h]; rfl)
      have hpos : 0 < l.length := by omega
      clear h0
      cases hs : saneF l
      · have HS := Lib.hid hs
        clear hs
        go_enter Try.func6, Try.ntmps6
        go_wp2_with fail
        refine (awake_c w).mono ?_
        rintro e w1 ⟨rfl, hb1⟩
        go_wp2_with fail
        refine (table_c A l c w1 (by omega) ((h.below hb1).more hb1.size)).mono ?_
        rintro e w2 ⟨A2, c2, rfl, hT2, hb2⟩
        go_wp2_with fail
        refine (sane_c A2 l c2 w2 (by unfold maxLen; omega) hT2 false HS.out).mono ?_
        rintro e w3 ⟨rfl, hb3⟩
        have hbel := (hb1.trans (hb2.mono hb1.size)).trans (hb3.mono (Nat.le_trans hb1.size hb2.size))
        go_wp2
        go_ret
        exact ⟨rfl, hbel⟩
      · have HS := Lib.hid hs
        clear hs
        go_enter Try.func6, Try.ntmps6
        go_wp2_with fail
        refine (awake_c w).mono ?_
        rintro e w1 ⟨rfl, hb1⟩
        go_wp2_with fail
        refine (table_c A l c w1 (by omega) ((h.below hb1).more hb1.size)).mono ?_
        rintro e w2 ⟨A2, c2, rfl, hT2, hb2⟩
        go_wp2_with fail
        refine (sane_c A2 l c2 w2 (by unfold maxLen; omega) hT2 true HS.out).mono ?_
        rintro e w3 ⟨rfl, hb3⟩
        have hbel := (hb1.trans (hb2.mono hb1.size)).trans (hb3.mono (Nat.le_trans hb1.size hb2.size))
        clear hb1 hb2 hb3 hT2
        go_wp2_with fail
        refine (table_c A l c w3 (by omega) ((h.below hbel).more hbel.size)).mono ?_
        rintro e w4 ⟨A4, c4, rfl, hT4, hb4⟩
        have hbel4 := hbel.trans (hb4.mono hbel.size)
        clear hb4 hbel
        obtain ⟨i, hil, hie⟩ := pick_index k l.length hpos
        have hg : l[i]? = some l[i] := List.getElem?_eq_getElem hil
        generalize l[i] = x at *
        obtain ⟨b, o, rfl, hb, hr⟩ := h.at_ hg
        obtain ⟨x1, x2, x3⟩ := hr.below hbel4 hb
        have hbw : b < w4.heap.size := by have := hbel4.size; omega
        have hne : ¬ b = w4.heap.size := by omega
        go_upto_region 7 with fail
        have hbx : Box ((w4.alloc (.cells #[.slice A4 l.length c4] 27)).alloc (.cells #[.int .i64 x.lo, .int .i64 x.hi, .int .i64 x.v] 40)) (w4.heap.size + 1) 40 #[.int .i64 x.lo, .int .i64 x.hi, .int .i64 x.v] := by
          have := Box.new (w4.alloc (.cells #[.slice A4 l.length c4] 27)) 40 #[.int .i64 x.lo, .int .i64 x.hi, .int .i64 x.v]
          simpa using this
        have hbt := (Box.new w4 27 #[.slice A4 l.length c4]).alloc (.cells #[.int .i64 x.lo, .int .i64 x.hi, .int .i64 x.v] 40)
        have hbel5 := (hbel4.alloc hbel4.size (.cells #[.slice A4 l.length c4] 27)).alloc (by have := hbel4.size; simp; omega) (.cells #[.int .i64 x.lo, .int .i64 x.hi, .int .i64 x.v] 40)
        have hb45 : Below w4.heap.size w4 ((w4.alloc (.cells #[.slice A4 l.length c4] 27)).alloc (.cells #[.int .i64 x.lo, .int .i64 x.hi, .int .i64 x.v] 40)) := ((Below.refl _ _).alloc (Nat.le_refl _) _).alloc (by simp) _
        have hT5 := (hT4.below hb45).more hb45.size
        generalize (w4.alloc (.cells #[.slice A4 l.length c4] 27)).alloc (.cells #[.int .i64 x.lo, .int .i64 x.hi, .int .i64 x.v] 40) = W at *
        generalize w4.heap.size = B at *
        clear x1 x2 x3 hbw hne hT4 hbel4 hb45
        have hC : EC w W B b o A4 c4 l x := ⟨hbx, hbt, hbel5, h.below hbel5, hT5⟩
        obtain ⟨hs1, hri, hap⟩ := sane_parts HS.out
        obtain ⟨ho1, ho2, ho3, ho4, ho5⟩ := rise_ok hri hg
        have HG := Lib.hid hg
        have HRI := Lib.hid hri
        have HAP := Lib.hid hap
        clear hg h hr hT5 hbel5 hie hbx hbt hri hap
        have hx1 : W.cell? ⟨B + 1, 0, none⟩ = some (.int .i64 x.lo) := hC.bx.cell 0
        go_upto_region 8 with fail
        go_cut [51] (fun s51 wx => s51 = .bool (befB l i x) ∧ ∃ nq, wx = W.drewN nq)
        case first =>
          by_cases hi0 : i = 0
          · have hd0 : decide (0 < i) = false := by simp; omega
            have hbf : befB l i x = false := by simp [befB, hi0]
            have HF := Lib.hid hbf
            clear hi0 hbf
            go_quiet (fail)
            go_wp2_with fail
            go_meet
            exact ⟨by rw [HF.out], nq, rfl⟩
          · obtain ⟨j, hj⟩ : ∃ j, j = i - 1 := ⟨_, rfl⟩
            have hjl : j < l.length := by omega
            have hgj : l[j]? = some l[j] := List.getElem?_eq_getElem hjl
            generalize l[j] = y at *
            obtain ⟨y1, y2, y3⟩ := hC.tl.same hgj
            have hbf : befB l i x = (y.hi == x.lo - 1) := by
              unfold befB
              rw [← hj, hgj]
              simp; omega
            have HF := Lib.hid hbf
            have hd0 : decide (0 < i) = true := by simp; omega
            have hd1 : IntKind.i64.wrap ((i : Int) - 1) = (j : Int) := by rw [IntKind.wrap_i64]; omega
            have hj0 : (0 : Int) ≤ (j : Int) := by omega
            have hjl' : (j : Int) < (l.length : Int) := by omega
            clear hbf hgj hj hi0
            go_quiet (fail)
            go_wp2_with fail
            go_meet
            exact ⟨by rw [HF.out], nq, rfl⟩
        case rest =>
          obtain ⟨rfl, nq, rfl⟩ := hcut
          replace hC := hC.drewN nq
          clear hx1
          generalize W.drewN nq = W at *
          go_upto_if 51 with fail
          go_cut [9] (fun s9 wx => s9 = .int .i64 (getF l (x.lo - 1)) ∧ wx = W ∧ getF l (x.lo - 1) ≠ x.v)
          case first =>
            cases hbe : befB l i x
            · have h0 := bef_no HRI.out HG.out hbe
              have H0 := Lib.hid h0
              clear h0 hbe
              go_wp2_with fail
              go_meet
              exact ⟨by rw [H0.out], rfl, by rw [H0.out]; omega⟩
            · obtain ⟨y, hi0, hgj, h0, h1⟩ := bef_yes HRI.out HAP.out HG.out hbe
              obtain ⟨j, hj⟩ : ∃ j, j = i - 1 := ⟨_, rfl⟩
              rw [← hj] at hgj
              obtain ⟨y1, y2, y3⟩ := hC.tl.same hgj
              have H0 := Lib.hid h0
              have hj0 : (0 : Int) ≤ (j : Int) := by omega
              have hjl' : (j : Int) < (l.length : Int) := by omega
              have hd1 : IntKind.i64.wrap ((i : Int) - 1) = (j : Int) := by rw [IntKind.wrap_i64]; omega
              have H1 := Lib.hid h1
              clear h0 hbe hgj hj h1
              go_wp2_with fail
              go_meet
              exact ⟨by rw [H0.out], rfl, by rw [H0.out]; exact H1.out⟩
          case rest =>
            obtain ⟨rfl, rfl, hne⟩ := hcut
            have hlen0 : (1 : Int) ≤ (l.length : Int) := by omega
            have hx2 : wc.cell? ⟨B + 1, 1, none⟩ = some (.int .i64 x.hi) := hC.bx.cell 1
            go_upto_region 11 with fail
            go_cut [74] (fun s74 wx => s74 = .bool (aftB l i x) ∧ ∃ nq, wx = wc.drewN nq)
            case first =>
              by_cases hi1 : i + 1 < l.length
              · have hd0 : decide ((i : Int) < (l.length : Int) - 1) = true := by simp; omega
                have hgj : l[i + 1]? = some l[i + 1] := List.getElem?_eq_getElem hi1
                generalize l[i + 1] = y at *
                obtain ⟨y1, y2, y3⟩ := hC.tl.same hgj
                have hbf : aftB l i x = (y.lo == x.hi + 1) := by
                  unfold aftB
                  rw [hgj]
                have HF := Lib.hid hbf
                have hi1' : ((i : Int) + 1) < (l.length : Int) := by omega
                have hi0' : (0 : Int) ≤ (i : Int) := by omega
                clear hbf hgj
                go_quiet (fail)
                go_wp2_with fail
                go_meet
                exact ⟨by rw [HF.out], nq, rfl⟩
              · have hd0 : decide ((i : Int) < (l.length : Int) - 1) = false := by simp; omega
                have hbf : aftB l i x = false := by
                  unfold aftB
                  rw [List.getElem?_eq_none (by omega)]
                have HF := Lib.hid hbf
                clear hbf
                go_quiet (fail)
                go_wp2_with fail
                go_meet
                exact ⟨by rw [HF.out], nq, rfl⟩
            case rest =>
              obtain ⟨rfl, nq, rfl⟩ := hcut
              replace hC := hC.drewN nq
              clear hx2
              generalize wc.drewN nq = W at *
              go_upto_if 74 with fail
              go_cut [10] (fun s10 wx => s10 = .int .i64 (getF l (x.hi + 1)) ∧ wx = W ∧ getF l (x.hi + 1) ≠ x.v)
              case first =>
                cases hbe : aftB l i x
                · have h0 := aft_no HRI.out HG.out hbe
                  have H0 := Lib.hid h0
                  clear h0 hbe
                  go_wp2_with fail
                  go_meet
                  exact ⟨by rw [H0.out], rfl, by rw [H0.out]; omega⟩
                · obtain ⟨y, hgj, h0, h1⟩ := aft_yes HRI.out HAP.out HG.out hbe
                  obtain ⟨y1, y2, y3⟩ := hC.tl.same hgj
                  have hi1 : i + 1 < l.length := (List.getElem?_eq_some_iff.1 hgj).1
                  have H0 := Lib.hid h0
                  have hi1' : ((i : Int) + 1) < (l.length : Int) := by omega
                  have hi0' : (0 : Int) ≤ (i : Int) := by omega
                  have H1 := Lib.hid h1
                  clear h0 hbe hgj h1
                  go_wp2_with fail
                  go_meet
                  exact ⟨by rw [H0.out], rfl, by rw [H0.out]; exact H1.out⟩
              case rest =>
                obtain ⟨rfl, rfl, hna⟩ := hcut
                have g1 : (getF l x.lo == x.v) = true := beq_iff_eq.2 (getF_at HRI.out HG.out (inB_iff.2 ⟨Int.le_refl _, ho2⟩))
                have g2 : (getF l x.hi == x.v) = true := beq_iff_eq.2 (getF_at HRI.out HG.out (inB_iff.2 ⟨ho2, Int.le_refl _⟩))
                have g5 : (getF l (x.lo - 1) != x.v) = true := by rw [bne_iff_ne]; exact hne
                have g6 : (getF l (x.hi + 1) != x.v) = true := by rw [bne_iff_ne]; exact hna
                clear hne hna
                go_wp2_with fail
                have hBl := hC.bt.lt
                have hBl1 := hC.bx.lt
                have e1 := Ext.cell (B := wc.heap.size) (w := wc) (p := ⟨B, 0, none⟩) hBl (hC.bt.cell 0)
                have e2 := Ext.cell (B := wc.heap.size) (w := wc) (p := ⟨B + 1, 0, none⟩) hBl1 (hC.bx.cell 0)
                have e3 := Ext.cell (B := wc.heap.size) (w := wc) (p := ⟨B + 1, 1, none⟩) hBl1 (hC.bx.cell 1)
                have e4 := Ext.cell (B := wc.heap.size) (w := wc) (p := ⟨B + 1, 2, none⟩) hBl1 (hC.bx.cell 2)
                have HT : Hid (∀ u : Ext wc wc.heap.size, Tab u.val u.val.heap.size A4 l) := fun u => (hC.t5.below u.below).more u.below.size
                refine region_ext wc.heap.size (by kernel_rfl) (by kernel_rfl) ?_
                repeat (go_big_quiet_step ((go_at_call 16; exact Ext.call _ (get_c A4 l c4 _ _ (by unfold maxLen; omega) (HT.out _)) (Nat.le_refl _))))
                refine wpQuiet_nil ?_
                intro wf hbf
                go_wp2
                go_ret
                exact ⟨rfl, hC.bel.trans (hbf.mono hC.bel.size)⟩
end Go.Proofs.Ytgmcpmhpafcihaa
