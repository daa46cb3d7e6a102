/- Package pen: one step of a pen by parameters. -/
import Derived.Test.YtlcnlfjjglcobaaDoorPen7e
namespace Go.Proofs.YtlcnlfjjglcobaaDoor
open Go Go.RowKit
set_option linter.unusedVariables false
set_option linter.unusedSimpArgs false

theorem getC_i64 {q : List Int} (h : ∀ x ∈ q, I64 x) : I64 (getC q 0) := by
  cases q with
  | nil => show I64 0; unfold I64; omega
  | cons n t =>
    unfold getC
    dsimp only
    split
    · unfold I64; omega
    · exact h n (by simp)
theorem stepC_nil (p : Pn) (rest : List (List Int)) : stepC p [] rest = (p, rest) := by unfold stepC; rw [if_pos rfl]
theorem oneC_zero (p : Pn) (q : List Int) : oneC p q 0 = zeroN := by unfold oneC; rw [if_pos rfl]
theorem oneC_under (p : Pn) {q : List Int} (h : 1 < q.length) : oneC p q 4 = { p with fl := underC p.fl (q.getD 1 0) } := by
  unfold oneC; rw [if_neg (by omega), if_pos ⟨rfl, h⟩]
theorem TwoB.set1f {w W : World} {a b f : Int} {q : Pn} (h : TwoB w W ⟨a, b, f⟩ q) (f' : Int) : TwoB w (W.setCell ⟨w.heap.size, 2, none⟩ (.int .i64 f')) ⟨a, b, f'⟩ q := by
  have h2 := h.b1.set_ 2 (.int .i64 f')
  exact ⟨by simpa using h2, h.b2.far (by simp) _, h.bel.setCell (by simp) _⟩
theorem oneC_plain (p : Pn) (q : List Int) {n c : Int} (h0 : ¬ n = 0) (h4 : ¬ (n = 4 ∧ 1 < q.length)) (h : plainC n = (c, true)) : oneC p q n = paintC p n c := by
  rw [oneC_two p q h0 h4, h, if_pos rfl]
theorem oneC_flag (p : Pn) (q : List Int) {n c : Int} (h0 : ¬ n = 0) (h4 : ¬ (n = 4 ∧ 1 < q.length)) (h : plainC n = (c, false)) : oneC p q n = { p with fl := swC rowsT p.fl n } := by
  rw [oneC_two p q h0 h4, h, if_neg (by simp)]
set_option maxRecDepth 100000 in
set_option maxHeartbeats 4000000 in
theorem step_c7 (p : Pn) (A : Option Addr) (c : Nat) (e0 : El) (es : List El) (w : World) (hin : InP w A c (e0 :: es)) (hnum : ∀ x ∈ e0.q, I64 x) (hTog : Tog w) :
    Calls Tryd.prog 19 #[pnV p, .slice A (e0 :: es).length c] w (GivesPS (stepC p e0.q (qs es)) A c (e0 :: es) w) := by
  obtain ⟨fg, bg, fl⟩ := p
  have hT0 : TwoB w ((w.alloc (.cells #[.int .i64 fg, .int .i64 bg, .int .i64 fl] 23)).alloc (.cells #[.int .i64 0, .int .i64 0, .int .i64 0] 23)) ⟨fg, bg, fl⟩ zeroN := TwoB.new w ⟨fg, bg, fl⟩ zeroN
  have v1 : pnV ⟨fg, bg, fl⟩ = .agg #[.int .i64 fg, .int .i64 bg, .int .i64 fl] := rfl
  have hget := fun (V : World) (hV : Below w.heap.size w V) => get_c A c (e0 :: es) 0 0 V (hin.on hV)
  have hext := fun (V : World) (hV : Below w.heap.size w V) (n : Int) (own : List Int) (h : e0.q = n :: own) => ext_c ⟨fg, bg, fl⟩ A c e0 es n own V (hin.on hV) h
  rw [show getP (qs (e0 :: es)) 0 0 = getC e0.q 0 from getP_at (k := 0) rfl 0] at hget
  have hmI := getC_i64 hnum
  obtain ⟨b, o, B2, c2, hO, hall⟩ := OpenP.of hin
  have HALL := Lib.hid hall
  clear hall
  obtain ⟨X, d, q⟩ := e0
  simp only at hnum hO hget hext hmI HALL
  have hA := hO.at_
  have hcell := hO.cell
  have hs2 := hO.cut
  have hbl := hO.lt
  have hrest := hO.rest
  have hfirst := hO.first
  have HFI := Lib.hid hfirst
  subst hA
  rw [v1]
  rw [v1] at hext
  generalize hR' : GivesPS (stepC ⟨fg, bg, fl⟩ q (qs es)) (some ⟨b, o, none⟩) c (⟨X, d, q⟩ :: es) w = R
  have HG := Lib.hid hR'
  have HT := Lib.hid hT0
  have HGET := Lib.hid (And.intro hget hext)
  have HNUM := Lib.hid (And.intro hnum hmI)
  have HC := Lib.hid (And.intro hbl (And.intro hcell (And.intro hrest hfirst)))
  have hl0 : 0 < es.length + 1 := by omega
  clear hin hT0 hR' hO hbl hcell hrest hfirst hget hext hnum hmI
  simp only [List.length_cons] at HGET ⊢
  go_enter Tryd.func19, Tryd.ntmps19
  go_upto_region 1 with fail
  have hE := HT.out
  generalize (w.alloc (.cells #[.int .i64 fg, .int .i64 bg, .int .i64 fl] 23)).alloc (.cells #[.int .i64 0, .int .i64 0, .int .i64 0] 23) = W at *
  obtain ⟨hbl, hcell, hrest, hfirst⟩ := HC.out
  have hlW := hE.bel.size
  have q1 := Ext.cell (w := W) (B := W.heap.size) (p := ⟨b, o, none⟩) (by simp only; omega) ((hE.bel.cell hbl).trans hcell)
  have HE := Lib.hid (hE.on (Below.refl W.heap.size W).drew)
  have HEW := Lib.hid hE
  have HOW := Lib.hid (And.intro (hfirst.on hE.bel) (And.intro hrest (hrest.on hE.bel)))
  clear hE hbl hcell hrest hfirst HC HT
  refine region_plan [([0, 1, 2, 3, 4, 5, 6], [])] (fun w' => ∃ u : Ext W W.heap.size, w' = u.val) (by kernel_rfl) (by kernel_rfl) (fun _ _ _ _ _ h => h) ⟨⟨_, (Below.refl _ _).drew⟩, rfl⟩ ?_
  simp only [wpPlan, sel, List.take_succ_cons, List.take_zero, List.drop_succ_cons, List.drop_zero, List.cons_append, List.nil_append]
  repeat (go_big_quiet_step (fail))
  refine wpQuiet_nil ?_
  unfold wpChain
  clear q1 hs2
  by_cases hq : q = []
  · subst hq
    have HF := Lib.hid (stepC_nil ⟨fg, bg, fl⟩ (qs es))
    have hl3 : ([] : List Int).length = 0 := rfl
    obtain ⟨⟨k0, k1, k2⟩, -, ⟨m0, m1, m2⟩, ⟨f0, f1, f2⟩⟩ := HEW.out.cells
    have HE4 := Lib.hid ((HEW.out.put2 ⟨fg, bg, fl⟩).on (Below.refl _ _).drew)
    simp only at k0 k1 k2 m0 m1 m2
    go_wp2_with fail
    refine bodyPost_ret (ret_pen2 rfl ⟨fg, bg, fl⟩ _ _ (w.heap.size + 1) _ _ rfl rfl HE4.out.b2) rfl ?_
    rw [← HG.out, HF.out]
    exact ⟨B2, c2, es, rfl, HALL.out, rfl, HE4.out.bel⟩
  · have hl3 : 0 < q.length := List.length_pos_iff.2 hq
    have hl4 : ((q.length : Int) == 0) = false := beq_eq_false_iff_ne.2 (by omega)
    have hgt := HGET.out.1 W.drew HE.out.bel
    have HQ := Lib.hid hq
    clear hq
    go_wp2_with fail
    refine hgt.mono ?_
    rintro r w1 ⟨rfl, hb1⟩
    have hE1 := HE.out.on hb1
    have HE1 := Lib.hid hE1
    clear hgt hb1 hE1 HE
    obtain ⟨m, hm⟩ : ∃ m, getC q 0 = m := ⟨_, rfl⟩
    rw [hm]
    have HM := Lib.hid hm
    clear hm
    by_cases h0 : m = 0
    · subst h0
      have HF := Lib.hid (step_one ⟨fg, bg, fl⟩ (qs es) HQ.out (by rw [HM.out]; omega))
      obtain ⟨-, -, ⟨m0, m1, m2⟩, ⟨f0, f1, f2⟩⟩ := HE1.out.cells
      have HE4 := Lib.hid (HE1.out.put2 zeroN)
      go_wp2_with fail
      refine bodyPost_ret (ret_pen2 rfl zeroN _ _ (w.heap.size + 1) _ _ rfl rfl HE4.out.b2) rfl ?_
      rw [← HG.out, HF.out, HM.out, oneC_zero]
      exact ⟨B2, c2, es, rfl, HALL.out, rfl, HE4.out.bel⟩
    · have z0 : (m == 0) = false := beq_eq_false_iff_ne.2 h0
      by_cases h38 : m = 38 ∨ m = 48
      · have HF := step_ext ⟨fg, bg, fl⟩ (qs es) HQ.out (by rw [HM.out]; exact h38)
        obtain ⟨x, own, hxo⟩ := List.exists_cons_of_ne_nil HQ.out
        have hxm : x = m := by
          have := HM.out
          subst hxo
          rcases h38 with h | h
          · subst h; exact (get_first (t := own) (k := 38) (by omega)).1 this
          · subst h; exact (get_first (t := own) (k := 48) (by omega)).1 this
        subst hxm
        have hex := HGET.out.2 w1 HE1.out.bel x own hxo
        rw [HM.out, show q.tail = own from by rw [hxo]; rfl] at HF
        have HF := Lib.hid HF
        unfold GivesPS at hex
        obtain ⟨⟨k0, k1, k2⟩, -⟩ := HE1.out.cells
        simp only at k0 k1 k2
        generalize hst : extC ⟨fg, bg, fl⟩ x own (qs es) = st at *
        obtain ⟨⟨a1, a2, a3⟩, sl⟩ := st
        have v2 : pnV ⟨a1, a2, a3⟩ = .agg #[.int .i64 a1, .int .i64 a2, .int .i64 a3] := rfl
        simp only [v2] at hex
        have HX := Lib.hid hxo
        clear hst hxo z0 h0
        rcases h38 with rfl | rfl
        all_goals
          go_wp2_with fail
          refine hex.mono ?_
          rintro r w2 ⟨Y, dy, es2, rfl, hin2, hq2, hb2⟩
          have hE2 := HE1.out.on hb2
          clear hex hb2 k0 k1 k2
          obtain ⟨-, -, ⟨m0, m1, m2⟩, ⟨f0, f1, f2⟩⟩ := hE2.cells
          have HE4 := Lib.hid (hE2.put2 ⟨a1, a2, a3⟩)
          have HI4 := Lib.hid hin2
          have HQ2 := Lib.hid hq2
          clear hE2 hin2 hq2
          go_wp2_with fail
          refine bodyPost_ret (ret_pen2 rfl ⟨a1, a2, a3⟩ _ _ (w.heap.size + 1) _ _ rfl rfl HE4.out.b2) rfl ?_
          rw [← HG.out, HF.out]
          exact ⟨Y, dy, es2, rfl, HI4.out, HQ2.out, HE4.out.bel⟩
      · have HF := Lib.hid (step_one ⟨fg, bg, fl⟩ (qs es) HQ.out (by rw [HM.out]; exact h38))
        have z38 : (m == 38) = false := beq_eq_false_iff_ne.2 (by omega)
        have z48 : (m == 48) = false := beq_eq_false_iff_ne.2 (by omega)
        by_cases h4 : m = 4 ∧ 1 < q.length
        · obtain ⟨rfl, hl5⟩ := h4
          obtain ⟨b', o', hX, hb', hc'⟩ := HFI.out.rd (by rintro h; simp only at h; rw [h] at hl5; simp at hl5)
          simp only at hX hc'
          have hn1 := hc' 1 (q.getD 1 0) (by rw [List.getElem?_eq_getElem (by omega)]; simp [List.getD, List.getElem?_eq_getElem (show 1 < q.length by omega)])
          have HU := Lib.hid (oneC_under ⟨fg, bg, fl⟩ hl5)
          unfold intV at hn1
          subst hX
          generalize q.getD 1 0 = sec at *
          have hu := fun V : World => under_c fl sec V
          simp only at HU
          generalize underC fl sec = nf at *
          have hlt := HE1.out.bel.size
          have q1 := Ext.cell (w := w1) (B := w.heap.size) (p := ⟨b', o' + 1, none⟩) (by simp only; omega) ((HE1.out.bel.cell hb').trans hn1)
          obtain ⟨⟨k0, k1, k2⟩, ⟨g0, g1, g2⟩, ⟨m0, m1, m2⟩, ⟨f0, f1, f2⟩⟩ := HE1.out.cells
          simp only at k0 k1 k2 m0 m1 m2
          have l1 : (1 : Int) < (q.length : Int) := by omega
          clear hb' hc' hn1
          go_upto_region 10 with fail
          refine region_plan [([0, 2, 3, 4], [1, 5]), ([6], [7])] (fun w' => ∃ u : Ext w1 w.heap.size, w' = u.val) (by kernel_rfl) (by kernel_rfl) (fun _ _ _ _ _ h => h) ⟨⟨_, (Below.refl _ _).drew⟩, rfl⟩ ?_
          simp only [wpPlan, sel, List.take_succ_cons, List.take_zero, List.drop_succ_cons, List.drop_zero, List.cons_append, List.nil_append]
          repeat (go_big_quiet_step (fail))
          refine wpQuiet_nil ?_
          unfold wpChain
          clear q1
          go_wp2_with fail
          refine ⟨⟨⟨_, (Below.refl w.heap.size w1).drew⟩, rfl⟩, ?_⟩
          unfold wpChain
          go_wp2_with fail
          refine (hu _).mono ?_
          rintro r w' ⟨rfl, rfl⟩
          clear hu
          go_wp2_with fail
          refine ⟨⟨⟨_, (Below.refl w.heap.size w1).drew⟩, rfl⟩, ?_⟩
          unfold wpChain
          repeat (go_big_quiet_step (fail))
          refine wpQuiet_nil ?_
          unfold wpChain
          go_wp2_with fail
          refine ⟨⟨⟨_, ((Below.refl w.heap.size w1).setCell (p := ⟨w.heap.size, 2, none⟩) (Nat.le_refl _) (.int .i64 nf)).drew⟩, rfl⟩, ?_⟩
          unfold wpChain
          go_upto_region 11 with fail
          have hE5 := (HE1.out.set1f nf).on (Below.refl _ _).drew
          clear k0 k1 k2 g0 g1 g2 m0 m1 m2 f0 f1 f2
          generalize (w1.setCell ⟨w.heap.size, 2, none⟩ (.int .i64 nf)).drew = W5 at *
          obtain ⟨⟨k0, k1, k2⟩, -, ⟨m0, m1, m2⟩, ⟨f0, f1, f2⟩⟩ := hE5.cells
          have HE4 := Lib.hid (hE5.put2 ⟨fg, bg, nf⟩)
          simp only at k0 k1 k2
          clear hE5
          go_wp2_with fail
          refine bodyPost_ret (ret_pen2 rfl ⟨fg, bg, nf⟩ _ _ (w.heap.size + 1) _ _ rfl rfl HE4.out.b2) rfl ?_
          rw [← HG.out, HF.out, HM.out, HU.out]
          exact ⟨B2, c2, es, rfl, HALL.out, rfl, HE4.out.bel⟩
        · have hpl := plain_c m (HM.out ▸ HNUM.out.2) w1
          have H4 := Lib.hid h4
          have H0 := Lib.hid h0
          have hw4 : (m == 4) = false ∨ ((m == 4) = true ∧ ¬ (1 : Int) < (q.length : Int)) := by
            by_cases k : m = 4
            · right; exact ⟨beq_iff_eq.2 k, fun h => h4 ⟨k, by omega⟩⟩
            · left; exact beq_eq_false_iff_ne.2 k
          unfold PlainR at hpl
          obtain ⟨cv, ok, hcv⟩ : ∃ cv ok, plainC m = (cv, ok) := ⟨_, _, rfl⟩
          rw [hcv] at hpl
          have HCV := Lib.hid hcv
          have hsw := fun (V : World) (hV : Below w.heap.size w V) => switched_c fl m V (hTog.on hV)
          have HSW := Lib.hid hsw
          simp only at hpl
          clear h4 h0 hcv hsw
          rcases hw4 with hw4 | hw4
          · cases ok with
            | true =>
              go_wp2_with fail
              refine hpl.mono ?_
              rintro r w' ⟨rfl, rfl⟩
              clear hpl
              have HU := Lib.hid (oneC_plain ⟨fg, bg, fl⟩ q H0.out H4.out HCV.out)
              have hp := painted_c ⟨fg, bg, fl⟩ m cv w1
              rw [v1] at hp
              obtain ⟨p', hp'⟩ : ∃ p', paintC ⟨fg, bg, fl⟩ m cv = p' := ⟨_, rfl⟩
              rw [hp'] at HU hp
              obtain ⟨a1, a2, a3⟩ := p'
              have v2 : pnV ⟨a1, a2, a3⟩ = .agg #[.int .i64 a1, .int .i64 a2, .int .i64 a3] := rfl
              rw [v2] at hp
              obtain ⟨⟨k0, k1, k2⟩, -⟩ := HE1.out.cells
              simp only at k0 k1 k2
              clear hp'
              go_wp2_with fail
              refine hp.mono ?_
              rintro r w3 ⟨rfl, hb3⟩
              have hE3 := HE1.out.on hb3
              clear hp k0 k1 k2 hb3
              obtain ⟨-, -, ⟨m0, m1, m2⟩, ⟨f0, f1, f2⟩⟩ := hE3.cells
              have HE4 := Lib.hid (hE3.put2 ⟨a1, a2, a3⟩)
              clear hE3
              go_wp2_with fail
              refine bodyPost_ret (ret_pen2 rfl ⟨a1, a2, a3⟩ _ _ (w.heap.size + 1) _ _ rfl rfl HE4.out.b2) rfl ?_
              rw [← HG.out, HF.out, HM.out, HU.out]
              exact ⟨B2, c2, es, rfl, HALL.out, rfl, HE4.out.bel⟩
            | false =>
              go_wp2_with fail
              refine hpl.mono ?_
              rintro r w' ⟨rfl, rfl⟩
              clear hpl
              have HU := Lib.hid (oneC_flag ⟨fg, bg, fl⟩ q H0.out H4.out HCV.out)
              have hp := HSW.out w1 HE1.out.bel
              simp only at HU
              generalize swC rowsT fl m = nf at *
              obtain ⟨⟨k0, k1, k2⟩, -⟩ := HE1.out.cells
              simp only at k0 k1 k2
              go_wp2_with fail
              refine hp.mono ?_
              rintro r w3 ⟨rfl, hb3⟩
              have hE3 := HE1.out.on hb3
              clear hp k0 k1 k2 hb3
              obtain ⟨⟨k0, k1, k2⟩, ⟨g0, g1, g2⟩, -⟩ := hE3.cells
              simp only at k0 k1 k2
              have HE3 := Lib.hid (hE3.set1f nf)
              clear hE3
              go_upto_region 16 with fail
              clear k0 k1 k2 g0 g1 g2
              generalize w3.setCell ⟨w.heap.size, 2, none⟩ (.int .i64 nf) = W5 at *
              obtain ⟨⟨k0, k1, k2⟩, -, ⟨m0, m1, m2⟩, ⟨f0, f1, f2⟩⟩ := HE3.out.cells
              have HE4 := Lib.hid (HE3.out.put2 ⟨fg, bg, nf⟩)
              simp only at k0 k1 k2
              clear HE3
              go_wp2_with fail
              refine bodyPost_ret (ret_pen2 rfl ⟨fg, bg, nf⟩ _ _ (w.heap.size + 1) _ _ rfl rfl HE4.out.b2) rfl ?_
              rw [← HG.out, HF.out, HM.out, HU.out]
              exact ⟨B2, c2, es, rfl, HALL.out, rfl, HE4.out.bel⟩
          · obtain ⟨hw5, hw6⟩ := hw4
            cases ok with
            | true =>
              go_wp2_with fail
              refine hpl.mono ?_
              rintro r w' ⟨rfl, rfl⟩
              clear hpl
              have HU := Lib.hid (oneC_plain ⟨fg, bg, fl⟩ q H0.out H4.out HCV.out)
              have hp := painted_c ⟨fg, bg, fl⟩ m cv w1
              rw [v1] at hp
              obtain ⟨p', hp'⟩ : ∃ p', paintC ⟨fg, bg, fl⟩ m cv = p' := ⟨_, rfl⟩
              rw [hp'] at HU hp
              obtain ⟨a1, a2, a3⟩ := p'
              have v2 : pnV ⟨a1, a2, a3⟩ = .agg #[.int .i64 a1, .int .i64 a2, .int .i64 a3] := rfl
              rw [v2] at hp
              obtain ⟨⟨k0, k1, k2⟩, -⟩ := HE1.out.cells
              simp only at k0 k1 k2
              clear hp'
              go_wp2_with fail
              refine hp.mono ?_
              rintro r w3 ⟨rfl, hb3⟩
              have hE3 := HE1.out.on hb3
              clear hp k0 k1 k2 hb3
              obtain ⟨-, -, ⟨m0, m1, m2⟩, ⟨f0, f1, f2⟩⟩ := hE3.cells
              have HE4 := Lib.hid (hE3.put2 ⟨a1, a2, a3⟩)
              clear hE3
              go_wp2_with fail
              refine bodyPost_ret (ret_pen2 rfl ⟨a1, a2, a3⟩ _ _ (w.heap.size + 1) _ _ rfl rfl HE4.out.b2) rfl ?_
              rw [← HG.out, HF.out, HM.out, HU.out]
              exact ⟨B2, c2, es, rfl, HALL.out, rfl, HE4.out.bel⟩
            | false =>
              go_wp2_with fail
              refine hpl.mono ?_
              rintro r w' ⟨rfl, rfl⟩
              clear hpl
              have HU := Lib.hid (oneC_flag ⟨fg, bg, fl⟩ q H0.out H4.out HCV.out)
              have hp := HSW.out w1 HE1.out.bel
              simp only at HU
              generalize swC rowsT fl m = nf at *
              obtain ⟨⟨k0, k1, k2⟩, -⟩ := HE1.out.cells
              simp only at k0 k1 k2
              go_wp2_with fail
              refine hp.mono ?_
              rintro r w3 ⟨rfl, hb3⟩
              have hE3 := HE1.out.on hb3
              clear hp k0 k1 k2 hb3
              obtain ⟨⟨k0, k1, k2⟩, ⟨g0, g1, g2⟩, -⟩ := hE3.cells
              simp only at k0 k1 k2
              have HE3 := Lib.hid (hE3.set1f nf)
              clear hE3
              go_upto_region 16 with fail
              clear k0 k1 k2 g0 g1 g2
              generalize w3.setCell ⟨w.heap.size, 2, none⟩ (.int .i64 nf) = W5 at *
              obtain ⟨⟨k0, k1, k2⟩, -, ⟨m0, m1, m2⟩, ⟨f0, f1, f2⟩⟩ := HE3.out.cells
              have HE4 := Lib.hid (HE3.out.put2 ⟨fg, bg, nf⟩)
              simp only at k0 k1 k2
              clear HE3
              go_wp2_with fail
              refine bodyPost_ret (ret_pen2 rfl ⟨fg, bg, nf⟩ _ _ (w.heap.size + 1) _ _ rfl rfl HE4.out.b2) rfl ?_
              rw [← HG.out, HF.out, HM.out, HU.out]
              exact ⟨B2, c2, es, rfl, HALL.out, rfl, HE4.out.bel⟩
end Go.Proofs.YtlcnlfjjglcobaaDoor
