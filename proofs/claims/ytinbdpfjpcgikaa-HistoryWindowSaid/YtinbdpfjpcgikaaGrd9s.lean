/- Package grid, walked: whether a grid may be. -/
import Derived.Test.YtinbdpfjpcgikaaGrd9w
import Derived.Test.YtinbdpfjpcgikaaBase6
import Derived.Test.YtinbdpfjpcgikaaMem09s
namespace Go.Proofs.Ytinbdpfjpcgikaa
open Go Go.RowKit
set_option linter.unusedVariables false
set_option linter.unusedSimpArgs false

theorem saneG_len {g : List Rw} (h : ¬ (1 ≤ g.length ∧ g.length ≤ 1000)) : decide (SaneG g) = false := decide_eq_false fun k => h k.1
theorem saneG_row {es : List Rl} {e0 x : Rl} (h0 : es[0]? = some e0) {k : Nat} (hx : es[k]? = some x) (h : ¬ (SaneR x.r ∧ x.r.cs.length = e0.r.cs.length)) : decide (SaneG (rws es)) = false :=
  decide_eq_false fun q => h (by
    have h1 := q.row (rws_at hx)
    have e : widthG (rws es) = e0.r.cs.length := by unfold widthG; rw [rws_at h0]; rfl
    rw [e] at h1
    exact h1)
theorem saneG_all {es : List Rl} {e0 : Rl} (h0 : es[0]? = some e0) (hl : 1 ≤ es.length ∧ es.length ≤ 1000) (h : ∀ (k : Nat) e, k < es.length → es[k]? = some e → SaneR e.r ∧ e.r.cs.length = e0.r.cs.length) : decide (SaneG (rws es)) = true :=
  decide_eq_true (by
    have e : widthG (rws es) = e0.r.cs.length := by unfold widthG; rw [rws_at h0]; rfl
    refine ⟨by rw [rws_length]; exact hl, fun r hr => ?_⟩
    obtain ⟨x, hx, rfl⟩ := List.mem_map.1 hr
    obtain ⟨k, hk, hk2⟩ := List.getElem_of_mem hx
    rw [e]
    exact h k x hk (by rw [List.getElem?_eq_getElem hk, hk2]))
set_option maxRecDepth 100000 in
set_option maxHeartbeats 1000000 in
theorem sane9_c : Sane9C := by
  intro A c es w hin hok
  generalize hR : decide (SaneG (rws es)) = R
  have hcap := hin.rows.cap
  have hmax := hin.rows.max
  unfold maxLen at hmax
  have hgb : Below w.heap.size w (w.alloc (.cells #[.slice A es.length c] 47)) := (Below.refl _ _).alloc (Nat.le_refl _) _
  have HG := Lib.hid (And.intro (Box.new w 47 #[.slice A es.length c]) (And.intro hgb (hin.on hgb)))
  have hw9 := fun V => height9_c (es.length : Int) V (by unfold I64; omega)
  clear hgb hin
  have HR := Lib.hid hR
  have HOK := Lib.hid hok
  clear hR hok
  go_enter Try.func35, Try.ntmps35
  go_upto_region 1 with fail
  generalize w.alloc (.cells #[.slice A es.length c] 47) = W at *
  have m0 := Ext.cell (w := W) (B := W.heap.size) (p := ⟨w.heap.size, 0, none⟩) HG.out.1.lt (HG.out.1.cell 0)
  by_cases hl : 1 ≤ es.length ∧ es.length ≤ 1000
  · have e1 : max 1 (min (es.length : Int) 1000) = (es.length : Int) := by omega
    rw [e1] at hw9
    have en : ((es.length : Int) != (es.length : Int)) = false := by simp
    obtain ⟨e0, he0⟩ : ∃ e0, es[0]? = some e0 := ⟨_, List.getElem?_eq_getElem (by omega)⟩
    have HL := Lib.hid (And.intro hl he0)
    have HW9 := Lib.hid hw9
    clear hl he0 hw9 e1
    refine region_plan [([0, 1, 2, 3, 4, 5], [6]), ([7], [])] (fun w' => ∃ u : Ext W W.heap.size, w' = u.val) (by kernel_rfl) (by kernel_rfl) (fun _ _ _ _ _ h => h) ⟨⟨_, (Below.refl _ _).drew⟩, rfl⟩ ?_
    simp only [wpPlan, sel, List.take_succ_cons, List.take_zero, List.drop_succ_cons, List.drop_zero, List.cons_append, List.nil_append]
    repeat (go_big_quiet_step (fail))
    refine wpQuiet_nil ?_
    unfold wpChain
    go_wp2_with fail
    refine (HW9.out _).mono ?_
    rintro e v1 ⟨rfl, rfl⟩
    go_wp2_with fail
    refine ⟨⟨⟨_, (Below.refl _ _).drew⟩, rfl⟩, ?_⟩
    unfold wpChain
    repeat (go_big_quiet_step (fail))
    refine wpQuiet_nil ?_
    unfold wpChain
    clear m0 HW9
    have k0 : W.drew.cell? ⟨w.heap.size, 0, none⟩ = some (.slice A es.length c) := HG.out.1.cell 0
    go_wp2_with fail
    have hdr : Below W.heap.size W W.drew := (Below.refl _ _).drew
    go_loopw [16] (fun u16 wr => ∃ i : Nat, i ≤ es.length ∧ u16 = .int .i64 (i : Int) ∧ Hid (∀ (k : Nat) e, k < i → es[k]? = some e → SaneR e.r ∧ e.r.cs.length = e0.r.cs.length) ∧ Hid (Below W.heap.size W wr)) (fun u16 _ => es.length - (intOf u16).toNat)
    case atStart => exact ⟨0, Nat.zero_le _, rfl, Lib.hid (fun k y h => absurd h (Nat.not_lt_zero _)), Lib.hid hdr⟩
    case round =>
      obtain ⟨i, hi, rfl, HT, HV⟩ := hrel
      clear hdr k0
      by_cases hlt : i < es.length
      · obtain ⟨x, hx⟩ : ∃ x, es[i]? = some x := ⟨_, List.getElem?_eq_getElem hlt⟩
        have z1 : (i : Int) < (es.length : Int) := by omega
        have hI := HG.out.2.2.on HV.out
        obtain ⟨b, o, rfl, hB, p0, p1, p2, p3⟩ := hI.rows.at_ hx
        have hal : Below wr.heap.size wr (wr.alloc (.cells #[.slice x.A x.r.cs.length x.c, .bool x.r.wrap, .int .i64 x.r.dir, .bool x.r.ex] 35)) := (Below.refl _ _).alloc (Nat.le_refl _) _
        have hI2 := hI.on hal
        have hbx := HG.out.1.below HV.out HG.out.1.lt
        have hX := Box.new wr 35 #[.slice x.A x.r.cs.length x.c, .bool x.r.wrap, .int .i64 x.r.dir, .bool x.r.ex]
        have hG := hbx.below hal hbx.lt
        have hVV := HV.out.trans (hal.mono HV.out.size)
        have hwd := fun V (hV : Below (wr.alloc (.cells #[.slice x.A x.r.cs.length x.c, .bool x.r.wrap, .int .i64 x.r.dir, .bool x.r.ex] 35)).heap.size (wr.alloc (.cells #[.slice x.A x.r.cs.length x.c, .bool x.r.wrap, .int .i64 x.r.dir, .bool x.r.ex] 35)) V) => ofWidth9_c (some ⟨b, o, none⟩) c es x e0 HL.out.2 V (hI2.rows.on hV)
        have hsn := fun V (hV : Below (wr.alloc (.cells #[.slice x.A x.r.cs.length x.c, .bool x.r.wrap, .int .i64 x.r.dir, .bool x.r.ex] 35)).heap.size (wr.alloc (.cells #[.slice x.A x.r.cs.length x.c, .bool x.r.wrap, .int .i64 x.r.dir, .bool x.r.ex] 35)) V) => sane8_b x.r x.A x.c V ((hI2.els x (List.mem_of_getElem? hx)).on hV) (HOK.out x.r (List.mem_map.2 ⟨x, List.mem_of_getElem? hx, rfl⟩))
        have HX := Lib.hid hx
        have HXX := Lib.hid (And.intro hX (And.intro hG hVV))
        have HWD := Lib.hid hwd
        have HSN := Lib.hid hsn
        clear hx hI hI2 hbx hX hG hVV hwd hsn hal
        have hbW : b < wr.heap.size := hB
        go_upto_region 6 with fail
        generalize wr.alloc (.cells #[.slice x.A x.r.cs.length x.c, .bool x.r.wrap, .int .i64 x.r.dir, .bool x.r.ex] 35) = V at *
        obtain ⟨r0, r1, r2, r3⟩ : V.cell? ⟨wr.heap.size, 0, none⟩ = some (.slice x.A x.r.cs.length x.c) ∧ V.cell? ⟨wr.heap.size, 1, none⟩ = some (.bool x.r.wrap) ∧ V.cell? ⟨wr.heap.size, 2, none⟩ = some (.int .i64 x.r.dir) ∧ V.cell? ⟨wr.heap.size, 3, none⟩ = some (.bool x.r.ex) := ⟨HXX.out.1.cell 0, HXX.out.1.cell 1, HXX.out.1.cell 2, HXX.out.1.cell 3⟩
        have g0 : V.cell? ⟨w.heap.size, 0, none⟩ = some (.slice (some ⟨b, o, none⟩) es.length c) := HXX.out.2.1.cell 0
        clear p0 p1 p2 p3 hB hbW
        cases hw : decide (x.r.cs.length = e0.r.cs.length) with
        | false =>
          have HF : Hid (R = false) := Lib.hid (by rw [← HR.out]; exact saneG_row HL.out.2 HX.out (fun h => of_decide_eq_false hw h.2))
          rw [hw] at HWD
          clear hw
          go_wp2_with fail
          refine (HWD.out _ (Below.refl _ _)).mono ?_
          rintro e v1 ⟨rfl, hv1⟩
          have HV1 := Lib.hid hv1
          clear hv1 r0 r1 r2 r3 g0
          go_wp2_with fail
          go_ret
          exact ⟨ret_bool HF.out.symm, HG.out.2.1.trans ((HXX.out.2.2.trans (HV1.out.mono HXX.out.2.2.size)).mono HG.out.2.1.size)⟩
        | true =>
          rw [hw] at HWD
          have HW := Lib.hid (of_decide_eq_true hw)
          clear hw
          cases hs : decide (SaneR x.r) with
          | false =>
            have HF : Hid (R = false) := Lib.hid (by rw [← HR.out]; exact saneG_row HL.out.2 HX.out (fun h => of_decide_eq_false hs h.1))
            rw [hs] at HSN
            clear hs
            go_wp2_with fail
            refine (HWD.out _ (Below.refl _ _)).mono ?_
            rintro e v1 ⟨rfl, hv1⟩
            have hX1 := HXX.out.1.below hv1 HXX.out.1.lt
            have HV1 := Lib.hid hv1
            clear hv1 r0 r1 r2 r3 g0
            obtain ⟨r0, r1, r2, r3⟩ : v1.cell? ⟨wr.heap.size, 0, none⟩ = some (.slice x.A x.r.cs.length x.c) ∧ v1.cell? ⟨wr.heap.size, 1, none⟩ = some (.bool x.r.wrap) ∧ v1.cell? ⟨wr.heap.size, 2, none⟩ = some (.int .i64 x.r.dir) ∧ v1.cell? ⟨wr.heap.size, 3, none⟩ = some (.bool x.r.ex) := ⟨hX1.cell 0, hX1.cell 1, hX1.cell 2, hX1.cell 3⟩
            clear hX1
            go_wp2_with fail
            refine (HSN.out _ HV1.out).mono ?_
            rintro e v2 ⟨rfl, hv2⟩
            have HV2 := Lib.hid (HV1.out.trans (hv2.mono HV1.out.size))
            clear hv2 r0 r1 r2 r3
            go_wp2_with fail
            go_ret
            exact ⟨ret_bool HF.out.symm, HG.out.2.1.trans ((HXX.out.2.2.trans (HV2.out.mono HXX.out.2.2.size)).mono HG.out.2.1.size)⟩
          | true =>
            rw [hs] at HSN
            have HT1 : Hid (∀ (k : Nat) e, k < i + 1 → es[k]? = some e → SaneR e.r ∧ e.r.cs.length = e0.r.cs.length) := Lib.hid (fun k e hk he => by
              rcases Nat.lt_or_ge k i with h | h
              · exact HT.out k e h he
              · obtain rfl : k = i := by omega
                have := HX.out
                rw [he] at this
                injection this with this
                subst this
                exact ⟨of_decide_eq_true hs, HW.out⟩)
            clear hs
            go_wp2_with fail
            refine (HWD.out _ (Below.refl _ _)).mono ?_
            rintro e v1 ⟨rfl, hv1⟩
            have hX1 := HXX.out.1.below hv1 HXX.out.1.lt
            have HV1 := Lib.hid hv1
            clear hv1 r0 r1 r2 r3 g0
            obtain ⟨r0, r1, r2, r3⟩ : v1.cell? ⟨wr.heap.size, 0, none⟩ = some (.slice x.A x.r.cs.length x.c) ∧ v1.cell? ⟨wr.heap.size, 1, none⟩ = some (.bool x.r.wrap) ∧ v1.cell? ⟨wr.heap.size, 2, none⟩ = some (.int .i64 x.r.dir) ∧ v1.cell? ⟨wr.heap.size, 3, none⟩ = some (.bool x.r.ex) := ⟨hX1.cell 0, hX1.cell 1, hX1.cell 2, hX1.cell 3⟩
            clear hX1
            go_wp2_with fail
            refine (HSN.out _ HV1.out).mono ?_
            rintro e v2 ⟨rfl, hv2⟩
            have HV2 := Lib.hid (HV1.out.trans (hv2.mono HV1.out.size))
            clear hv2 r0 r1 r2 r3
            go_wp2_with fail
            exact ⟨⟨i + 1, by omega, by simp, HT1, Lib.hid (HXX.out.2.2.trans (HV2.out.mono HXX.out.2.2.size))⟩, by simp [intOf]; omega⟩
      · obtain rfl : i = es.length := by omega
        have z1 : ¬ (es.length : Int) < (es.length : Int) := by omega
        have HF : Hid (R = true) := Lib.hid (by rw [← HR.out]; exact saneG_all HL.out.2 HL.out.1 HT.out)
        go_wp2_with fail
        go_ret
        exact ⟨ret_bool HF.out.symm, HG.out.2.1.trans (HV.out.mono HG.out.2.1.size)⟩
  · have en : ((es.length : Int) != max 1 (min (es.length : Int) 1000)) = true := by simp; omega
    have HF : Hid (R = false) := Lib.hid (by rw [← HR.out]; exact saneG_len (by rw [rws_length]; exact hl))
    generalize hK : max 1 (min (es.length : Int) 1000) = K at *
    have HW9 := Lib.hid hw9
    clear hl hw9 hK
    refine region_plan [([0, 1, 2, 3, 4, 5], [6]), ([7], [])] (fun w' => ∃ u : Ext W W.heap.size, w' = u.val) (by kernel_rfl) (by kernel_rfl) (fun _ _ _ _ _ h => h) ⟨⟨_, (Below.refl _ _).drew⟩, rfl⟩ ?_
    simp only [wpPlan, sel, List.take_succ_cons, List.take_zero, List.drop_succ_cons, List.drop_zero, List.cons_append, List.nil_append]
    repeat (go_big_quiet_step (fail))
    refine wpQuiet_nil ?_
    unfold wpChain
    go_wp2_with fail
    refine (HW9.out _).mono ?_
    rintro e v1 ⟨rfl, rfl⟩
    go_wp2_with fail
    refine ⟨⟨⟨_, (Below.refl _ _).drew⟩, rfl⟩, ?_⟩
    unfold wpChain
    repeat (go_big_quiet_step (fail))
    refine wpQuiet_nil ?_
    unfold wpChain
    clear m0 HW9
    go_wp2_with fail
    go_ret
    exact ⟨ret_bool HF.out.symm, HG.out.2.1.drew⟩
end Go.Proofs.Ytinbdpfjpcgikaa
