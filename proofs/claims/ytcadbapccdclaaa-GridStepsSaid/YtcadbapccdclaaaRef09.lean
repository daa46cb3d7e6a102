/- The document's Few and Same of rows, walked. -/
import Derived.Test.YtcadbapccdclaaaRef08
import Derived.Test.YtcadbapccdclaaaMem09
namespace Go.Proofs.Ytcadbapccdclaaa
open Go Go.RowKit
set_option linter.unusedVariables false
set_option linter.unusedSimpArgs false

def FewR (l : List Rw) : Prop := l.length ≤ 60 ∧ ∀ r ∈ l, r.cs.length ≤ 100
instance (l : List Rw) : Decidable (FewR l) := inferInstanceAs (Decidable (_ ∧ _))
set_option maxRecDepth 100000 in
set_option maxHeartbeats 4000000 in
theorem few_c (A : Option Addr) (c : Nat) (l : List Rl) (w : World) (ha : InG w A c l) :
    Calls Try.prog 7 #[.slice A l.length c] w fun e w' => e = .returned (.bool (decide (FewR (rws l)))) ∧ Below w.heap.size w w' := by
  have hl := ha.rows.len
  unfold maxLen at hl
  generalize hR : decide (FewR (rws l)) = R
  have HR := Lib.hid hR
  have HA := Lib.hid ha
  clear hR ha
  by_cases hn : l.length ≤ 60
  · have zn : ¬ (l.length : Int) > 60 := by omega
    have HN := Lib.hid hn
    clear hn
    go_enter Try.func7, Try.ntmps7
    go_wp2_with fail
    clear zn
    go_loopw [3] (fun u3 wr => ∃ k : Nat, k ≤ l.length ∧ u3 = .int .i64 (k : Int) ∧ Hid (∀ e ∈ l.take k, e.r.cs.length ≤ 100) ∧ Below w.heap.size w wr) (fun u3 _ => l.length - (intOf u3).toNat)
    case atStart => exact ⟨0, Nat.zero_le _, rfl, Lib.hid (by simp), Below.refl _ _⟩
    case round =>
      obtain ⟨k, hk, rfl, HT, hbel⟩ := hrel
      by_cases hlt : k < l.length
      · obtain ⟨x, hx⟩ : ∃ x, l[k]? = some x := ⟨_, List.getElem?_eq_getElem hlt⟩
        obtain ⟨g1, o1, rfl, pb, p0, p1, p2, p3⟩ := (HA.out.on hbel).rows.at_ hx
        have hca := HA.out.rows.cap
        have z1 : (k : Int) < (l.length : Int) := by omega
        have HX := Lib.hid hx
        clear hx p1 p2 p3
        by_cases hc : x.r.cs.length ≤ 100
        · have z2 : ¬ (x.r.cs.length : Int) > 100 := by omega
          have HS : Hid (∀ e ∈ l.take (k + 1), e.r.cs.length ≤ 100) := Lib.hid (by
            rw [take_snoc HX.out]
            intro e he
            rcases List.mem_append.1 he with h | h
            · exact HT.out e h
            · simp at h; subst h; exact hc)
          clear hc
          go_wp2_with fail
          exact ⟨⟨k + 1, by omega, by simp, HS, hbel⟩, by simp [intOf]; omega⟩
        · have z2 : (x.r.cs.length : Int) > 100 := by omega
          have HS : Hid (R = false) := Lib.hid (by
            rw [← HR.out]
            exact decide_eq_false fun h => hc (h.2 x.r (by unfold rws; exact List.mem_map.2 ⟨x, List.mem_of_getElem? HX.out, rfl⟩)))
          clear hc
          go_wp2_with fail
          go_ret
          exact ⟨ret_bool HS.out.symm, hbel⟩
      · have hke : k = l.length := by omega
        have HS : Hid (R = true) := Lib.hid (by
          rw [← HR.out]
          have h := HT.out
          rw [hke, List.take_length] at h
          refine decide_eq_true ⟨by rw [rws_length]; exact HN.out, fun r hr => ?_⟩
          obtain ⟨e, he, rfl⟩ := List.mem_map.1 hr
          exact h e he)
        have z1 : ¬ (k : Int) < (l.length : Int) := by omega
        clear hke
        go_wp2_with fail
        go_ret
        exact ⟨ret_bool HS.out.symm, hbel⟩
  · have zn : (l.length : Int) > 60 := by omega
    have HS : Hid (R = false) := Lib.hid (by rw [← HR.out]; exact decide_eq_false fun h => hn (by have := h.1; rw [rws_length] at this; exact this))
    clear hn
    go_enter Try.func7, Try.ntmps7
    go_wp2_with fail
    go_ret
    exact ⟨ret_bool HS.out.symm, Below.refl _ _⟩
set_option maxRecDepth 100000 in
set_option maxHeartbeats 4000000 in
theorem same9_c (A B : Option Addr) (a b : List Rl) (c d : Nat) (w : World) (ha : InG w A c a) (hb : InG w B d b) :
    Calls Try.prog 16 #[.slice A a.length c, .slice B b.length d] w fun e w' => e = .returned (.bool (decide (rws a = rws b))) ∧ Below w.heap.size w w' := by
  have hl := ha.rows.len
  have hl2 := hb.rows.len
  unfold maxLen at hl hl2
  generalize hR : decide (rws a = rws b) = R
  have HR := Lib.hid hR
  have HA := Lib.hid ha
  have HB := Lib.hid hb
  clear hR ha hb
  by_cases hn : a.length = b.length
  · have en : ((a.length : Int) != (b.length : Int)) = false := by rw [hn]; simp
    have HN := Lib.hid hn
    clear hn
    go_enter Try.func16, Try.ntmps16
    go_wp2_with fail
    clear en
    go_loopw [5] (fun u5 wr => ∃ k : Nat, k ≤ a.length ∧ u5 = .int .i64 (k : Int) ∧ Hid ((rws a).take k = (rws b).take k) ∧ Below w.heap.size w wr) (fun u5 _ => a.length - (intOf u5).toNat)
    case atStart => exact ⟨0, Nat.zero_le _, rfl, Lib.hid rfl, Below.refl _ _⟩
    case round =>
      obtain ⟨k, hk, rfl, HT, hbel⟩ := hrel
      by_cases hlt : k < a.length
      · have hlt2 : k < b.length := by have := HN.out; omega
        obtain ⟨x, hx⟩ : ∃ x, a[k]? = some x := ⟨_, List.getElem?_eq_getElem hlt⟩
        obtain ⟨y, hy⟩ : ∃ y, b[k]? = some y := ⟨_, List.getElem?_eq_getElem hlt2⟩
        have hxi := (HA.out.on hbel).els x (List.mem_of_getElem? hx)
        have hyi := (HB.out.on hbel).els y (List.mem_of_getElem? hy)
        have hs : ∀ V, Below wr.heap.size wr V → Calls Try.prog 12 #[.agg #[.slice x.A x.r.cs.length x.c, .bool x.r.wrap, .int .i64 x.r.dir, .bool x.r.ex], .agg #[.slice y.A y.r.cs.length y.c, .bool y.r.wrap, .int .i64 y.r.dir, .bool y.r.ex]] V (fun e w' => e = .returned (.bool (decide (x.r = y.r))) ∧ Below V.heap.size V w') := fun V hV => same_c x.r y.r x.A y.A x.c y.c V (hxi.on hV) (hyi.on hV)
        obtain ⟨g1, o1, rfl, pb, p0, p1, p2, p3⟩ := (HA.out.on hbel).rows.at_ hx
        obtain ⟨g2, o2, rfl, qb, q0, q1, q2, q3⟩ := (HB.out.on hbel).rows.at_ hy
        have m0 := Ext.cell (w := wr) (B := wr.heap.size) (p := ⟨g1, o1 + k * 4, none⟩) pb p0
        have m1 := Ext.cell (w := wr) (B := wr.heap.size) (p := ⟨g1, o1 + k * 4 + 1, none⟩) pb p1
        have m2 := Ext.cell (w := wr) (B := wr.heap.size) (p := ⟨g1, o1 + k * 4 + 2, none⟩) pb p2
        have m3 := Ext.cell (w := wr) (B := wr.heap.size) (p := ⟨g1, o1 + k * 4 + 3, none⟩) pb p3
        have n0 := Ext.cell (w := wr) (B := wr.heap.size) (p := ⟨g2, o2 + k * 4, none⟩) qb q0
        have n1 := Ext.cell (w := wr) (B := wr.heap.size) (p := ⟨g2, o2 + k * 4 + 1, none⟩) qb q1
        have n2 := Ext.cell (w := wr) (B := wr.heap.size) (p := ⟨g2, o2 + k * 4 + 2, none⟩) qb q2
        have n3 := Ext.cell (w := wr) (B := wr.heap.size) (p := ⟨g2, o2 + k * 4 + 3, none⟩) qb q3
        have hca := HA.out.rows.cap
        have hcb := HB.out.rows.cap
        have HX := Lib.hid (And.intro (rws_at hx) (rws_at hy))
        have HBEL := Lib.hid hbel
        have CS := Lib.hid hs
        have z1 : (k : Int) < (a.length : Int) := by omega
        have z2 : (k : Int) < (b.length : Int) := by omega
        clear hx hy p0 p1 p2 p3 q0 q1 q2 q3 hbel hs hxi hyi
        go_upto_region 6 with fail
        cases hxy : decide (x.r = y.r) with
        | true =>
          rw [hxy] at CS
          have HS : Hid ((rws a).take (k + 1) = (rws b).take (k + 1)) := Lib.hid (by rw [take_snoc HX.out.1, take_snoc HX.out.2, HT.out, of_decide_eq_true hxy])
          clear hxy
          refine region_plan [([0, 1, 2, 3, 4, 5, 6, 7], [8]), ([9], [])] (fun w' => ∃ u : Ext wr wr.heap.size, w' = u.val) (by kernel_rfl) (by kernel_rfl) (fun _ _ _ _ _ h => h) ⟨⟨_, (Below.refl _ _).drew⟩, rfl⟩ ?_
          simp only [wpPlan, sel, List.take_succ_cons, List.take_zero, List.drop_succ_cons, List.drop_zero, List.cons_append, List.nil_append]
          repeat (go_big_quiet_step (fail))
          refine wpQuiet_nil ?_
          unfold wpChain
          go_wp2_with fail
          refine (CS.out _ (Below.refl wr.heap.size wr).drew).mono ?_
          rintro e v1 ⟨rfl, hv1⟩
          have HV1 : Below wr.heap.size wr v1 := (Below.refl wr.heap.size wr).drew.trans hv1
          clear hv1
          go_wp2_with fail
          refine ⟨⟨⟨_, HV1⟩, rfl⟩, ?_⟩
          unfold wpChain
          repeat (go_big_quiet_step (fail))
          refine wpQuiet_nil ?_
          unfold wpChain
          go_wp2_with fail
          exact ⟨⟨k + 1, by omega, by simp, HS, HBEL.out.trans (HV1.mono HBEL.out.size)⟩, by simp [intOf]; omega⟩
        | false =>
          rw [hxy] at CS
          have HS : Hid (R = false) := Lib.hid (by
            rw [← HR.out]
            refine decide_eq_false fun h => ?_
            have h1 := HX.out.1
            rw [h] at h1
            have h2 := h1.symm.trans HX.out.2
            injection h2 with h2
            exact of_decide_eq_false hxy h2)
          clear hxy
          refine region_plan [([0, 1, 2, 3, 4, 5, 6, 7], [8]), ([9], [])] (fun w' => ∃ u : Ext wr wr.heap.size, w' = u.val) (by kernel_rfl) (by kernel_rfl) (fun _ _ _ _ _ h => h) ⟨⟨_, (Below.refl _ _).drew⟩, rfl⟩ ?_
          simp only [wpPlan, sel, List.take_succ_cons, List.take_zero, List.drop_succ_cons, List.drop_zero, List.cons_append, List.nil_append]
          repeat (go_big_quiet_step (fail))
          refine wpQuiet_nil ?_
          unfold wpChain
          go_wp2_with fail
          refine (CS.out _ (Below.refl wr.heap.size wr).drew).mono ?_
          rintro e v1 ⟨rfl, hv1⟩
          have HV1 : Below wr.heap.size wr v1 := (Below.refl wr.heap.size wr).drew.trans hv1
          clear hv1
          go_wp2_with fail
          refine ⟨⟨⟨_, HV1⟩, rfl⟩, ?_⟩
          unfold wpChain
          repeat (go_big_quiet_step (fail))
          refine wpQuiet_nil ?_
          unfold wpChain
          go_wp2_with fail
          go_ret
          exact ⟨ret_bool HS.out.symm, HBEL.out.trans (HV1.mono HBEL.out.size)⟩
      · have hke : k = a.length := by omega
        have HS : Hid (R = true) := Lib.hid (by
          rw [← HR.out]
          have h := HT.out
          have h1 : (rws a).length = k := by rw [rws_length]; exact hke.symm
          have h2 : (rws b).length = k := by rw [rws_length, ← HN.out]; exact hke.symm
          rw [List.take_of_length_le (by omega), List.take_of_length_le (by omega)] at h
          exact decide_eq_true h)
        have z1 : ¬ (k : Int) < (a.length : Int) := by omega
        clear hke
        go_wp2_with fail
        go_ret
        exact ⟨ret_bool HS.out.symm, hbel⟩
  · have en : ((a.length : Int) != (b.length : Int)) = true := by simp; omega
    have HS : Hid (R = false) := Lib.hid (by rw [← HR.out]; exact decide_eq_false fun h => hn (by have := congrArg List.length h; rw [rws_length, rws_length] at this; exact this))
    clear hn
    go_enter Try.func16, Try.ntmps16
    go_wp2_with fail
    go_ret
    exact ⟨ret_bool HS.out.symm, Below.refl _ _⟩
end Go.Proofs.Ytcadbapccdclaaa
