/- The document's Same, walked. -/
import Derived.Test.YtiaippdaogmcmaaDoorStr5
import Derived.Test.YtiaippdaogmcmaaDoorChecked
import Derived.Test.YtiaippdaogmcmaaDoorReg
import Derived.BigQuiet
import Derived.Deep.QuietTactic
import Derived.Deep.DeepCutAuto
namespace Go.Proofs.YtiaippdaogmcmaaDoor
open Go Go.RowKit
set_option linter.unusedVariables false
set_option linter.unusedSimpArgs false

theorem take_eq_snoc {α : Type} {a b : List α} {k : Nat} {x : α} (h : a.take k = b.take k) (ha : a[k]? = some x) (hb : b[k]? = some x) : a.take (k + 1) = b.take (k + 1) := by
  rw [take_snoc ha, take_snoc hb, h]
set_option maxRecDepth 100000 in
set_option maxHeartbeats 4000000 in
theorem same_c (A1 A2 : Option Addr) (es1 es2 : List El) (c1 c2 : Nat) (w : World) (h1 : Nest w w.heap.size A1 es1) (h2 : Nest w w.heap.size A2 es2) (hm1 : es1.length ≤ maxLen) (hm2 : es2.length ≤ maxLen) :
    Calls Tryd.prog 19 #[.slice A1 es1.length c1, .slice A2 es2.length c2] w fun e w' => e = .returned (.bool (decide (qs es1 = qs es2))) ∧ Below w.heap.size w w' := by
  unfold maxLen at hm1 hm2
  by_cases hl : es1.length = es2.length
  · have hle : (es1.length : Int) = (es2.length : Int) := by omega
    have hlb : ((es1.length : Int) != (es2.length : Int)) = false := by simp [hle]
    go_enter Tryd.func19, Tryd.ntmps19
    go_wp2_with fail
    have HL := Lib.hid hl
    have hl1 : es1.length ≤ es2.length := by omega
    clear hl hle hlb
    go_loopw [5] (fun iv wr => ∃ k : Nat, k ≤ es1.length ∧ iv = .int .i64 (k : Int) ∧ Hid ((qs es1).take k = (qs es2).take k) ∧ Below w.heap.size w wr) (fun iv _ => es1.length - (intOf iv).toNat)
    case atStart => exact ⟨0, by omega, rfl, Lib.hid (by simp), Below.refl _ _⟩
    case round =>
      obtain ⟨k, hk, rfl, HT, hb⟩ := hrel
      by_cases hlt : k < es1.length
      · have g1 : es1[k]? = some es1[k] := List.getElem?_eq_getElem hlt
        have g2 : es2[k]? = some es2[k] := List.getElem?_eq_getElem (by omega)
        generalize es1[k] = e1 at g1
        generalize es2[k] = e2 at g2
        obtain ⟨b1, o1, rfl, hb1, d1, ok1⟩ := (h1.on hb).at_ g1
        obtain ⟨b2, o2, rfl, hb2, d2, ok2⟩ := (h2.on hb).at_ g2
        have q1 := qs_at g1
        have q2 := qs_at g2
        have z1 : (k : Int) < (es1.length : Int) := by omega
        have z2 : (k : Int) < (es2.length : Int) := by omega
        have hml := Nat.le_trans ok1.cap ok1.max
        unfold maxLen at hml
        have HQ := Lib.hid (And.intro q1 q2)
        have G1 := Lib.hid g1
        have G2 := Lib.hid g2
        clear g1 g2 q1 q2
        by_cases he : e1.q.length = e2.q.length
        · have heb : ((e1.q.length : Int) != (e2.q.length : Int)) = false := by simp [he]
          have hei : (e1.q.length : Int) = (e2.q.length : Int) := by omega
          go_upto_region 6 with fail
          go_quiet (fail)
          have hbd := below_drewN hb nq
          go_wp2_with fail
          have HE := Lib.hid he
          have he1 : e1.q.length ≤ e2.q.length := by omega
          clear he hei heb
          go_loopw [6] (fun iv wr2 => ∃ j : Nat, j ≤ e1.q.length ∧ iv = .int .i64 (j : Int) ∧ Hid (e1.q.take j = e2.q.take j) ∧ Below w.heap.size w wr2) (fun iv _ => e1.q.length - (intOf iv).toNat)
          case atStart => exact ⟨0, by omega, rfl, Lib.hid (by simp), hbd⟩
          case round =>
            obtain ⟨j, hj, rfl, HJ, hb2⟩ := hrel
            obtain ⟨b1', o1', e, l1, d1', ok1'⟩ := (h1.on hb2).at_ G1.out
            injection e with e; injection e with e3 e4; subst e3; subst e4
            obtain ⟨b2', o2', e, l2, d2', ok2'⟩ := (h2.on hb2).at_ G2.out
            injection e with e; injection e with e3 e4; subst e3; subst e4
            by_cases hjl : j < e1.q.length
            · have x1 : e1.q[j]? = some e1.q[j] := List.getElem?_eq_getElem hjl
              have x2 : e2.q[j]? = some e2.q[j] := List.getElem?_eq_getElem (by omega)
              generalize e1.q[j] = n1 at x1
              generalize e2.q[j] = n2 at x2
              obtain ⟨b3, o3, ha3, l3, y1⟩ := ok1'.rd.at_ x1
              obtain ⟨b4, o4, ha4, l4, y2⟩ := ok2'.rd.at_ x2
              unfold intV at y1 y2
              rw [ha3] at d1'
              rw [ha4] at d2'
              have zj : (j : Int) < (e1.q.length : Int) := by omega
              have zj2 : (j : Int) < (e2.q.length : Int) := by omega
              have HX := Lib.hid (And.intro x1 x2)
              have v1 := Ext.cell (B := wr.heap.size) (w := wr) (p := ⟨b1, o1 + k, none⟩) l1 d1'
              have v2 := Ext.cell (B := wr.heap.size) (w := wr) (p := ⟨b2, o2 + k, none⟩) l2 d2'
              have v3 := Ext.cell (B := wr.heap.size) (w := wr) (p := ⟨b3, o3 + j, none⟩) l3 y1
              have v4 := Ext.cell (B := wr.heap.size) (w := wr) (p := ⟨b4, o4 + j, none⟩) l4 y2
              clear x1 x2 ok1' ok2' ha3 ha4 d1 d2 ok1 ok2
              by_cases hn : n1 = n2
              · have hnb : (n1 != n2) = false := by simp [hn]
                have hX2 := HX.out.2
                rw [← hn] at hX2
                have HX2 := Lib.hid hX2
                clear hn hX2
                go_upto_region 11 with fail
                refine region_ext wr.heap.size (by kernel_rfl) (by kernel_rfl) ?_
                repeat (go_big_quiet_step (fail))
                refine wpQuiet_nil ?_
                intro wf hbf
                have hbd2 := hb2.trans (hbf.mono hb2.size)
                go_wp2_with fail
                exact ⟨⟨j + 1, by omega, by go_num, Lib.hid (take_eq_snoc HJ.out HX.out.1 HX2.out), hbd2⟩, by simp [intOf]; omega⟩
              · have hnb : (n1 != n2) = true := by simp [hn]
                have hr : decide (qs es1 = qs es2) = false := by
                  refine decide_eq_false fun hq => hn ?_
                  have h := HQ.out
                  rw [hq] at h
                  have h3 := h.1.symm.trans h.2
                  injection h3 with h3
                  have h4 := HX.out
                  rw [h3] at h4
                  have h5 := h4.1.symm.trans h4.2
                  injection h5
                have HR := Lib.hid hr
                clear hr hn
                go_upto_region 11 with fail
                refine region_ext wr.heap.size (by kernel_rfl) (by kernel_rfl) ?_
                repeat (go_big_quiet_step (fail))
                refine wpQuiet_nil ?_
                intro wf hbf
                have hbd2 := hb2.trans (hbf.mono hb2.size)
                go_wp2_with fail
                go_ret
                exact ⟨by rw [HR.out]; rfl, hbd2⟩
            · obtain rfl : j = e1.q.length := by omega
              have zj : ¬ (e1.q.length : Int) < (e1.q.length : Int) := by omega
              have hqe : e1.q = e2.q := by
                have h := HJ.out
                rwa [List.take_of_length_le (Nat.le_refl _), List.take_of_length_le (by rw [HE.out]; exact Nat.le_refl _)] at h
              have hnx : Hid ((qs es1).take (k + 1) = (qs es2).take (k + 1)) := Lib.hid (take_eq_snoc HT.out HQ.out.1 (by rw [HQ.out.2, hqe]))
              clear hqe
              go_wp2_with fail
              exact ⟨⟨k + 1, by omega, by go_num, hnx, hb2⟩, by simp [intOf]; omega⟩
        · have heb : ((e1.q.length : Int) != (e2.q.length : Int)) = true := by simp; omega
          have hei : ¬ (e1.q.length : Int) = (e2.q.length : Int) := by omega
          have hr : decide (qs es1 = qs es2) = false := by
            refine decide_eq_false fun hq => he ?_
            have h := HQ.out
            rw [hq] at h
            have := h.1.symm.trans h.2
            injection this with this
            rw [this]
          have HR := Lib.hid hr
          clear hr
          go_upto_region 6 with fail
          go_quiet (fail)
          have hbd := below_drewN hb nq
          go_wp2_with fail
          go_ret
          exact ⟨by rw [HR.out]; rfl, hbd⟩
      · obtain rfl : k = es1.length := by omega
        have z1 : ¬ (es1.length : Int) < (es1.length : Int) := by omega
        have hr : decide (qs es1 = qs es2) = true := by
          refine decide_eq_true ?_
          have h := HT.out
          rw [← qs_take, ← qs_take, List.take_of_length_le (Nat.le_refl _), List.take_of_length_le (by rw [HL.out]; exact Nat.le_refl _)] at h
          exact h
        have HR := Lib.hid hr
        clear hr HT
        go_wp2_with fail
        go_ret
        exact ⟨by rw [HR.out]; rfl, hb⟩
  · have hle : ¬ (es1.length : Int) = (es2.length : Int) := by omega
    have hlb : ((es1.length : Int) != (es2.length : Int)) = true := by simp; omega
    have hr : decide (qs es1 = qs es2) = false := by
      refine decide_eq_false fun hq => hl ?_
      have := congrArg List.length hq
      rw [qs_length, qs_length] at this
      exact this
    have HR := Lib.hid hr
    clear hr
    go_enter Tryd.func19, Tryd.ntmps19
    go_wp2_with fail
    go_ret
    exact ⟨by rw [HR.out]; rfl, Below.refl _ _⟩
end Go.Proofs.YtiaippdaogmcmaaDoor
