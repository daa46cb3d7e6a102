/- The document's rows that have left, walked: At, Cells. -/
import Derived.Test.YtinbdpfjpcgikaaBase6
import Derived.Laws.ResultCell
namespace Go.Proofs.Ytinbdpfjpcgikaa
open Go Go.RowKit
set_option linter.unusedVariables false
set_option linter.unusedSimpArgs false

theorem ret_r2 {fn : Func} {p u : Tmp} (h : fn.results = #[.cell p 35, .tmp u]) (A : Option Addr) (n c : Nat) (b1 : Bool) (i : Int) (b2 : Bool) (tmps : Array Value) (W : World) (g : Nat) (t : TypeId) (x : Value) (hp : tmps.getD p undef = .pointer (some ⟨g, 0, none⟩)) (hx : tmps.getD u undef = x) (hg : Box W g t #[.slice A n c, .bool b1, .int .i64 i, .bool b2]) :
    (results fn tmps).run Try.prog W = .ok (.tuple #[.agg #[.slice A n c, .bool b1, .int .i64 i, .bool b2], x]) W := by
  rw [results_cell_tmp h, hp, hx]
  have := run_loadVar_row (P := Try.prog) W g t 35 #[.slice A n c, .bool b1, .int .i64 i, .bool b2] (0, 0) _ hg Try.underlying35 rfl (by kernel_rfl)
  simp [asAddr, Result.andThen, this]
/-- What is kept in the call's own variable, and a row's place. -/
structure Kr (w W : World) (A : Option Addr) (c : Nat) (es : List Rl) (m : Int) : Prop where
  b1 : Box W w.heap.size 24 #[.slice A es.length c, .int .i64 m]
  b2 : Box W (w.heap.size + 1) 35 #[.slice none 0 0, .bool false, .int .i64 0, .bool false]
  ik : InG W A c es
  bl : Below w.heap.size w W
theorem Kr.on {w W V : World} {A : Option Addr} {c : Nat} {es : List Rl} {m : Int} (h : Kr w W A c es m) (hb : Below W.heap.size W V) : Kr w V A c es m :=
  ⟨h.b1.below hb h.b1.lt, h.b2.below hb h.b2.lt, h.ik.on hb, h.bl.trans (hb.mono h.bl.size)⟩
theorem atK_not {k : Kp} {n : Int} (h : ¬ AtK k n) : atK k n = zeroR := by unfold atK; rw [if_neg h]
set_option maxRecDepth 100000 in
set_option maxHeartbeats 1000000 in
theorem rAtK_c (A : Option Addr) (c : Nat) (es : List Rl) (m n : Int) (w : World) (hin : InG w A c es) (hok : RsOk (rws es)) (hm : I64 m) (hn : I64 n) :
    Calls Try.prog 13 #[.agg #[.slice A es.length c, .int .i64 m], .int .i64 n] w fun e w' => ∃ x : Rl, e = .returned (.tuple #[.agg #[.slice x.A x.r.cs.length x.c, .bool x.r.wrap, .int .i64 x.r.dir, .bool x.r.ex], .bool (decide (AtK ⟨rws es, m⟩ n))]) ∧ InC w' x.A x.c x.r.cs ∧ x.r = atK ⟨rws es, m⟩ n ∧ Below w.heap.size w w' := by
  have hbl : Below w.heap.size w ((w.alloc (.cells #[.slice A es.length c, .int .i64 m] 24)).alloc (.cells #[.slice none 0 0, .bool false, .int .i64 0, .bool false] 35)) := ((Below.refl _ _).alloc (Nat.le_refl _) _).alloc (by simp) _
  have HK : Hid (Kr w ((w.alloc (.cells #[.slice A es.length c, .int .i64 m] 24)).alloc (.cells #[.slice none 0 0, .bool false, .int .i64 0, .bool false] 35)) A c es m) := Lib.hid ⟨(Box.new w _ _).alloc _, box_at1 w _ _ _, hin.on hbl, hbl⟩
  have hmax := hin.rows.max
  have hcap := hin.rows.cap
  unfold maxLen at hmax
  unfold I64 at hn
  obtain ⟨hn0, hn1⟩ := hn
  have hs := fun V hI => rSaneK_c A c es m V hI hok hm
  have HSS := Lib.hid hs
  generalize hD : decide (AtK ⟨rws es, m⟩ n) = D
  generalize hR : atK ⟨rws es, m⟩ n = R
  have HD := Lib.hid (And.intro hD hR)
  clear hbl hin hok hm hs hD hR
  have fin : ∀ W, Kr w W A c es m → R = zeroR → ∃ x : Rl, (Ending.returned (.tuple #[.agg #[.slice none 0 0, .bool false, .int .i64 0, .bool false], .bool false]) : Ending) = .returned (.tuple #[.agg #[.slice x.A x.r.cs.length x.c, .bool x.r.wrap, .int .i64 x.r.dir, .bool x.r.ex], .bool false]) ∧ InC ((((W.setCell ⟨w.heap.size + 1, 0, none⟩ (.slice none 0 0)).setCell ⟨w.heap.size + 1, 1, none⟩ (.bool false)).setCell ⟨w.heap.size + 1, 2, none⟩ (.int .i64 0)).setCell ⟨w.heap.size + 1, 3, none⟩ (.bool false)) x.A x.c x.r.cs ∧ x.r = R ∧ Below w.heap.size w ((((W.setCell ⟨w.heap.size + 1, 0, none⟩ (.slice none 0 0)).setCell ⟨w.heap.size + 1, 1, none⟩ (.bool false)).setCell ⟨w.heap.size + 1, 2, none⟩ (.int .i64 0)).setCell ⟨w.heap.size + 1, 3, none⟩ (.bool false)) := fun W hK hR => ⟨⟨none, 0, zeroR⟩, rfl, InC.nil (Nat.zero_le _), hR.symm, (hK.b2.put4 hK.bl (Nat.le_succ _) _ _ _ _).2⟩
  have FIN := Lib.hid fin
  clear fin
  go_enter Try.func13, Try.ntmps13
  go_upto_region 1 with fail
  generalize (w.alloc (.cells #[.slice A es.length c, .int .i64 m] 24)).alloc (.cells #[.slice none 0 0, .bool false, .int .i64 0, .bool false] 35) = W at *
  obtain ⟨k0, k1⟩ : W.cell? ⟨w.heap.size, 0, none⟩ = some (.slice A es.length c) ∧ W.cell? ⟨w.heap.size, 1, none⟩ = some (.int .i64 m) := ⟨HK.out.b1.cell 0, HK.out.b1.cell 1⟩
  have h1 := HSS.out W HK.out.ik
  cases hq : decide (SaneK ⟨rws es, m⟩) with
  | false =>
    rw [hq] at h1
    have HF : Hid (D = false ∧ R = zeroR) := Lib.hid (by
      have hne : ¬ AtK ⟨rws es, m⟩ n := fun h => of_decide_eq_false hq h.1
      exact ⟨by rw [← HD.out.1]; exact decide_eq_false hne, by rw [← HD.out.2]; exact atK_not hne⟩)
    clear hq
    go_wp2_with fail
    refine h1.mono ?_
    rintro e v1 ⟨rfl, hb⟩
    have HK1 := Lib.hid (HK.out.on hb)
    clear hb h1 k0 k1 HK
    obtain ⟨⟨f0, f1, f2, f3⟩, j0, j1, j2, j3⟩ : (v1.frozen? ⟨w.heap.size + 1, 0, none⟩ = false ∧ v1.frozen? ⟨w.heap.size + 1, 1, none⟩ = false ∧ v1.frozen? ⟨w.heap.size + 1, 2, none⟩ = false ∧ v1.frozen? ⟨w.heap.size + 1, 3, none⟩ = false) ∧ v1.cell? ⟨w.heap.size + 1, 0, none⟩ = some (.slice none 0 0) ∧ v1.cell? ⟨w.heap.size + 1, 1, none⟩ = some (.bool false) ∧ v1.cell? ⟨w.heap.size + 1, 2, none⟩ = some (.int .i64 0) ∧ v1.cell? ⟨w.heap.size + 1, 3, none⟩ = some (.bool false) := ⟨⟨HK1.out.b2.free 0, HK1.out.b2.free 1, HK1.out.b2.free 2, HK1.out.b2.free 3⟩, HK1.out.b2.cell 0, HK1.out.b2.cell 1, HK1.out.b2.cell 2, HK1.out.b2.cell 3⟩
    go_wp2_with fail
    have hf := FIN.out v1 HK1.out HF.out.2
    rw [HF.out.1]
    exact bodyPost_ret (ret_r2 rfl none 0 0 false 0 false _ _ (w.heap.size + 1) 35 (.bool false) rfl rfl (HK1.out.b2.put4 HK1.out.bl (Nat.le_succ _) _ _ _ _).1) rfl hf
  | true =>
    rw [hq] at h1
    have HS := Lib.hid (of_decide_eq_true hq)
    clear hq
    go_wp2_with fail
    refine h1.mono ?_
    rintro e v1 ⟨rfl, hb⟩
    have HK1 := Lib.hid (HK.out.on hb)
    clear hb h1 k0 k1 HK
    obtain ⟨k0, k1⟩ : v1.cell? ⟨w.heap.size, 0, none⟩ = some (.slice A es.length c) ∧ v1.cell? ⟨w.heap.size, 1, none⟩ = some (.int .i64 m) := ⟨HK1.out.b1.cell 0, HK1.out.b1.cell 1⟩
    obtain ⟨⟨f0, f1, f2, f3⟩, j0, j1, j2, j3⟩ : (v1.frozen? ⟨w.heap.size + 1, 0, none⟩ = false ∧ v1.frozen? ⟨w.heap.size + 1, 1, none⟩ = false ∧ v1.frozen? ⟨w.heap.size + 1, 2, none⟩ = false ∧ v1.frozen? ⟨w.heap.size + 1, 3, none⟩ = false) ∧ v1.cell? ⟨w.heap.size + 1, 0, none⟩ = some (.slice none 0 0) ∧ v1.cell? ⟨w.heap.size + 1, 1, none⟩ = some (.bool false) ∧ v1.cell? ⟨w.heap.size + 1, 2, none⟩ = some (.int .i64 0) ∧ v1.cell? ⟨w.heap.size + 1, 3, none⟩ = some (.bool false) := ⟨⟨HK1.out.b2.free 0, HK1.out.b2.free 1, HK1.out.b2.free 2, HK1.out.b2.free 3⟩, HK1.out.b2.cell 0, HK1.out.b2.cell 1, HK1.out.b2.cell 2, HK1.out.b2.cell 3⟩
    rcases (show n < 0 ∨ (0 ≤ n ∧ (es.length : Int) ≤ n) ∨ (0 ≤ n ∧ n < es.length) by omega) with q | ⟨q, q'⟩ | ⟨q, q'⟩
    · have HF : Hid (D = false ∧ R = zeroR) := Lib.hid (by
        have hne : ¬ AtK ⟨rws es, m⟩ n := fun h => by have := h.2.1; omega
        exact ⟨by rw [← HD.out.1]; exact decide_eq_false hne, by rw [← HD.out.2]; exact atK_not hne⟩)
      go_wp2_with fail
      have hf := FIN.out v1 HK1.out HF.out.2
      rw [HF.out.1]
      exact bodyPost_ret (ret_r2 rfl none 0 0 false 0 false _ _ (w.heap.size + 1) 35 (.bool false) rfl rfl (HK1.out.b2.put4 HK1.out.bl (Nat.le_succ _) _ _ _ _).1) rfl hf
    · have HF : Hid (D = false ∧ R = zeroR) := Lib.hid (by
        have hne : ¬ AtK ⟨rws es, m⟩ n := fun h => by have := h.2.2; simp only [rws_length] at this; omega
        exact ⟨by rw [← HD.out.1]; exact decide_eq_false hne, by rw [← HD.out.2]; exact atK_not hne⟩)
      have z0 : ¬ n < 0 := by omega
      have z1 : n ≥ (es.length : Int) := by omega
      go_wp2_with fail
      have hf := FIN.out v1 HK1.out HF.out.2
      rw [HF.out.1]
      exact bodyPost_ret (ret_r2 rfl none 0 0 false 0 false _ _ (w.heap.size + 1) 35 (.bool false) rfl rfl (HK1.out.b2.put4 HK1.out.bl (Nat.le_succ _) _ _ _ _).1) rfl hf
    · obtain ⟨N, rfl⟩ : ∃ N : Nat, n = N := ⟨n.toNat, by omega⟩
      have ha : AtK ⟨rws es, m⟩ (N : Int) := ⟨HS.out, q, by simp only [rws_length]; exact q'⟩
      obtain ⟨i, hi⟩ : ∃ i : Nat, es.length - 1 - N = i := ⟨_, rfl⟩
      have hii : (es.length : Int) - 1 - (N : Int) = (i : Int) := by omega
      have hil : i < es.length := by omega
      obtain ⟨x, hx⟩ : ∃ x, es[i]? = some x := ⟨_, List.getElem?_eq_getElem hil⟩
      have HF : Hid (D = true ∧ R = x.r) := Lib.hid ⟨by rw [← HD.out.1]; exact decide_eq_true ha, by
        rw [← HD.out.2]
        unfold atK
        rw [if_pos ha]
        simp only [rws_length, Int.toNat_natCast]
        rw [hi, rws_at hx]
        rfl⟩
      have z0 : ¬ (N : Int) < 0 := by omega
      have z1 : ¬ (N : Int) ≥ (es.length : Int) := by omega
      have zi : (i : Int) < (es.length : Int) := by omega
      obtain ⟨b, o, rfl, hB, p0, p1, p2, p3⟩ := HK1.out.ik.rows.at_ hx
      have HXI := Lib.hid (HK1.out.ik.els x (List.mem_of_getElem? hx))
      clear ha hi hx hB
      go_wp2_with fail
      rw [HF.out.1, HF.out.2]
      have hp4 := HK1.out.b2.put4 HK1.out.bl (Nat.le_succ _) (.slice x.A x.r.cs.length x.c) (.bool x.r.wrap) (.int .i64 x.r.dir) (.bool x.r.ex)
      refine bodyPost_ret (ret_r2 rfl x.A x.r.cs.length x.c x.r.wrap x.r.dir x.r.ex _ _ (w.heap.size + 1) 35 (.bool true) rfl rfl hp4.1) rfl ⟨x, rfl, HXI.out.far4 HK1.out.b2 (by simp) _ _ _ _, rfl, hp4.2⟩
theorem sumC_take {l : List Rw} {k : Nat} {r : Rw} (h : l[k]? = some r) : sumC (l.take (k + 1)) = sumC (l.take k) + r.cs.length := by
  obtain ⟨hk, he⟩ := List.getElem?_eq_some_iff.1 h
  rw [List.take_succ_eq_append_getElem hk, sumC_app, he]
  simp [sumC]
theorem sumC_le {l : List Rw} (h : ∀ r ∈ l, SaneR r) : sumC l ≤ 4096 * l.length := by
  induction l with
  | nil => simp [sumC]
  | cons x l ih =>
    have h1 := (h x (by simp)).1.2
    have h2 := ih fun r hr => h r (by simp [hr])
    simp only [sumC, List.length_cons]
    omega
set_option maxRecDepth 100000 in
set_option maxHeartbeats 1000000 in
theorem rCellsK_c (A : Option Addr) (c : Nat) (es : List Rl) (m : Int) (w : World) (hin : InG w A c es) (hok : RsOk (rws es)) (hm : I64 m) :
    Calls Try.prog 23 #[.agg #[.slice A es.length c, .int .i64 m]] w fun e w' => e = .returned (.int .i64 (cellsK ⟨rws es, m⟩ : Int)) ∧ Below w.heap.size w w' := by
  generalize hR : cellsK ⟨rws es, m⟩ = R
  have hcap := hin.rows.cap
  have hmax := hin.rows.max
  unfold maxLen at hmax
  have hgb : Below w.heap.size w (w.alloc (.cells #[.slice A es.length c, .int .i64 m] 24)) := (Below.refl _ _).alloc (Nat.le_refl _) _
  have HG := Lib.hid (And.intro (Box.new w 24 #[.slice A es.length c, .int .i64 m]) (And.intro hgb (hin.on hgb)))
  have hs := fun V hI => rSaneK_c A c es m V hI hok hm
  have HSS := Lib.hid hs
  have HR := Lib.hid hR
  clear hR hgb hin hs hok hm
  go_enter Try.func23, Try.ntmps23
  go_upto_region 1 with fail
  generalize w.alloc (.cells #[.slice A es.length c, .int .i64 m] 24) = W at *
  cases hq : decide (SaneK ⟨rws es, m⟩) with
  | false =>
    rw [hq] at HSS
    have HF : Hid (R = 0) := Lib.hid (by rw [← HR.out]; unfold cellsK; rw [if_neg (of_decide_eq_false hq)])
    clear hq
    by_cases hz : 0 < es.length
    · have z1 : (0 : Int) < (es.length : Int) := by omega
      have k0 : W.cell? ⟨w.heap.size, 0, none⟩ = some (.slice A es.length c) := HG.out.1.cell 0
      have k1 : W.cell? ⟨w.heap.size, 1, none⟩ = some (.int .i64 m) := HG.out.1.cell 1
      have h1 := HSS.out W HG.out.2.2
      go_wp2_with fail
      go_loopw [3, 4] (fun u3 u4 wr => u3 = .int .i64 0 ∧ u4 = .int .i64 0 ∧ wr = W) (fun _ _ _ => 0)
      case atStart => exact ⟨rfl, rfl, rfl⟩
      case round =>
        obtain ⟨rfl, rfl, rfl⟩ := hrel
        go_wp2_with fail
        refine h1.mono ?_
        rintro e v1 ⟨rfl, hb⟩
        have hbl := HG.out.2.1.trans (hb.mono HG.out.2.1.size)
        clear hb h1 k0 k1
        go_wp2_with fail
        go_ret
        refine ⟨?_, hbl⟩
        rw [HF.out]
        rfl
    · have z1 : ¬ (0 : Int) < (es.length : Int) := by omega
      have k0 : W.cell? ⟨w.heap.size, 0, none⟩ = some (.slice A es.length c) := HG.out.1.cell 0
      go_wp2_with fail
      go_loopw [3, 4] (fun u3 u4 wr => u3 = .int .i64 0 ∧ u4 = .int .i64 0 ∧ wr = W) (fun _ _ _ => 0)
      case atStart => exact ⟨rfl, rfl, rfl⟩
      case round =>
        obtain ⟨rfl, rfl, rfl⟩ := hrel
        go_wp2_with fail
        go_ret
        refine ⟨?_, HG.out.2.1⟩
        rw [HF.out]
        rfl
  | true =>
    rw [hq] at HSS
    have hS := of_decide_eq_true hq
    have HF : Hid (R = sumC (rws es)) := Lib.hid (by rw [← HR.out]; unfold cellsK; rw [if_pos hS])
    have HS := Lib.hid hS
    have hl200 : es.length ≤ 200 := by have := hS.few; simp only [rws_length] at this; exact this
    clear hq hS
    have hW0 : Below W.heap.size W W := Below.refl _ _
    go_wp2_with fail
    go_loopw [3, 4] (fun u3 u4 wr => ∃ i s : Nat, i ≤ es.length ∧ u4 = .int .i64 (i : Int) ∧ u3 = .int .i64 (s : Int) ∧ Hid (s = sumC ((rws es).take i)) ∧ Hid (Below W.heap.size W wr)) (fun _ u4 _ => es.length - (intOf u4).toNat)
    case atStart => exact ⟨0, 0, Nat.zero_le _, rfl, rfl, Lib.hid (by simp [sumC]), Lib.hid hW0⟩
    case round =>
      obtain ⟨i, sm, hi, rfl, rfl, HT, HV⟩ := hrel
      clear hW0
      have hbx := HG.out.1.below HV.out HG.out.1.lt
      obtain ⟨k0, k1⟩ : wr.cell? ⟨w.heap.size, 0, none⟩ = some (.slice A es.length c) ∧ wr.cell? ⟨w.heap.size, 1, none⟩ = some (.int .i64 m) := ⟨hbx.cell 0, hbx.cell 1⟩
      clear hbx
      by_cases hlt : i < es.length
      · obtain ⟨x, hx⟩ : ∃ x, es[i]? = some x := ⟨_, List.getElem?_eq_getElem hlt⟩
        have z1 : (i : Int) < (es.length : Int) := by omega
        have h1 := HSS.out wr (HG.out.2.2.on HV.out)
        have hxl : x.r.cs.length ≤ 4096 := (HS.out.1 x.r (List.mem_of_getElem? (rws_at hx))).1.2
        have hsl : sm ≤ 819200 := by
          rw [HT.out]
          have h2 := sumC_le (l := (rws es).take i) (fun r hr => HS.out.1 r (List.mem_of_mem_take hr))
          have h3 : ((rws es).take i).length ≤ 200 := by rw [List.length_take, rws_length]; omega
          omega
        have HT1 : Hid (sm + x.r.cs.length = sumC ((rws es).take (i + 1))) := Lib.hid (by rw [sumC_take (rws_at hx), HT.out])
        have HX := Lib.hid hx
        clear hx
        go_wp2_with fail
        refine h1.mono ?_
        rintro e v1 ⟨rfl, hb⟩
        have HV1 := Lib.hid (HV.out.trans (hb.mono HV.out.size))
        clear hb h1 k0 k1
        have hbx := HG.out.1.below HV1.out HG.out.1.lt
        obtain ⟨b, o, rfl, -, p0, -, -, -⟩ := (HG.out.2.2.on HV1.out).rows.at_ HX.out
        have k0 : v1.cell? ⟨w.heap.size, 0, none⟩ = some (.slice (some ⟨b, o, none⟩) es.length c) := hbx.cell 0
        clear hbx
        go_wp2_with fail
        exact ⟨⟨i + 1, sm + x.r.cs.length, by omega, by simp, by simp, HT1, HV1⟩, by simp [intOf]; omega⟩
      · obtain rfl : i = es.length := by omega
        have z1 : ¬ (es.length : Int) < (es.length : Int) := by omega
        have HE : Hid (R = sm) := Lib.hid (by rw [HF.out, HT.out]; rw [show es.length = (rws es).length from (rws_length es).symm, List.take_length])
        go_wp2_with fail
        go_ret
        refine ⟨?_, HG.out.2.1.trans (HV.out.mono HG.out.2.1.size)⟩
        rw [HE.out]
        rfl
end Go.Proofs.Ytinbdpfjpcgikaa
