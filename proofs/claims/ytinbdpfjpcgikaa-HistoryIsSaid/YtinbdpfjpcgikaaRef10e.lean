/- The document's rows that have left, walked: Take. -/
import Derived.Test.YtinbdpfjpcgikaaBase6
import Derived.Laws.ResultCell
import Derived.Test.YtinbdpfjpcgikaaReg3
namespace Go.Proofs.Ytinbdpfjpcgikaa
open Go Go.RowKit
set_option linter.unusedVariables false
set_option linter.unusedSimpArgs false

theorem ret_k2 {fn : Func} {p u : Tmp} (h : fn.results = #[.cell p 24, .tmp u]) (A : Option Addr) (n c : Nat) (m : Int) (tmps : Array Value) (W : World) (g : Nat) (t : TypeId) (x : Value) (hp : tmps.getD p undef = .pointer (some ⟨g, 0, none⟩)) (hx : tmps.getD u undef = x) (hg : Box W g t #[.slice A n c, .int .i64 m]) :
    (results fn tmps).run Try.prog W = .ok (.tuple #[.agg #[.slice A n c, .int .i64 m], x]) W := by
  rw [results_cell_tmp h, hp, hx]
  have := run_loadVar_row (P := Try.prog) W g t 24 #[.slice A n c, .int .i64 m] (0, 0) _ hg Try.underlying24 rfl (by kernel_rfl)
  simp [asAddr, Result.andThen, this]
def GivesT10 (k : Kp) (n : Int) (W : World) (e : Ending) (w' : World) : Prop := ∃ A1 c1 e1 A2 c2 e2, e = .returned (.tuple #[.agg #[.slice A1 (List.length e1) c1, .int .i64 (takeK k n).cap], .slice A2 (List.length e2) c2]) ∧ InG w' A1 c1 e1 ∧ rws e1 = (takeK k n).rs ∧ InG w' A2 c2 e2 ∧ rws e2 = tookK k n ∧ Below W.heap.size W w'
/-- The front is laid anew, an empty row waits for the rest. -/
structure Tk10 (V C : World) (b9 : Nat) (X1 : Option Addr) (c1 : Nat) (l : List Rl) : Prop where
  o1 : OwnG C V.heap.size X1 c1 l
  o9 : OwnG C V.heap.size (some ⟨b9, 0, none⟩) 0 []
  ap : Apart (.slice (some ⟨b9, 0, none⟩) 0 0) (.slice X1 l.length c1)
  bl : Below V.heap.size V C
theorem apart_new {V v : World} {X : Option Addr} {c : Nat} {l : List Rl} (h : OwnG v V.heap.size X c l) : Apart (.slice (some ⟨v.heap.size, 0, none⟩) 0 0) (.slice X l.length c) := fun g hg hx => by
  simp [Value.ownBlock] at hg
  have := (own_block h hx).2
  omega
theorem Tk10.of_keep {V C0 C : World} {b0 b9 : Nat} {X1 : Option Addr} {c1 : Nat} {l : List Rl} (h0 : OwnG C0 V.heap.size (some ⟨b0, 0, none⟩) 0 []) (h9 : OwnG C0 V.heap.size (some ⟨b9, 0, none⟩) 0 []) (hne : b0 ≠ b9) (hb : Below V.heap.size V C0) (hown : OwnG C V.heap.size X1 c1 l) (hO : Own1 C0 C (.slice (some ⟨b0, 0, none⟩) 0 0) (.slice X1 l.length c1)) : Tk10 V C b9 X1 c1 l := by
  have ha : Apart (.slice (some ⟨b0, 0, none⟩) 0 0) (.slice (some ⟨b9, 0, none⟩) 0 0) := fun g hg hx => by
    simp [Value.ownBlock] at hg hx
    omega
  unfold OwnG at h9
  refine ⟨hown, hO.keep h9 ha, (hO.apart h9 ha).symm, hb.trans ((hO.belowBase (base := V.heap.size) hb.size (fun g hg => (own_block h0 hg).1)).mono (Nat.le_refl _))⟩
set_option maxRecDepth 100000 in
set_option maxHeartbeats 2000000 in
theorem rTakeK_c (A : Option Addr) (c : Nat) (es : List Rl) (m n : Int) (w : World) (hin : InG w A c es) (hok : RsOk (rws es)) (hm : I64 m) (hes : es.length ≤ 1000) (hn : I64 n) :
    Calls Try.prog 11 #[.agg #[.slice A es.length c, .int .i64 m], .int .i64 n] w (GivesT10 ⟨rws es, m⟩ n w) := by
  have hbl : Below w.heap.size w ((w.alloc (.cells #[.slice A es.length c, .int .i64 m] 24)).alloc (.cells #[.slice none 0 0, .int .i64 0] 24)) := ((Below.refl _ _).alloc (Nat.le_refl _) _).alloc (by simp) _
  have HK := Lib.hid (And.intro ((Box.new w 24 #[.slice A es.length c, .int .i64 m]).alloc (.cells #[.slice none 0 0, .int .i64 0] 24)) (And.intro (box_at1 w (.cells #[.slice A es.length c, .int .i64 m] 24) 24 #[.slice none 0 0, .int .i64 0]) hbl))
  have HIN := Lib.hid hin
  have hs := fun V (hV : Below w.heap.size w V) => rSaneK_c A c es m V (hin.on hV) hok hm
  have HSK := Lib.hid hs
  obtain ⟨K, hK⟩ : ∃ K : Nat, max 0 (min n (es.length : Int)) = (K : Int) := ⟨(max 0 (min n (es.length : Int))).toNat, by omega⟩
  obtain ⟨T, hT⟩ : ∃ T : Nat, es.length - K = T := ⟨_, rfl⟩
  have HNOT : Hid (¬ SaneK ⟨rws es, m⟩ → takeK ⟨rws es, m⟩ n = ⟨[], 0⟩ ∧ tookK ⟨rws es, m⟩ n = []) := Lib.hid fun h => by unfold takeK tookK; rw [if_neg h, if_neg h]; exact ⟨rfl, rfl⟩
  have HYES : Hid (SaneK ⟨rws es, m⟩ → takeK ⟨rws es, m⟩ n = ⟨(rws es).take T, m⟩ ∧ tookK ⟨rws es, m⟩ n = (rws es).drop T) := Lib.hid fun h => by
    have e : leftK ⟨rws es, m⟩ n = T := by unfold leftK; simp only [rws_length]; rw [hK]; simpa using hT
    unfold takeK tookK
    rw [if_pos h, if_pos h, e]
    exact ⟨rfl, rfl⟩
  unfold GivesT10
  generalize takeK ⟨rws es, m⟩ n = R at *
  generalize tookK ⟨rws es, m⟩ n = Q at *
  have HKT := Lib.hid (And.intro hK hT)
  have hKl : K ≤ es.length := by omega
  have hTl : T ≤ es.length := by omega
  have hce := hin.rows.cap
  unfold I64 at hn
  obtain ⟨hn0, hn1⟩ := hn
  clear hbl hin hs hok hm hK hT
  go_enter Try.func11, Try.ntmps11
  go_upto_region 1 with fail
  generalize (w.alloc (.cells #[.slice A es.length c, .int .i64 m] 24)).alloc (.cells #[.slice none 0 0, .int .i64 0] 24) = W at *
  obtain ⟨k0, k1⟩ : W.cell? ⟨w.heap.size, 0, none⟩ = some (.slice A es.length c) ∧ W.cell? ⟨w.heap.size, 1, none⟩ = some (.int .i64 m) := ⟨HK.out.1.cell 0, HK.out.1.cell 1⟩
  have h1 := HSK.out W HK.out.2.2
  cases hq : decide (SaneK ⟨rws es, m⟩) with
  | false =>
    rw [hq] at h1
    have HF := Lib.hid (HNOT.out (of_decide_eq_false hq))
    clear hq
    go_wp2_with fail
    refine h1.mono ?_
    rintro e v1 ⟨rfl, hb⟩
    have hbr := HK.out.2.1.below hb HK.out.2.1.lt
    have HB := Lib.hid (And.intro hbr (HK.out.2.2.trans (hb.mono HK.out.2.2.size)))
    obtain ⟨f0, f1, j0, j1⟩ : v1.frozen? ⟨w.heap.size + 1, 0, none⟩ = false ∧ v1.frozen? ⟨w.heap.size + 1, 1, none⟩ = false ∧ v1.cell? ⟨w.heap.size + 1, 0, none⟩ = some (.slice none 0 0) ∧ v1.cell? ⟨w.heap.size + 1, 1, none⟩ = some (.int .i64 0) := ⟨hbr.free 0, hbr.free 1, hbr.cell 0, hbr.cell 1⟩
    clear hb h1 k0 k1 hbr
    go_wp2_with fail
    refine bodyPost_ret (ret_k2 rfl none 0 0 0 _ _ (w.heap.size + 1) 24 (.slice none 0 0) rfl rfl ((HB.out.1.set_ 0 (.slice none 0 0)).set_ 1 (.int .i64 0))) rfl ⟨none, 0, [], none, 0, [], by rw [HF.out.1]; rfl, InG.nil (Nat.zero_le _), by rw [HF.out.1]; rfl, InG.nil (Nat.zero_le _), by rw [HF.out.2]; rfl, (HB.out.2.setCell (p := ⟨w.heap.size + 1, 0, none⟩) (Nat.le_succ _) _).setCell (p := ⟨w.heap.size + 1, 1, none⟩) (Nat.le_succ _) _⟩
  | true =>
  rw [hq] at h1
  have HF := Lib.hid (HYES.out (of_decide_eq_true hq))
  clear hq
  go_wp2_with fail
  refine h1.mono ?_
  rintro e V ⟨rfl, hb⟩
  have HV := Lib.hid (And.intro (HK.out.1.below hb HK.out.1.lt) (And.intro (HK.out.2.1.below hb HK.out.2.1.lt) (HK.out.2.2.trans (hb.mono HK.out.2.2.size))))
  clear hb h1 k0 k1 HK
  obtain ⟨k0, k1⟩ : V.cell? ⟨w.heap.size, 0, none⟩ = some (.slice A es.length c) ∧ V.cell? ⟨w.heap.size, 1, none⟩ = some (.int .i64 m) := ⟨HV.out.1.cell 0, HV.out.1.cell 1⟩
  go_upto_region 3 with fail
  go_cut [6] (fun u wx => u = .int .i64 (T : Int) ∧ wx = V)
  case first =>
    go_wp2_with fail
    all_goals
      go_meet
      refine ⟨?_, by first | trivial | rfl⟩
      have h1 := HKT.out
      congr 1
      omega
  case rest =>
  obtain ⟨rfl, hwc⟩ := hcut
  subst wc
  clear k0 k1
  have hzV : w.heap.size + 1 < V.heap.size := HV.out.2.1.lt
  have HZV := Lib.hid hzV
  obtain ⟨hcu, hIu⟩ := HIN.out.upto (b := T) hTl
  obtain ⟨B2, d2, hcf, hIf⟩ := HIN.out.from_ (a := T) hTl
  have hlt : (es.take T).length = T := by rw [List.length_take]; omega
  have hld : (es.drop T).length = es.length - T := List.length_drop
  have HSRC : Hid (∀ C, Below V.heap.size V C → InG C A c (es.take T) ∧ InG C B2 d2 (es.drop T)) := Lib.hid fun C hC => ⟨hIu.on (HV.out.2.2.trans (hC.mono HV.out.2.2.size)), hIf.on (HV.out.2.2.trans (hC.mono HV.out.2.2.size))⟩
  have HRW : Hid (rws (es.take T) = (rws es).take T ∧ rws (es.drop T) = (rws es).drop T) := Lib.hid ⟨rws_take es T, rws_drop es T⟩
  have hl1 : (es.take T).length ≤ 1000 := by omega
  have hl2 : (es.drop T).length ≤ 1000 := by omega
  clear hIu hIf hlt hld
  generalize es.take T = xs at *
  generalize es.drop T = ys at *
  have m0 := Ext.cell (w := V) (B := w.heap.size + 1) (p := ⟨w.heap.size, 0, none⟩) (by simp) (HV.out.1.cell 0)
  have m1 := Ext.cell (w := V) (B := w.heap.size + 1) (p := ⟨w.heap.size, 1, none⟩) (by simp) (HV.out.1.cell 1)
  go_upto_region 4 with fail
  refine region_plan3 [([1, 2, 3, 4, 6, 7, 10, 11, 12, 13], [])] 5 0 5 9 [([], [0, 5]), ([8], [14, 15]), ([16], [])] [([], [5]), ([8], [14, 15]), ([16], [])] [([8], [9, 14, 15]), ([16], [])] (fun w' => ∃ u : Ext V (w.heap.size + 1), w' = u.val) (by kernel_rfl) (by kernel_rfl) (fun _ _ _ _ _ h => h) ⟨⟨_, (Below.refl _ _).drew⟩, rfl⟩ ?_
  simp only [wpPlanK, sel, List.take_succ_cons, List.take_zero, List.drop_succ_cons, List.drop_zero, List.cons_append, List.nil_append]
  repeat (go_big_quiet_step (fail))
  refine wpQuiet_nil ?_
  simp only [wpChain, wpPlan, sel, List.take_succ_cons, List.take_zero, List.drop_succ_cons, List.drop_zero, List.cons_append, List.nil_append]
  clear m0 m1 hcu hcf
  refine ⟨?_, ?_⟩
  · have HB : Hid (Below V.heap.size V (V.alloc (.cells #[] 35)).drew ∧ OwnG (V.alloc (.cells #[] 35)).drew V.heap.size (some ⟨V.heap.size, 0, none⟩) 0 []) := Lib.hid ⟨((Below.refl V.heap.size V).alloc (Nat.le_refl _) _).drew, (empty_ownG V V.heap.size (Nat.le_refl _))⟩
    go_wp2_with fail
    refine ⟨⟨⟨_, HB.out.1.mono (Nat.le_of_lt HZV.out)⟩, rfl⟩, ?_⟩
    generalize (V.alloc (.cells #[] 35)).drew = y1 at *
    refine wpQuiet_nil ?_
    try simp only [wpChain, wpPlan, sel, List.take_succ_cons, List.take_zero, List.drop_succ_cons, List.drop_zero, List.cons_append, List.nil_append]
    have HN : Hid (Below V.heap.size V (y1.alloc (.cells #[] 35)) ∧ OwnG (y1.alloc (.cells #[] 35)) V.heap.size (some ⟨y1.heap.size, 0, none⟩) 0 [] ∧ Below y1.heap.size y1 (y1.alloc (.cells #[] 35))) := Lib.hid ⟨HB.out.1.alloc HB.out.1.size _, empty_ownG y1 V.heap.size HB.out.1.size, (Below.refl _ _).alloc (Nat.le_refl _) _⟩
    go_wp2_with fail
    refine ⟨⟨⟨_, HN.out.1.mono (Nat.le_of_lt HZV.out)⟩, rfl⟩, ?_⟩
    go_wp2_with (at_builtin; refine wpList_append_rows rfl _ _ rfl V.heap.size 0 (some ⟨y1.heap.size, 0, none⟩) [] 0 rfl rfl HN.out.2.1 A c xs xs.length rfl rfl (HSRC.out _ HN.out.1).1.rows (by simp; omega) HN.out.1.size ?_)
    intro X1 c1 y3 hown hO
    try simp only [List.nil_append] at hown hO ⊢
    have HTK : Hid (Tk10 V y3 V.heap.size X1 c1 xs) := Lib.hid (Tk10.of_keep HN.out.2.1 (HB.out.2.on HN.out.2.2) (by have := (own_block HB.out.2 (g := V.heap.size) rfl).2; omega) HN.out.1 hown hO)
    clear hown hO
    go_wp2_with fail
    have hz1 := HTK.out.bl.size
    refine ⟨⟨⟨_, HTK.out.bl.mono (Nat.le_of_lt HZV.out)⟩, rfl⟩, ?_⟩
    try (repeat (go_big_quiet_step (fail)))
    try refine wpQuiet_nil ?_
    try simp only [wpChain, wpPlan, sel, List.take_succ_cons, List.take_zero, List.drop_succ_cons, List.drop_zero, List.cons_append, List.nil_append]
    go_wp2_with (at_builtin; refine wpList_append_rows rfl _ _ rfl V.heap.size 0 (some ⟨V.heap.size, 0, none⟩) [] 0 rfl rfl HTK.out.o9 B2 d2 ys ys.length rfl rfl (HSRC.out _ HTK.out.bl).2.rows (by simp; omega) HTK.out.bl.size ?_)
    intro X2 c2 vf hown hO
    try simp only [List.nil_append] at hown hO ⊢
    have hbf := HTK.out.bl.trans ((hO.belowBase (base := V.heap.size) HTK.out.bl.size (fun g hg => (own_block HTK.out.o9 hg).1)).mono (Nat.le_refl _))
    have hk1 : OwnG vf V.heap.size X1 c1 xs := hO.keep HTK.out.o1 HTK.out.ap
    have hbr := HV.out.2.1.below hbf HZV.out
    have HFIN : Hid (InG vf X1 c1 xs ∧ InG vf X2 c2 ys ∧ Box vf (w.heap.size + 1) 24 #[.slice none 0 0, .int .i64 0] ∧ Below V.heap.size V vf) := Lib.hid ⟨⟨hk1.in_, (HSRC.out _ hbf).1.els⟩, ⟨hown.in_, (HSRC.out _ hbf).2.els⟩, hbr, hbf⟩
    obtain ⟨f0, f1, j0, j1⟩ : vf.frozen? ⟨w.heap.size + 1, 0, none⟩ = false ∧ vf.frozen? ⟨w.heap.size + 1, 1, none⟩ = false ∧ vf.cell? ⟨w.heap.size + 1, 0, none⟩ = some (.slice none 0 0) ∧ vf.cell? ⟨w.heap.size + 1, 1, none⟩ = some (.int .i64 0) := ⟨hbr.free 0, hbr.free 1, hbr.cell 0, hbr.cell 1⟩
    clear hown hO hbf hk1 hbr HTK
    go_wp2_with fail
    refine ⟨⟨⟨_, HFIN.out.2.2.2.mono (Nat.le_of_lt HZV.out)⟩, rfl⟩, ?_⟩
    go_wp2_with fail
    refine ⟨⟨⟨_, ((HFIN.out.2.2.2.mono (Nat.le_of_lt HZV.out)).setCell (p := ⟨w.heap.size + 1, 0, none⟩) (Nat.le_refl _) _).setCell (p := ⟨w.heap.size + 1, 1, none⟩) (Nat.le_refl _) _⟩, rfl⟩, ?_⟩
    try simp only [wpChain, wpPlan, sel, List.take_succ_cons, List.take_zero, List.drop_succ_cons, List.drop_zero, List.cons_append, List.nil_append]
    try (repeat (go_big_quiet_step (fail)))
    try refine wpQuiet_nil ?_
    try simp only [wpChain, wpPlan]
    go_wp2_with fail
    refine bodyPost_ret (ret_k2 rfl X1 xs.length c1 m _ _ (w.heap.size + 1) 24 (.slice X2 ys.length c2) rfl rfl ((HFIN.out.2.2.1.set_ 0 (.slice X1 xs.length c1)).set_ 1 (.int .i64 m))) rfl ⟨X1, c1, xs, X2, c2, ys, by rw [HF.out.1], (HFIN.out.1.far1 HFIN.out.2.2.1 (by simp) 0 _).far1 (HFIN.out.2.2.1.set_ 0 _) (by simp) 1 _, by rw [HF.out.1, HRW.out.1], (HFIN.out.2.1.far1 HFIN.out.2.2.1 (by simp) 0 _).far1 (HFIN.out.2.2.1.set_ 0 _) (by simp) 1 _, by rw [HF.out.2, HRW.out.2], (((HV.out.2.2.trans (HFIN.out.2.2.2.mono HV.out.2.2.size))).setCell (p := ⟨w.heap.size + 1, 0, none⟩) (Nat.le_succ _) _).setCell (p := ⟨w.heap.size + 1, 1, none⟩) (Nat.le_succ _) _⟩
  · have HB : Hid (Below V.heap.size V (V.alloc (.cells #[] 35)).drew ∧ OwnG (V.alloc (.cells #[] 35)).drew V.heap.size (some ⟨V.heap.size, 0, none⟩) 0 []) := Lib.hid ⟨((Below.refl V.heap.size V).alloc (Nat.le_refl _) _).drew, (empty_ownG V V.heap.size (Nat.le_refl _))⟩
    go_wp2_with fail
    refine ⟨⟨⟨_, HB.out.1.mono (Nat.le_of_lt HZV.out)⟩, rfl⟩, ?_, ?_⟩
    generalize (V.alloc (.cells #[] 35)).drew = y1 at *
    · have HN : Hid (Below V.heap.size V (y1.alloc (.cells #[] 35)) ∧ OwnG (y1.alloc (.cells #[] 35)) V.heap.size (some ⟨y1.heap.size, 0, none⟩) 0 [] ∧ Below y1.heap.size y1 (y1.alloc (.cells #[] 35))) := Lib.hid ⟨HB.out.1.alloc HB.out.1.size _, empty_ownG y1 V.heap.size HB.out.1.size, (Below.refl _ _).alloc (Nat.le_refl _) _⟩
      go_wp2_with fail
      refine ⟨⟨⟨_, HN.out.1.mono (Nat.le_of_lt HZV.out)⟩, rfl⟩, ?_⟩
      refine wpQuiet_nil ?_
      try simp only [wpChain, wpPlan, sel, List.take_succ_cons, List.take_zero, List.drop_succ_cons, List.drop_zero, List.cons_append, List.nil_append]
      go_wp2_with (at_builtin; refine wpList_append_rows rfl _ _ rfl V.heap.size 0 (some ⟨V.heap.size, 0, none⟩) [] 0 rfl rfl (HB.out.2.on HN.out.2.2) A c xs xs.length rfl rfl (HSRC.out _ HN.out.1).1.rows (by simp; omega) HN.out.1.size ?_)
      intro X1 c1 y3 hown hO
      try simp only [List.nil_append] at hown hO ⊢
      have HTK : Hid (Tk10 V y3 y1.heap.size X1 c1 xs) := Lib.hid (Tk10.of_keep (HB.out.2.on HN.out.2.2) HN.out.2.1 (by have := (own_block HB.out.2 (g := V.heap.size) rfl).2; omega) HN.out.1 hown hO)
      clear hown hO
      go_wp2_with fail
      have hz1 := HTK.out.bl.size
      refine ⟨⟨⟨_, HTK.out.bl.mono (Nat.le_of_lt HZV.out)⟩, rfl⟩, ?_⟩
      try (repeat (go_big_quiet_step (fail)))
      try refine wpQuiet_nil ?_
      try simp only [wpChain, wpPlan, sel, List.take_succ_cons, List.take_zero, List.drop_succ_cons, List.drop_zero, List.cons_append, List.nil_append]
      go_wp2_with (at_builtin; refine wpList_append_rows rfl _ _ rfl V.heap.size 0 (some ⟨y1.heap.size, 0, none⟩) [] 0 rfl rfl HTK.out.o9 B2 d2 ys ys.length rfl rfl (HSRC.out _ HTK.out.bl).2.rows (by simp; omega) HTK.out.bl.size ?_)
      intro X2 c2 vf hown hO
      try simp only [List.nil_append] at hown hO ⊢
      have hbf := HTK.out.bl.trans ((hO.belowBase (base := V.heap.size) HTK.out.bl.size (fun g hg => (own_block HTK.out.o9 hg).1)).mono (Nat.le_refl _))
      have hk1 : OwnG vf V.heap.size X1 c1 xs := hO.keep HTK.out.o1 HTK.out.ap
      have hbr := HV.out.2.1.below hbf HZV.out
      have HFIN : Hid (InG vf X1 c1 xs ∧ InG vf X2 c2 ys ∧ Box vf (w.heap.size + 1) 24 #[.slice none 0 0, .int .i64 0] ∧ Below V.heap.size V vf) := Lib.hid ⟨⟨hk1.in_, (HSRC.out _ hbf).1.els⟩, ⟨hown.in_, (HSRC.out _ hbf).2.els⟩, hbr, hbf⟩
      obtain ⟨f0, f1, j0, j1⟩ : vf.frozen? ⟨w.heap.size + 1, 0, none⟩ = false ∧ vf.frozen? ⟨w.heap.size + 1, 1, none⟩ = false ∧ vf.cell? ⟨w.heap.size + 1, 0, none⟩ = some (.slice none 0 0) ∧ vf.cell? ⟨w.heap.size + 1, 1, none⟩ = some (.int .i64 0) := ⟨hbr.free 0, hbr.free 1, hbr.cell 0, hbr.cell 1⟩
      clear hown hO hbf hk1 hbr HTK
      go_wp2_with fail
      refine ⟨⟨⟨_, HFIN.out.2.2.2.mono (Nat.le_of_lt HZV.out)⟩, rfl⟩, ?_⟩
      go_wp2_with fail
      refine ⟨⟨⟨_, ((HFIN.out.2.2.2.mono (Nat.le_of_lt HZV.out)).setCell (p := ⟨w.heap.size + 1, 0, none⟩) (Nat.le_refl _) _).setCell (p := ⟨w.heap.size + 1, 1, none⟩) (Nat.le_refl _) _⟩, rfl⟩, ?_⟩
      try simp only [wpChain, wpPlan, sel, List.take_succ_cons, List.take_zero, List.drop_succ_cons, List.drop_zero, List.cons_append, List.nil_append]
      try (repeat (go_big_quiet_step (fail)))
      try refine wpQuiet_nil ?_
      try simp only [wpChain, wpPlan]
      go_wp2_with fail
      refine bodyPost_ret (ret_k2 rfl X1 xs.length c1 m _ _ (w.heap.size + 1) 24 (.slice X2 ys.length c2) rfl rfl ((HFIN.out.2.2.1.set_ 0 (.slice X1 xs.length c1)).set_ 1 (.int .i64 m))) rfl ⟨X1, c1, xs, X2, c2, ys, by rw [HF.out.1], (HFIN.out.1.far1 HFIN.out.2.2.1 (by simp) 0 _).far1 (HFIN.out.2.2.1.set_ 0 _) (by simp) 1 _, by rw [HF.out.1, HRW.out.1], (HFIN.out.2.1.far1 HFIN.out.2.2.1 (by simp) 0 _).far1 (HFIN.out.2.2.1.set_ 0 _) (by simp) 1 _, by rw [HF.out.2, HRW.out.2], (((HV.out.2.2.trans (HFIN.out.2.2.2.mono HV.out.2.2.size))).setCell (p := ⟨w.heap.size + 1, 0, none⟩) (Nat.le_succ _) _).setCell (p := ⟨w.heap.size + 1, 1, none⟩) (Nat.le_succ _) _⟩
    · go_wp2_with (at_builtin; refine wpList_append_rows rfl _ _ rfl V.heap.size 0 (some ⟨V.heap.size, 0, none⟩) [] 0 rfl rfl HB.out.2 A c xs xs.length rfl rfl (HSRC.out _ HB.out.1).1.rows (by simp; omega) HB.out.1.size ?_)
      intro X1 c1 y2 hown hO
      try simp only [List.nil_append] at hown hO ⊢
      have HC : Hid (OwnG y2 V.heap.size X1 c1 xs ∧ Below V.heap.size V y2) := Lib.hid ⟨hown, HB.out.1.trans ((hO.belowBase (base := V.heap.size) HB.out.1.size (fun g hg => (own_block HB.out.2 hg).1)).mono (Nat.le_refl _))⟩
      clear hown hO
      go_wp2_with fail
      refine ⟨⟨⟨_, HC.out.2.mono (Nat.le_of_lt HZV.out)⟩, rfl⟩, ?_⟩
      repeat (go_big_quiet_step (fail))
      refine wpQuiet_nil ?_
      try simp only [wpChain, wpPlan, sel, List.take_succ_cons, List.take_zero, List.drop_succ_cons, List.drop_zero, List.cons_append, List.nil_append]
      have HN : Hid (Below V.heap.size V (y2.alloc (.cells #[] 35)) ∧ OwnG (y2.alloc (.cells #[] 35)) V.heap.size (some ⟨y2.heap.size, 0, none⟩) 0 [] ∧ Below y2.heap.size y2 (y2.alloc (.cells #[] 35))) := Lib.hid ⟨HC.out.2.alloc HC.out.2.size _, empty_ownG y2 V.heap.size HC.out.2.size, (Below.refl _ _).alloc (Nat.le_refl _) _⟩
      go_wp2_with fail
      have HTK : Hid (Tk10 V (y2.alloc (.cells #[] 35)) y2.heap.size X1 c1 xs) := Lib.hid ⟨HC.out.1.on HN.out.2.2, HN.out.2.1, apart_new HC.out.1, HN.out.1⟩
      have hz1 := HTK.out.bl.size
      refine ⟨⟨⟨_, HTK.out.bl.mono (Nat.le_of_lt HZV.out)⟩, rfl⟩, ?_⟩
      try (repeat (go_big_quiet_step (fail)))
      try refine wpQuiet_nil ?_
      try simp only [wpChain, wpPlan, sel, List.take_succ_cons, List.take_zero, List.drop_succ_cons, List.drop_zero, List.cons_append, List.nil_append]
      go_wp2_with (at_builtin; refine wpList_append_rows rfl _ _ rfl V.heap.size 0 (some ⟨y2.heap.size, 0, none⟩) [] 0 rfl rfl HTK.out.o9 B2 d2 ys ys.length rfl rfl (HSRC.out _ HTK.out.bl).2.rows (by simp; omega) HTK.out.bl.size ?_)
      intro X2 c2 vf hown hO
      try simp only [List.nil_append] at hown hO ⊢
      have hbf := HTK.out.bl.trans ((hO.belowBase (base := V.heap.size) HTK.out.bl.size (fun g hg => (own_block HTK.out.o9 hg).1)).mono (Nat.le_refl _))
      have hk1 : OwnG vf V.heap.size X1 c1 xs := hO.keep HTK.out.o1 HTK.out.ap
      have hbr := HV.out.2.1.below hbf HZV.out
      have HFIN : Hid (InG vf X1 c1 xs ∧ InG vf X2 c2 ys ∧ Box vf (w.heap.size + 1) 24 #[.slice none 0 0, .int .i64 0] ∧ Below V.heap.size V vf) := Lib.hid ⟨⟨hk1.in_, (HSRC.out _ hbf).1.els⟩, ⟨hown.in_, (HSRC.out _ hbf).2.els⟩, hbr, hbf⟩
      obtain ⟨f0, f1, j0, j1⟩ : vf.frozen? ⟨w.heap.size + 1, 0, none⟩ = false ∧ vf.frozen? ⟨w.heap.size + 1, 1, none⟩ = false ∧ vf.cell? ⟨w.heap.size + 1, 0, none⟩ = some (.slice none 0 0) ∧ vf.cell? ⟨w.heap.size + 1, 1, none⟩ = some (.int .i64 0) := ⟨hbr.free 0, hbr.free 1, hbr.cell 0, hbr.cell 1⟩
      clear hown hO hbf hk1 hbr HTK
      go_wp2_with fail
      refine ⟨⟨⟨_, HFIN.out.2.2.2.mono (Nat.le_of_lt HZV.out)⟩, rfl⟩, ?_⟩
      go_wp2_with fail
      refine ⟨⟨⟨_, ((HFIN.out.2.2.2.mono (Nat.le_of_lt HZV.out)).setCell (p := ⟨w.heap.size + 1, 0, none⟩) (Nat.le_refl _) _).setCell (p := ⟨w.heap.size + 1, 1, none⟩) (Nat.le_refl _) _⟩, rfl⟩, ?_⟩
      try simp only [wpChain, wpPlan, sel, List.take_succ_cons, List.take_zero, List.drop_succ_cons, List.drop_zero, List.cons_append, List.nil_append]
      try (repeat (go_big_quiet_step (fail)))
      try refine wpQuiet_nil ?_
      try simp only [wpChain, wpPlan]
      go_wp2_with fail
      refine bodyPost_ret (ret_k2 rfl X1 xs.length c1 m _ _ (w.heap.size + 1) 24 (.slice X2 ys.length c2) rfl rfl ((HFIN.out.2.2.1.set_ 0 (.slice X1 xs.length c1)).set_ 1 (.int .i64 m))) rfl ⟨X1, c1, xs, X2, c2, ys, by rw [HF.out.1], (HFIN.out.1.far1 HFIN.out.2.2.1 (by simp) 0 _).far1 (HFIN.out.2.2.1.set_ 0 _) (by simp) 1 _, by rw [HF.out.1, HRW.out.1], (HFIN.out.2.1.far1 HFIN.out.2.2.1 (by simp) 0 _).far1 (HFIN.out.2.2.1.set_ 0 _) (by simp) 1 _, by rw [HF.out.2, HRW.out.2], (((HV.out.2.2.trans (HFIN.out.2.2.2.mono HV.out.2.2.size))).setCell (p := ⟨w.heap.size + 1, 0, none⟩) (Nat.le_succ _) _).setCell (p := ⟨w.heap.size + 1, 1, none⟩) (Nat.le_succ _) _⟩
end Go.Proofs.Ytinbdpfjpcgikaa
