/- Package history, walked: Take. -/
import Derived.Test.YtinbdpfjpcgikaaBase6
import Derived.Test.YtinbdpfjpcgikaaHis10h
import Derived.Laws.ResultCell
namespace Go.Proofs.Ytinbdpfjpcgikaa
open Go Go.RowKit
set_option linter.unusedVariables false
set_option linter.unusedSimpArgs false

theorem retKT10 {fn : Func} {p u : Tmp} (h : fn.results = #[.cell p 27, .tmp u]) (A : Option Addr) (n c : Nat) (m : Int) (tmps : Array Value) (W : World) (g : Nat) (t : TypeId) (x : Value) (hp : tmps.getD p undef = .pointer (some ⟨g, 0, none⟩)) (hx : tmps.getD u undef = x) (hg : Box W g t #[.slice A n c, .int .i64 m]) :
    (results fn tmps).run Try.prog W = .ok (.tuple #[.agg #[.slice A n c, .int .i64 m], x]) W := by
  rw [results_cell_tmp h, hp, hx]
  have := run_loadVar_row (P := Try.prog) W g t 27 #[.slice A n c, .int .i64 m] (0, 0) _ hg Try.underlying27 rfl (by kernel_rfl)
  simp [asAddr, Result.andThen, this]
theorem left_from {es : List Rl} {m n : Int} : leftK ⟨rws es, m⟩ n = fromL n es.length := by unfold leftK fromL; rw [rws_length]
set_option maxRecDepth 100000 in
set_option maxHeartbeats 1000000 in
theorem take10_c : Take10C := by
  intro A c es m n w hin hok hm hes hn
  have HK := Lib.hid (Kp10M.new (m := m) hin)
  have hs := fun V hI => sane10_c A c es m V hI hok hm hes
  have HSK := Lib.hid hs
  have HN := Lib.hid hn
  have hce := hin.rows.cap
  have HNOT : Hid (¬ SaneK ⟨rws es, m⟩ → takeK ⟨rws es, m⟩ n = ⟨[], 0⟩ ∧ tookK ⟨rws es, m⟩ n = []) := Lib.hid fun h => by unfold takeK tookK; rw [if_neg h, if_neg h]; exact ⟨rfl, rfl⟩
  have HYES : Hid (SaneK ⟨rws es, m⟩ → takeK ⟨rws es, m⟩ n = ⟨rws (es.take (fromL n es.length)), m⟩ ∧ tookK ⟨rws es, m⟩ n = rws (es.drop (fromL n es.length))) := Lib.hid fun h => by unfold takeK tookK; rw [if_pos h, if_pos h, left_from, rws_take, rws_drop]; exact ⟨rfl, rfl⟩
  generalize takeK ⟨rws es, m⟩ n = R at *
  generalize tookK ⟨rws es, m⟩ n = R2 at *
  clear hin hok hs hn
  go_enter Try.func10, Try.ntmps10
  go_upto_region 1 with fail
  generalize (w.alloc (.cells #[.slice A es.length c, .int .i64 m] 27)).alloc (.cells #[.slice none 0 0, .int .i64 0] 27) = W at *
  obtain ⟨k0, k1⟩ : W.cell? ⟨w.heap.size, 0, none⟩ = some (.slice A es.length c) ∧ W.cell? ⟨w.heap.size, 1, none⟩ = some (.int .i64 m) := ⟨HK.out.b1.cell 0, HK.out.b1.cell 1⟩
  have h1 := HSK.out W HK.out.ik
  cases hq : decide (SaneK ⟨rws es, m⟩) with
  | false =>
    rw [hq] at h1
    have HF := Lib.hid (HNOT.out (of_decide_eq_false hq))
    clear hq
    go_wp2_with fail
    refine h1.mono ?_
    rintro e v1 ⟨rfl, hb⟩
    have HK1 := Lib.hid (HK.out.on hb)
    clear hb h1 k0 k1 HK
    obtain ⟨f0, f1, j0, j1⟩ : v1.frozen? ⟨w.heap.size + 1, 0, none⟩ = false ∧ v1.frozen? ⟨w.heap.size + 1, 1, none⟩ = false ∧ v1.cell? ⟨w.heap.size + 1, 0, none⟩ = some (.slice none 0 0) ∧ v1.cell? ⟨w.heap.size + 1, 1, none⟩ = some (.int .i64 0) := ⟨HK1.out.b2.free 0, HK1.out.b2.free 1, HK1.out.b2.cell 0, HK1.out.b2.cell 1⟩
    go_wp2_with fail
    refine bodyPost_ret (retKT10 rfl none 0 0 0 _ _ (w.heap.size + 1) 27 (.slice none 0 0) rfl rfl ((HK1.out.b2.set_ 0 (.slice none 0 0)).set_ 1 (.int .i64 0))) rfl ⟨none, 0, [], none, 0, [], by rw [HF.out.1]; rfl, InG.nil (Nat.zero_le _), by rw [HF.out.1]; rfl, InG.nil (Nat.zero_le _), by rw [HF.out.2]; rfl, (HK1.out.bl.setCell (p := ⟨w.heap.size + 1, 0, none⟩) (Nat.le_succ _) _).setCell (p := ⟨w.heap.size + 1, 1, none⟩) (Nat.le_succ _) _⟩
  | true =>
    rw [hq] at h1
    have HF := Lib.hid (HYES.out (of_decide_eq_true hq))
    clear hq
    go_wp2_with fail
    refine h1.mono ?_
    rintro e v1 ⟨rfl, hb⟩
    have HK1 := Lib.hid (HK.out.on hb)
    clear hb h1 k0 k1 HK
    have m0 := Ext.cell (w := v1) (B := w.heap.size + 1) (p := ⟨w.heap.size, 0, none⟩) (Nat.lt_succ_self _) (HK1.out.b1.cell 0)
    have m1 := Ext.cell (w := v1) (B := w.heap.size + 1) (p := ⟨w.heap.size, 1, none⟩) (Nat.lt_succ_self _) (HK1.out.b1.cell 1)
    have HB1 : Hid (Below (w.heap.size + 1) v1 v1.drew) := Lib.hid (Below.refl _ _).drew
    have HKD := Lib.hid (HK1.out.on (Below.refl _ _).drew)
    clear HK1
    go_upto_region 3 with fail
    refine region_plan [([0, 1, 2, 4, 5, 7, 8, 9], [3]), ([6], [10, 11]), ([12], [])] (fun w' => ∃ u : Ext v1 (w.heap.size + 1), w' = u.val) (by kernel_rfl) (by kernel_rfl) (fun _ _ _ _ _ h => h) ⟨⟨_, (Below.refl _ _).drew⟩, rfl⟩ ?_
    simp only [wpPlan, sel, List.take_succ_cons, List.take_zero, List.drop_succ_cons, List.drop_zero, List.cons_append, List.nil_append]
    repeat (go_big_quiet_step (fail))
    refine wpQuiet_nil ?_
    unfold wpChain
    clear m0 m1
    have h2 := ahead10_c A c es n v1.drew HKD.out.ik HN.out (by omega)
    have h3 := last10_c A c es n v1.drew HKD.out.ik HN.out (by omega)
    generalize es.take (fromL n es.length) = ts at *
    generalize es.drop (fromL n es.length) = ds at *
    go_wp2_with fail
    refine h2.mono ?_
    rintro e v2 ⟨Y, y, rfl, hts, rfl⟩
    have HTS := Lib.hid hts
    clear h2 hts
    go_wp2_with fail
    refine ⟨⟨⟨_, HB1.out⟩, rfl⟩, ?_⟩
    unfold wpChain
    repeat (go_big_quiet_step (fail))
    refine wpQuiet_nil ?_
    unfold wpChain
    go_wp2_with fail
    refine h3.mono ?_
    rintro e v3 ⟨Z, rfl, hds, rfl⟩
    have HDS := Lib.hid hds
    clear h3 hds
    go_wp2_with fail
    refine ⟨⟨⟨_, HB1.out⟩, rfl⟩, ?_⟩
    unfold wpChain
    generalize v1.drew = V at *
    obtain ⟨f0, f1, j0, j1⟩ : V.frozen? ⟨w.heap.size + 1, 0, none⟩ = false ∧ V.frozen? ⟨w.heap.size + 1, 1, none⟩ = false ∧ V.cell? ⟨w.heap.size + 1, 0, none⟩ = some (.slice none 0 0) ∧ V.cell? ⟨w.heap.size + 1, 1, none⟩ = some (.int .i64 0) := ⟨HKD.out.b2.free 0, HKD.out.b2.free 1, HKD.out.b2.cell 0, HKD.out.b2.cell 1⟩
    have HST : Hid (Below (w.heap.size + 1) v1 ((V.setCell ⟨w.heap.size + 1, 0, none⟩ (.slice Y ts.length y)).setCell ⟨w.heap.size + 1, 1, none⟩ (.int .i64 m))) := Lib.hid ((HB1.out.setCell (p := ⟨w.heap.size + 1, 0, none⟩) (Nat.le_refl _) _).setCell (p := ⟨w.heap.size + 1, 1, none⟩) (Nat.le_refl _) _)
    go_wp2_with fail
    refine ⟨⟨⟨_, HST.out⟩, rfl⟩, ?_⟩
    unfold wpChain
    repeat (go_big_quiet_step (fail))
    refine wpQuiet_nil ?_
    unfold wpChain
    go_wp2_with fail
    refine bodyPost_ret (retKT10 rfl Y ts.length y m _ _ (w.heap.size + 1) 27 (.slice Z ds.length ds.length) rfl rfl ((HKD.out.b2.set_ 0 (.slice Y ts.length y)).set_ 1 (.int .i64 m))) rfl ⟨Y, y, ts, Z, ds.length, ds, by rw [HF.out.1], (HTS.out.far1 HKD.out.b2 (by simp) 0 _).far1 (HKD.out.b2.set_ 0 _) (by simp) 1 _, by rw [HF.out.1], (HDS.out.far1 HKD.out.b2 (by simp) 0 _).far1 (HKD.out.b2.set_ 0 _) (by simp) 1 _, by rw [HF.out.2], (HKD.out.bl.setCell (p := ⟨w.heap.size + 1, 0, none⟩) (Nat.le_succ _) _).setCell (p := ⟨w.heap.size + 1, 1, none⟩) (Nat.le_succ _) _⟩
end Go.Proofs.Ytinbdpfjpcgikaa
