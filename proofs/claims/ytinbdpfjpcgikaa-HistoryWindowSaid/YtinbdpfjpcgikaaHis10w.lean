/- Package history, walked: Window. -/
import Derived.Test.YtinbdpfjpcgikaaBase6
import Derived.Test.YtinbdpfjpcgikaaHis10h
import Derived.Test.YtinbdpfjpcgikaaGrd9s
namespace Go.Proofs.Ytinbdpfjpcgikaa
open Go Go.RowKit
set_option linter.unusedVariables false
set_option linter.unusedSimpArgs false

/-- What is kept, and a grid, in the call's own variables. -/
structure Kw10M (w W : World) (A : Option Addr) (c : Nat) (es : List Rl) (m : Int) (B : Option Addr) (d : Nat) (gs : List Rl) : Prop where
  b1 : Box W w.heap.size 27 #[.slice A es.length c, .int .i64 m]
  b2 : Box W (w.heap.size + 1) 47 #[.slice B gs.length d]
  ik : InG W A c es
  ig : InG W B d gs
  bl : Below w.heap.size w W
theorem Kw10M.on {w W V : World} {A : Option Addr} {c : Nat} {es : List Rl} {m : Int} {B : Option Addr} {d : Nat} {gs : List Rl} (h : Kw10M w W A c es m B d gs) (hb : Below W.heap.size W V) : Kw10M w V A c es m B d gs :=
  ⟨h.b1.below hb h.b1.lt, h.b2.below hb h.b2.lt, h.ik.on hb, h.ig.on hb, h.bl.trans (hb.mono h.bl.size)⟩
theorem Kw10M.new {w : World} {A : Option Addr} {c : Nat} {es : List Rl} {m : Int} {B : Option Addr} {d : Nat} {gs : List Rl} (h : InG w A c es) (h2 : InG w B d gs) : Kw10M w ((w.alloc (.cells #[.slice A es.length c, .int .i64 m] 27)).alloc (.cells #[.slice B gs.length d] 47)) A c es m B d gs :=
  have hb : Below w.heap.size w ((w.alloc (.cells #[.slice A es.length c, .int .i64 m] 27)).alloc (.cells #[.slice B gs.length d] 47)) := ((Below.refl _ _).alloc (Nat.le_refl _) _).alloc (by simp) _
  ⟨(Box.new w _ _).alloc _, box10_1 w _ _ _, h.on hb, h2.on hb, hb⟩
theorem window_math {es gs : List Rl} {m n : Int} {K : Nat} (hS : SaneK ⟨rws es, m⟩ ∧ SaneG (rws gs)) (hK : (K : Int) = max 0 (min n (es.length : Int))) :
    rws ((es.drop (fromL K es.length) ++ gs).take (fromL K (es.drop (fromL K es.length) ++ gs).length)) = windowK ⟨rws es, m⟩ (rws gs) n := by
  unfold windowK
  rw [if_pos hS]
  have e1 : fromL K es.length = es.length - K := by unfold fromL; omega
  have e2 : leftK ⟨rws es, m⟩ n = es.length - K := by unfold leftK; simp only [rws_length]; omega
  have e3 : fromL K (es.drop (es.length - K) ++ gs).length = gs.length := by
    unfold fromL
    rw [List.length_append, List.length_drop]
    omega
  rw [e1, e3, e2, rws_take, rws_app, rws_drop, List.drop_append, rws_length, rws_length, show es.length - K - es.length = 0 from by omega, List.drop_zero]
set_option maxRecDepth 100000 in
set_option maxHeartbeats 1000000 in
theorem window10_c : Window10C := by
  intro A c es m B d gs n w hin hok hm hes hig hgk hgs hn
  have HK : Hid (Kw10M w _ A c es m B d gs) := Lib.hid (Kw10M.new hin hig)
  have hs := fun V hI => sane10_c A c es m V hI hok hm hes
  have hg := fun V hI => sane9_c B d gs V hI hgk
  have hw := fun V => within10_c n (es.length : Int) V hn (by unfold I64; omega)
  have HSK := Lib.hid (And.intro hs (And.intro hg hw))
  have hce := hin.rows.cap
  have hcg := hig.rows.cap
  have HNOT : Hid (¬ (SaneK ⟨rws es, m⟩ ∧ SaneG (rws gs)) → windowK ⟨rws es, m⟩ (rws gs) n = []) := Lib.hid fun h => by unfold windowK; rw [if_neg h]
  have HYES : Hid (∀ K : Nat, SaneK ⟨rws es, m⟩ ∧ SaneG (rws gs) → (K : Int) = max 0 (min n (es.length : Int)) → rws ((es.drop (fromL K es.length) ++ gs).take (fromL K (es.drop (fromL K es.length) ++ gs).length)) = windowK ⟨rws es, m⟩ (rws gs) n) := Lib.hid fun K h e => window_math h e
  generalize windowK ⟨rws es, m⟩ (rws gs) n = R at *
  clear hin hig hok hgk hs hg hw hm hn
  go_enter Try.func20, Try.ntmps20
  go_upto_region 1 with fail
  generalize (w.alloc (.cells #[.slice A es.length c, .int .i64 m] 27)).alloc (.cells #[.slice B gs.length d] 47) = W at *
  obtain ⟨k0, k1, k2⟩ : W.cell? ⟨w.heap.size, 0, none⟩ = some (.slice A es.length c) ∧ W.cell? ⟨w.heap.size, 1, none⟩ = some (.int .i64 m) ∧ W.cell? ⟨w.heap.size + 1, 0, none⟩ = some (.slice B gs.length d) := ⟨HK.out.b1.cell 0, HK.out.b1.cell 1, HK.out.b2.cell 0⟩
  have h1 := HSK.out.1 W HK.out.ik
  cases hq : decide (SaneK ⟨rws es, m⟩) with
  | false =>
    rw [hq] at h1
    have HF := Lib.hid (HNOT.out (fun h => of_decide_eq_false hq h.1))
    clear hq
    go_wp2_with fail
    refine h1.mono ?_
    rintro e v1 ⟨rfl, hb⟩
    have HK1 := Lib.hid (HK.out.on hb)
    clear hb h1 k0 k1 k2 HK
    go_wp2_with fail
    go_ret
    exact ⟨none, 0, [], rfl, InG.nil (Nat.zero_le _), by rw [HF.out]; rfl, HK1.out.bl⟩
  | true =>
    rw [hq] at h1
    have HS1 := Lib.hid (of_decide_eq_true hq)
    clear hq
    go_wp2_with fail
    refine h1.mono ?_
    rintro e v1 ⟨rfl, hb⟩
    have HK1 := Lib.hid (HK.out.on hb)
    clear hb h1 k0 k1 k2 HK
    have k2 : v1.cell? ⟨w.heap.size + 1, 0, none⟩ = some (.slice B gs.length d) := HK1.out.b2.cell 0
    have h2 := HSK.out.2.1 v1 HK1.out.ig
    cases hq : decide (SaneG (rws gs)) with
    | false =>
      rw [hq] at h2
      have HF := Lib.hid (HNOT.out (fun h => of_decide_eq_false hq h.2))
      clear hq
      go_wp2_with fail
      refine h2.mono ?_
      rintro e v2 ⟨rfl, hb⟩
      have HK2 := Lib.hid (HK1.out.on hb)
      clear hb h2 k2 HK1
      go_wp2_with fail
      go_ret
      exact ⟨none, 0, [], rfl, InG.nil (Nat.zero_le _), by rw [HF.out]; rfl, HK2.out.bl⟩
    | true =>
      rw [hq] at h2
      have HS2 := Lib.hid (of_decide_eq_true hq)
      clear hq
      go_wp2_with fail
      refine h2.mono ?_
      rintro e v2 ⟨rfl, hb⟩
      have HK2 := Lib.hid (HK1.out.on hb)
      clear hb h2 k2 HK1
      have h3 := HSK.out.2.2 v2
      obtain ⟨K, hK⟩ : ∃ K : Nat, (K : Int) = max 0 (min n (es.length : Int)) := ⟨(max 0 (min n (es.length : Int))).toNat, by omega⟩
      have hKl : K ≤ es.length := by omega
      have HR := Lib.hid (HYES.out K ⟨HS1.out, HS2.out⟩ hK)
      rw [← hK] at h3
      clear HYES HNOT HSK HS1 HS2 hK
      obtain ⟨k0, k2⟩ : v2.cell? ⟨w.heap.size, 0, none⟩ = some (.slice A es.length c) ∧ v2.cell? ⟨w.heap.size + 1, 0, none⟩ = some (.slice B gs.length d) := ⟨HK2.out.b1.cell 0, HK2.out.b2.cell 0⟩
      go_wp2_with fail
      refine h3.mono ?_
      rintro e v3 ⟨rfl, rfl⟩
      clear h3
      have hz2 : w.heap.size + 1 < v2.heap.size := HK2.out.b2.lt
      have m0 := Ext.cell (w := v2) (B := v2.heap.size) (p := ⟨w.heap.size, 0, none⟩) HK2.out.b1.lt k0
      have m2 := Ext.cell (w := v2) (B := v2.heap.size) (p := ⟨w.heap.size + 1, 0, none⟩) HK2.out.b2.lt k2
      have HKD := Lib.hid (HK2.out.on (Below.refl _ _).drew)
      have HDR : Hid (Below v2.heap.size v2 v2.drew) := Lib.hid (Below.refl _ _).drew
      clear HK2 k0 k2
      go_upto_region 4 with fail
      refine region_plan [([0, 1, 2, 4, 5, 7], [3, 6, 8]), ([9], [])] (fun w' => ∃ u : Ext v2 v2.heap.size, w' = u.val) (by kernel_rfl) (by kernel_rfl) (fun _ _ _ _ _ h => h) ⟨⟨_, (Below.refl _ _).drew⟩, rfl⟩ ?_
      simp only [wpPlan, sel, List.take_succ_cons, List.take_zero, List.drop_succ_cons, List.drop_zero, List.cons_append, List.nil_append]
      repeat (go_big_quiet_step (fail))
      refine wpQuiet_nil ?_
      unfold wpChain
      clear m0 m2
      have h4 := last10_c A c es (K : Int) v2.drew HKD.out.ik (by unfold I64; omega) (by omega)
      have hdl : (es.drop (fromL K es.length)).length ≤ 1000 := by rw [List.length_drop]; omega
      generalize es.drop (fromL K es.length) = ds at *
      go_wp2_with fail
      refine h4.mono ?_
      rintro e v4 ⟨Y, rfl, hds, rfl⟩
      have HDS := Lib.hid hds
      clear h4 hds
      go_wp2_with fail
      refine ⟨⟨⟨_, HDR.out⟩, rfl⟩, ?_⟩
      unfold wpChain
      go_wp2_with (at_builtin; refine wpList_append_full rfl _ _ rfl Y ds _ _ rfl rfl rfl HDS.out.rows B d gs _ rfl rfl HKD.out.ig.rows (by omega) ?_)
      intro B5 d5 v5 hrd hb5
      have hb5' : Below v2.heap.size v2 v5 := HDR.out.trans (hb5.mono (by simp))
      have HI5 : Hid (InG v5 B5 d5 (ds ++ gs)) := Lib.hid ⟨hrd, fun e he => (List.mem_append.1 he).elim (fun h => (HDS.out.els e h).on hb5) (fun h => (HKD.out.ig.els e h).on hb5)⟩
      have HB5 := Lib.hid hb5'
      have HBL := Lib.hid (HKD.out.bl.trans (hb5.mono HKD.out.bl.size))
      have hlen : (ds ++ gs).length = ds.length + gs.length := List.length_append
      have h5 := ahead10_c B5 d5 (ds ++ gs) (K : Int) v5 HI5.out (by unfold I64; omega) (by omega)
      clear hrd hb5 hb5' HDS HKD
      generalize (ds ++ gs).take (fromL K (ds ++ gs).length) = zs at *
      rw [hlen] at h5
      clear hlen
      go_wp2_with fail
      refine ⟨⟨⟨_, HB5.out⟩, rfl⟩, ?_⟩
      unfold wpChain
      go_wp2_with fail
      refine h5.mono ?_
      rintro e v6 ⟨Z, z, rfl, hzs, rfl⟩
      have HZS := Lib.hid hzs
      clear h5 hzs
      go_wp2_with fail
      refine ⟨⟨⟨_, HB5.out⟩, rfl⟩, ?_⟩
      unfold wpChain
      repeat (go_big_quiet_step (fail))
      refine wpQuiet_nil ?_
      unfold wpChain
      go_wp2_with fail
      go_ret
      exact ⟨Z, z, zs, rfl, HZS.out, HR.out, HBL.out⟩
end Go.Proofs.Ytinbdpfjpcgikaa
