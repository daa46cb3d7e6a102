/- The document's rows that have left, walked: Window. -/
import Derived.Test.YtinbdpfjpcgikaaBase6
namespace Go.Proofs.Ytinbdpfjpcgikaa
open Go Go.RowKit
set_option linter.unusedVariables false
set_option linter.unusedSimpArgs false

/-- Elements' cells beside a row of the call's own that turns: old ones stay. -/
theorem own_in {w v : World} {base : Nat} {B : Option Addr} {d : Nat} {l : List Rl} (ho : OwnG v base B d l) (hb : Below w.heap.size w v) (hel : ∀ e ∈ l, InC w e.A e.c e.r.cs) : InG v B d l :=
  ⟨ho.in_, fun e he => (hel e he).on hb⟩
set_option maxRecDepth 100000 in
set_option maxHeartbeats 1000000 in
theorem rWindowK_c (A : Option Addr) (c : Nat) (es : List Rl) (m : Int) (B : Option Addr) (d : Nat) (gs : List Rl) (n : Int) (w : World) (hin : InG w A c es) (hok : RsOk (rws es)) (hm : I64 m) (hig : InG w B d gs) (hgk : RsOk (rws gs)) (hn : I64 n) (hes : es.length ≤ 1000) (hgs : gs.length ≤ 1000) :
    Calls Try.prog 21 #[.agg #[.slice A es.length c, .int .i64 m], .agg #[.slice B gs.length d], .int .i64 n] w (GivesG (windowK ⟨rws es, m⟩ (rws gs) n) w) := by
  have hbl : Below w.heap.size w ((w.alloc (.cells #[.slice A es.length c, .int .i64 m] 24)).alloc (.cells #[.slice B gs.length d] 49)) := ((Below.refl _ _).alloc (Nat.le_refl _) _).alloc (by simp) _
  have HK := Lib.hid (And.intro ((Box.new w 24 #[.slice A es.length c, .int .i64 m]).alloc (.cells #[.slice B gs.length d] 49)) (And.intro (box_at1 w (.cells #[.slice A es.length c, .int .i64 m] 24) 49 #[.slice B gs.length d]) hbl))
  have HIN := Lib.hid (And.intro hin hig)
  have hs := fun V (hV : Below w.heap.size w V) => rSaneK_c A c es m V (hin.on hV) hok hm
  have hg := fun V (hV : Below w.heap.size w V) => rSaneG_c B d gs V (hig.on hV) hgk
  have HSK := Lib.hid hs
  have HSG := Lib.hid hg
  have HNOT : Hid (¬ (SaneK ⟨rws es, m⟩ ∧ SaneG (rws gs)) → windowK ⟨rws es, m⟩ (rws gs) n = []) := Lib.hid fun h => by unfold windowK; rw [if_neg h]
  obtain ⟨K, hK⟩ : ∃ K : Nat, max 0 (min n (es.length : Int)) = (K : Int) := ⟨(max 0 (min n (es.length : Int))).toNat, by omega⟩
  have hKl : K ≤ es.length := by omega
  have HYES : Hid (SaneK ⟨rws es, m⟩ → SaneG (rws gs) → windowK ⟨rws es, m⟩ (rws gs) n = ((rws es ++ rws gs).drop (es.length - K)).take gs.length) := Lib.hid fun h1 h2 => by
    unfold windowK
    rw [if_pos ⟨h1, h2⟩]
    unfold leftK
    simp only [rws_length]
    rw [hK]
    rfl
  generalize windowK ⟨rws es, m⟩ (rws gs) n = R at *
  have HKK := Lib.hid hK
  unfold I64 at hn
  obtain ⟨hn0, hn1⟩ := hn
  clear hbl hin hig hs hg hok hgk hm hK
  go_enter Try.func21, Try.ntmps21
  go_upto_region 1 with fail
  generalize (w.alloc (.cells #[.slice A es.length c, .int .i64 m] 24)).alloc (.cells #[.slice B gs.length d] 49) = W at *
  obtain ⟨k0, k1, k2⟩ : W.cell? ⟨w.heap.size, 0, none⟩ = some (.slice A es.length c) ∧ W.cell? ⟨w.heap.size, 1, none⟩ = some (.int .i64 m) ∧ W.cell? ⟨w.heap.size + 1, 0, none⟩ = some (.slice B gs.length d) := ⟨HK.out.1.cell 0, HK.out.1.cell 1, HK.out.2.1.cell 0⟩
  have h1 := HSK.out W HK.out.2.2
  cases hq : decide (SaneK ⟨rws es, m⟩) with
  | false =>
    rw [hq] at h1
    have HF := Lib.hid (HNOT.out (fun h => of_decide_eq_false hq h.1))
    clear hq
    go_wp2_with fail
    refine h1.mono ?_
    rintro e v1 ⟨rfl, hb⟩
    have HB := Lib.hid (HK.out.2.2.trans (hb.mono HK.out.2.2.size))
    clear hb h1 k0 k1 k2
    go_wp2_with fail
    go_ret
    exact ⟨none, 0, [], rfl, InG.nil (Nat.zero_le _), HF.out.symm, HB.out⟩
  | true =>
  rw [hq] at h1
  have HS1 := Lib.hid (of_decide_eq_true hq)
  clear hq
  go_wp2_with fail
  refine h1.mono ?_
  rintro e v1 ⟨rfl, hb⟩
  have HK1 := Lib.hid (And.intro (HK.out.1.below hb HK.out.1.lt) (And.intro (HK.out.2.1.below hb HK.out.2.1.lt) (HK.out.2.2.trans (hb.mono HK.out.2.2.size))))
  clear hb h1 k0 k1 k2 HK
  obtain ⟨k0, k1, k2⟩ : v1.cell? ⟨w.heap.size, 0, none⟩ = some (.slice A es.length c) ∧ v1.cell? ⟨w.heap.size, 1, none⟩ = some (.int .i64 m) ∧ v1.cell? ⟨w.heap.size + 1, 0, none⟩ = some (.slice B gs.length d) := ⟨HK1.out.1.cell 0, HK1.out.1.cell 1, HK1.out.2.1.cell 0⟩
  have h1 := HSG.out v1 HK1.out.2.2
  cases hq : decide (SaneG (rws gs)) with
  | false =>
    rw [hq] at h1
    have HF := Lib.hid (HNOT.out (fun h => of_decide_eq_false hq h.2))
    clear hq
    go_wp2_with fail
    refine h1.mono ?_
    rintro e v2 ⟨rfl, hb⟩
    have HB := Lib.hid (HK1.out.2.2.trans (hb.mono HK1.out.2.2.size))
    clear hb h1 k0 k1 k2
    go_wp2_with fail
    go_ret
    exact ⟨none, 0, [], rfl, InG.nil (Nat.zero_le _), HF.out.symm, HB.out⟩
  | true =>
  rw [hq] at h1
  have HF := Lib.hid (HYES.out HS1.out (of_decide_eq_true hq))
  clear hq
  go_wp2_with fail
  refine h1.mono ?_
  rintro e v2 ⟨rfl, hb⟩
  have hal : Below v2.heap.size v2 (v2.alloc (.cells #[] 35)) := (Below.refl _ _).alloc (Nat.le_refl _) _
  have hq1 := hb.trans (hal.mono hb.size)
  have HK2 := Lib.hid (And.intro (HK1.out.1.below hq1 HK1.out.1.lt) (And.intro (HK1.out.2.1.below hq1 HK1.out.2.1.lt) (HK1.out.2.2.trans (hq1.mono HK1.out.2.2.size))))
  have HO := Lib.hid (empty_ownG v2 v2.heap.size (Nat.le_refl _))
  have hz : v2.heap.size ≤ (v2.alloc (.cells #[] 35)).heap.size := by simp
  have hz2 : w.heap.size + 1 < v2.heap.size := by have := hb.size; have := HK1.out.2.1.lt; omega
  have HZ2 := Lib.hid hz2
  clear hb h1 k0 k1 k2 hal hq1 HK1 hz2
  have k0 : (v2.alloc (.cells #[] 35)).cell? ⟨w.heap.size, 0, none⟩ = some (.slice A es.length c) := HK2.out.1.cell 0
  go_wp2_with (at_builtin; refine wpList_append_rows rfl _ _ rfl v2.heap.size 0 (some ⟨v2.heap.size, 0, none⟩) [] 0 rfl rfl HO.out A c es es.length rfl rfl (HIN.out.1.on HK2.out.2.2).rows (by simp; omega) hz ?_)
  intro B3 d3 v3 hown hO
  try simp only [List.nil_append] at hown hO ⊢
  have hb3 : Below v2.heap.size (v2.alloc (.cells #[] 35)) v3 := hO.belowBase hz (fun g hg => by simp [Value.ownBlock] at hg; omega)
  have HK3 := Lib.hid (And.intro (HK2.out.1.below hb3 (by have := HZ2.out; omega)) (And.intro (HK2.out.2.1.below hb3 HZ2.out) (HK2.out.2.2.trans (hb3.mono (by have := HZ2.out; omega)))))
  have HO3 := Lib.hid hown
  have hz3 : v2.heap.size ≤ v3.heap.size := by have := hb3.size; omega
  clear hown hO hb3 hz HO HK2 k0
  have k2 : v3.cell? ⟨w.heap.size + 1, 0, none⟩ = some (.slice B gs.length d) := HK3.out.2.1.cell 0
  go_wp2_with (at_builtin; refine wpList_append_rows rfl _ _ rfl v2.heap.size d3 B3 es es.length rfl rfl HO3.out B d gs gs.length rfl rfl (HIN.out.2.on HK3.out.2.2).rows (by omega) hz3 ?_)
  intro B4 d4 v4 hown hO
  have hb4 : Below v2.heap.size v3 v4 := hO.belowBase hz3 (fun g hg => (own_block HO3.out hg).1)
  have HK4 := Lib.hid (And.intro (HK3.out.1.below hb4 (by have := HZ2.out; omega)) (And.intro (HK3.out.2.1.below hb4 HZ2.out) (HK3.out.2.2.trans (hb4.mono (by have := HZ2.out; omega)))))
  have hI4 : InG v4 B4 d4 (es ++ gs) := own_in hown HK4.out.2.2 (fun e he => (List.mem_append.1 he).elim (HIN.out.1.els e) (HIN.out.2.els e))
  obtain ⟨k0, k2⟩ : v4.cell? ⟨w.heap.size, 0, none⟩ = some (.slice A es.length c) ∧ v4.cell? ⟨w.heap.size + 1, 0, none⟩ = some (.slice B gs.length d) := ⟨HK4.out.1.cell 0, HK4.out.2.1.cell 0⟩
  obtain ⟨S, hS⟩ : ∃ S : Nat, es.length - K = S := ⟨_, rfl⟩
  obtain ⟨E, hE⟩ : ∃ E : Nat, S + gs.length = E := ⟨_, rfl⟩
  obtain ⟨X, x, hcut, hIX, hXl⟩ := hI4.cut (a := S) (b := E) (by omega) (by rw [List.length_append]; omega)
  rw [List.length_append, show E - S = gs.length from by omega] at hcut
  have HR : Hid (rws (((es ++ gs).take E).drop S) = R) := Lib.hid (by
    rw [HF.out, rws_drop, rws_take, rws_app, List.drop_take, hS]
    congr 1
    omega)
  generalize ((es ++ gs).take E).drop S = xs at *
  have HIX : Hid (InG v4 X x xs ∧ xs.length = gs.length) := Lib.hid ⟨hIX, by omega⟩
  have hEb : E ≤ 2000 := by omega
  have hSb : S ≤ 1000 := by omega
  have HSE := Lib.hid (And.intro hS hE)
  have hsub : (E : Int) - (gs.length : Int) = (S : Int) := by omega
  have hlen2 : es.length + gs.length ≤ 2000 := by omega
  clear hown hO hb4 hz3 hI4 HO3 HK3 hIX hXl hS hE
  go_upto_region 5 with fail
  go_cut [8] (fun u wx => u = .int .i64 (E : Int) ∧ wx = v4)
  case first =>
    clear hsub
    go_wp2_with fail
    all_goals
      go_meet
      refine ⟨?_, by first | trivial | rfl⟩
      have h1 := HKK.out
      have h2 := HSE.out
      congr 1
      omega
  case rest =>
  obtain ⟨rfl, hwc⟩ := hcut
  subst wc
  go_wp2_with fail
  go_ret
  exact ⟨X, x, xs, by rw [HIX.out.2]; rfl, HIX.out.1, HR.out, HK4.out.2.2⟩
end Go.Proofs.Ytinbdpfjpcgikaa
