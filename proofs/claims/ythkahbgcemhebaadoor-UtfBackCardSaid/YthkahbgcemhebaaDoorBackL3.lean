/- UtfBack, walked. -/
import Derived.Test.YthkahbgcemhebaaDoorUtfE
namespace Go.Proofs.YthkahbgcemhebaaDoor
open Go Go.RowKit
set_option linter.unusedVariables false
set_option linter.unusedSimpArgs false

def normI (z : Int) : Int := ((normF z : Nat) : Int)
theorem norm_bad {z : Int} (h : z < 0 ∨ 1114111 < z ∨ (55296 ≤ z ∧ z ≤ 57343)) : normI z = 65533 := by unfold normI normF; rw [if_pos h]; rfl
theorem norm_good {z : Int} (h : ¬ (z < 0 ∨ 1114111 < z ∨ (55296 ≤ z ∧ z ≤ 57343))) : normI z = z := by unfold normI normF; rw [if_neg h]; omega
theorem puts_len (l : List Int) : (l.flatMap putF).length ≤ 4 * l.length := by
  induction l with
  | nil => simp
  | cons x l ih => rw [List.flatMap_cons, List.length_append, List.length_cons]; have := (bytes_len (normF x)).2; have e : (putF x).length = (bytesF (normF x)).length := rfl; omega
theorem puts_lt (l : List Int) : ∀ c ∈ l.flatMap putF, c < 256 := by
  intro c hc
  obtain ⟨x, _, hx⟩ := List.mem_flatMap.1 hc
  exact bytes_lt (norm_let x) c hx

set_option maxRecDepth 100000 in
set_option maxHeartbeats 8000000 in
theorem back_law (A : Option Addr) (l : List Int) (c : Nat) (w : World) (hT : Tb w) (h : Its w w.heap.size A l) (hb : ∀ z ∈ l, -9223372036854775808 ≤ z ∧ z ≤ 9223372036854775807) (hlen : l.length ≤ maxLen) :
    Calls Tryd.prog 4 #[.slice A l.length c] w fun e w' => e = .returned (.bool true) ∧ Below w.heap.size w w' := by
  obtain ⟨j0, hj, hy0, hy1, hy2⟩ := info_parts infoInt
  obtain ⟨i0, hi, hz0, hz1, hz2⟩ := info_parts infoByte
  unfold maxLen at hlen
  by_cases hbig : 200 < l.length
  · have hq1 : (l.length : Int) > 200 := by omega
    go_enter Tryd.func4, Tryd.ntmps4
    go_wp2_with fail
    refine (awake_c w hT).mono ?_
    rintro e w1 ⟨rfl, hb1⟩
    go_wp2_with fail
    go_ret
    exact ⟨rfl, hb1⟩
  · have hq1 : ¬ (l.length : Int) > 200 := by omega
    go_enter Tryd.func4, Tryd.ntmps4
    go_wp2_with fail
    refine (awake_c w hT).mono ?_
    rintro e w1 ⟨rfl, hb1⟩
    go_wp2_with fail
    go_loopw [4, 5, 6] (fun bv v iv wr => ∃ (k n m : Nat), k ≤ l.length ∧ iv = .int .i64 k ∧ wr.ownsRow w1.heap.size 5 1 bv m (((l.take k).flatMap putF).map byteV) ∧ wr.ownsRow w1.heap.size 3 1 v n (((l.take k).map normI).map intV) ∧ Apart bv v ∧ Below w1.heap.size w1 wr) (fun _ _ iv _ => l.length - (intOf iv).toNat)
    case atStart => exact ⟨0, 0, 0, Nat.zero_le _, rfl, World.ownsRow_nil _ _ _ _, World.ownsRow_nil _ _ _ _, fun g hg => by simp [Value.ownBlock] at hg, Below.refl _ _⟩
    case round =>
      obtain ⟨k, n, m, hk, rfl, hob, hown, hap, hbel⟩ := hrel
      have hn := own_len hown
      rw [List.length_map, List.length_take, Nat.min_eq_left hk] at hn
      subst hn
      have hm := own_len hob
      have hml := puts_len (l.take n)
      rw [List.length_take, Nat.min_eq_left hk, ← hm] at hml
      have hbelw := hb1.trans (hbel.mono hb1.size)
      by_cases hlt : n < l.length
      · have hq2 : (n : Int) < (l.length : Int) := by omega
        have hg : l[n]? = some l[n] := List.getElem?_eq_getElem hlt
        have hx := hb l[n] (List.getElem_mem hlt)
        have htk := take_snoc hg
        generalize l[n] = x at *
        obtain ⟨b, o, rfl, hbl, c0⟩ := (h.on hbelw).at_ hg
        have d0 : wr.cell? ⟨b, o + n, none⟩ = some (.int .i64 x) := c0
        clear c0 hg
        have HTK := Lib.hid htk
        have HM := Lib.hid hm
        clear htk hm
        have hpc := put_c x wr hx.1 hx.2
        obtain ⟨xs, hxs⟩ : ∃ xs, xs = ((l.take n).map normI).map intV := ⟨_, rfl⟩
        rw [← hxs] at hown
        have HXS := Lib.hid hxs
        clear hxs
        have hpl := bytes_len (normF x)
        have hpe : (putF x).length = (bytesF (normF x)).length := rfl
        rw [← hpe] at hpl
        clear hpe
        have HPF : Hid (∀ y, (l.take (n + 1)).flatMap putF = y → y = (l.take n).flatMap putF ++ putF x) := fun y hy => by rw [← hy, HTK.out]; simp
        generalize putF x = px at *
        go_wp2_with fail
        refine hpc.mono ?_
        rintro e w2 ⟨cv, rfl, hcv, hz⟩
        obtain ⟨Ac, cc, rfl, hcc, hccm⟩ := own_form1 hcv
        have hbel2 := hbel.trans (hz.mono hbel.size)
        have hob2 := own_below hob hz
        have hown2 := own_below hown hz
        have hRc := Rd.of_own hcv
        clear hpc hz hob hown hcv d0
        have hL1 : ¬ ((px.length : Int) < 1) := by omega
        have hL4 : ¬ ((px.length : Int) > 4) := by omega
        have hzs := hbel2.size
        go_wp2_with (at_builtin; refine wpList_append_rd (f := byteV) (fun _ => rfl) rfl _ _ 22 rfl w1.heap.size 5 i0 _ 1 Tryd.underlying22 hi hz0 hz1 hz2 rfl _ _ _ rfl hob2 Ac cc _ px rfl hRc (by unfold maxLen; omega) (by omega) hzs ?_)
        intro bv' w3 hob3 hO
        have hbel3 := hbel2.trans (hO.belowBase hzs (fun g hg => (own_block hob2 hg).1))
        have hown3 := hO.keep hown2 hap
        have hap3 := hO.apart hown2 hap
        clear hO hob2 hown2 hap hRc
        have hob4 : w3.ownsRow w1.heap.size 5 1 bv' (m + px.length) (((l.take (n + 1)).flatMap putF).map byteV) := by
          rw [HPF.out _ rfl, List.map_append]; exact hob3
        clear hob3
        have hzs3 := hbel3.size
        have tail : ∀ z : Int, normI x = z → ∀ v' w4, w4.ownsRow w1.heap.size 3 1 v' (n + 1) (xs ++ [intV z]) → Own1 (w3.alloc (.cells #[.int .i64 z] 3)) w4 u5 v' →
            w4.ownsRow w1.heap.size 5 1 bv' (m + px.length) (((l.take (n + 1)).flatMap putF).map byteV) ∧ w4.ownsRow w1.heap.size 3 1 v' (n + 1) (((l.take (n + 1)).map normI).map intV) ∧ Apart bv' v' ∧ Below w1.heap.size w1 w4 := by
          intro z hz v' w4 h1 hO
          refine ⟨hO.keep (hob4.alloc _) hap3.symm, ?_, (hO.apart (hob4.alloc _) hap3.symm).symm, (hbel3.alloc hzs3 _).trans (hO.belowBase (by simp; omega) (fun g hg => (own_block hown3 hg).1))⟩
          rw [HXS.out] at h1
          rw [HTK.out]
          simpa [hz] using h1
        have HT := Lib.hid tail
        clear tail
        rcases (show x < 0 ∨ (¬ x < 0 ∧ x > 1114111) ∨ (¬ x < 0 ∧ ¬ x > 1114111 ∧ x ≥ 55296 ∧ x ≤ 57343) ∨ (¬ x < 0 ∧ ¬ x > 1114111 ∧ x ≥ 55296 ∧ ¬ x ≤ 57343) ∨ (¬ x < 0 ∧ ¬ x > 1114111 ∧ ¬ x ≥ 55296) by omega) with q1 | ⟨q1, q2⟩ | ⟨q1, q2, q3, q4⟩ | ⟨q1, q2, q3, q4⟩ | ⟨q1, q2, q3⟩
        · have hnz : normI x = 65533 := norm_bad (by omega)
          have hRH : Rd intV (w3.alloc (.cells #[.int .i64 65533] 3)) (w3.alloc (.cells #[.int .i64 65533] 3)).heap.size (some ⟨w3.heap.size, 0, none⟩) [65533] := Rd.of_box (f := intV) (Box.new w3 _ #[.int .i64 65533])
          go_wp2_with (at_builtin; refine wpList_append_rd (f := intV) (fun _ => rfl) rfl _ _ 23 rfl w1.heap.size 3 j0 _ 8 Tryd.underlying23 hj hy0 hy1 hy2 rfl _ _ _ rfl (hown3.alloc _) _ 1 _ [65533] rfl hRH (by unfold maxLen; simp; omega) (by simp; omega) (by simp; omega) ?_)
          intro v' w4 hw4 hO4
          obtain ⟨t1, t2, t3, t4⟩ := HT.out 65533 hnz v' w4 hw4 hO4
          clear hRH hw4 hO4 hob4 hown3
          go_wp2_with fail
          exact ⟨⟨n + 1, n + 1, m + px.length, by omega, by go_num, t1, t2, t3, t4⟩, by simp [intOf]; omega⟩
        · have hnz : normI x = 65533 := norm_bad (by omega)
          have hRH : Rd intV (w3.alloc (.cells #[.int .i64 65533] 3)) (w3.alloc (.cells #[.int .i64 65533] 3)).heap.size (some ⟨w3.heap.size, 0, none⟩) [65533] := Rd.of_box (f := intV) (Box.new w3 _ #[.int .i64 65533])
          go_wp2_with (at_builtin; refine wpList_append_rd (f := intV) (fun _ => rfl) rfl _ _ 23 rfl w1.heap.size 3 j0 _ 8 Tryd.underlying23 hj hy0 hy1 hy2 rfl _ _ _ rfl (hown3.alloc _) _ 1 _ [65533] rfl hRH (by unfold maxLen; simp; omega) (by simp; omega) (by simp; omega) ?_)
          intro v' w4 hw4 hO4
          obtain ⟨t1, t2, t3, t4⟩ := HT.out 65533 hnz v' w4 hw4 hO4
          clear hRH hw4 hO4 hob4 hown3
          go_wp2_with fail
          exact ⟨⟨n + 1, n + 1, m + px.length, by omega, by go_num, t1, t2, t3, t4⟩, by simp [intOf]; omega⟩
        · have hnz : normI x = 65533 := norm_bad (by omega)
          have hRH : Rd intV (w3.alloc (.cells #[.int .i64 65533] 3)) (w3.alloc (.cells #[.int .i64 65533] 3)).heap.size (some ⟨w3.heap.size, 0, none⟩) [65533] := Rd.of_box (f := intV) (Box.new w3 _ #[.int .i64 65533])
          go_wp2_with (at_builtin; refine wpList_append_rd (f := intV) (fun _ => rfl) rfl _ _ 23 rfl w1.heap.size 3 j0 _ 8 Tryd.underlying23 hj hy0 hy1 hy2 rfl _ _ _ rfl (hown3.alloc _) _ 1 _ [65533] rfl hRH (by unfold maxLen; simp; omega) (by simp; omega) (by simp; omega) ?_)
          intro v' w4 hw4 hO4
          obtain ⟨t1, t2, t3, t4⟩ := HT.out 65533 hnz v' w4 hw4 hO4
          clear hRH hw4 hO4 hob4 hown3
          go_wp2_with fail
          exact ⟨⟨n + 1, n + 1, m + px.length, by omega, by go_num, t1, t2, t3, t4⟩, by simp [intOf]; omega⟩
        · have hnz : normI x = x := norm_good (by omega)
          have hRH : Rd intV (w3.alloc (.cells #[.int .i64 x] 3)) (w3.alloc (.cells #[.int .i64 x] 3)).heap.size (some ⟨w3.heap.size, 0, none⟩) [x] := Rd.of_box (f := intV) (Box.new w3 _ #[.int .i64 x])
          go_wp2_with (at_builtin; refine wpList_append_rd (f := intV) (fun _ => rfl) rfl _ _ 23 rfl w1.heap.size 3 j0 _ 8 Tryd.underlying23 hj hy0 hy1 hy2 rfl _ _ _ rfl (hown3.alloc _) _ 1 _ [x] rfl hRH (by unfold maxLen; simp; omega) (by simp; omega) (by simp; omega) ?_)
          intro v' w4 hw4 hO4
          obtain ⟨t1, t2, t3, t4⟩ := HT.out x hnz v' w4 hw4 hO4
          clear hRH hw4 hO4 hob4 hown3
          go_wp2_with fail
          exact ⟨⟨n + 1, n + 1, m + px.length, by omega, by go_num, t1, t2, t3, t4⟩, by simp [intOf]; omega⟩
        · have hnz : normI x = x := norm_good (by omega)
          have hRH : Rd intV (w3.alloc (.cells #[.int .i64 x] 3)) (w3.alloc (.cells #[.int .i64 x] 3)).heap.size (some ⟨w3.heap.size, 0, none⟩) [x] := Rd.of_box (f := intV) (Box.new w3 _ #[.int .i64 x])
          go_wp2_with (at_builtin; refine wpList_append_rd (f := intV) (fun _ => rfl) rfl _ _ 23 rfl w1.heap.size 3 j0 _ 8 Tryd.underlying23 hj hy0 hy1 hy2 rfl _ _ _ rfl (hown3.alloc _) _ 1 _ [x] rfl hRH (by unfold maxLen; simp; omega) (by simp; omega) (by simp; omega) ?_)
          intro v' w4 hw4 hO4
          obtain ⟨t1, t2, t3, t4⟩ := HT.out x hnz v' w4 hw4 hO4
          clear hRH hw4 hO4 hob4 hown3
          go_wp2_with fail
          exact ⟨⟨n + 1, n + 1, m + px.length, by omega, by go_num, t1, t2, t3, t4⟩, by simp [intOf]; omega⟩
      · have hq2 : ¬ (n : Int) < (l.length : Int) := by omega
        have hall : l.take n = l := List.take_of_length_le (by omega)
        obtain rfl : n = l.length := by omega
        rw [hall] at hown hob hm
        clear hall
        have hby := puts_lt l
        have hfp := feed_puts l
        have hfp2 : l.map (fun r => ((normF r : Nat) : Int)) = l.map normI := rfl
        rw [hfp2] at hfp
        clear hfp2
        generalize l.flatMap putF = bs at *
        subst hm
        obtain ⟨Ab, cb, rfl, hcb, hcbm⟩ := own_form1 hob
        obtain ⟨Ai, ci, rfl, hci, hcim⟩ := own_form1 hown
        have hfc := feed_c none Ab [] bs 0 cb wr (hT.below hbelw hT.size) Rd.nil (Rd.of_own hob) (by simp) hby (Nat.le_refl _) (Nat.zero_le _) rfl (by simp; omega)
        rw [List.nil_append] at hfc
        unfold FeedSaid at hfc
        rw [hfp] at hfc
        have hll : (l.map normI).length = l.length := by simp
        generalize l.map normI = nl at *
        go_wp2_with fail
        refine hfc.mono ?_
        rintro e w2 ⟨A1, c1, A2, c2, rfl, hR, hc1, hm1, hownm, hz⟩
        have hbel2 := hbelw.trans (hz.mono hbelw.size)
        have hown2 := own_below hown hz
        clear hfc hz hown hob
        go_wp2_with fail
        have hbx := Box.new w2 26 #[.slice A1 0 c1]
        have hz3 : Below w2.heap.size w2 (w2.alloc (.cells #[.slice A1 0 c1] 26)) := (Below.refl _ _).alloc (Nat.le_refl _) _
        have hbel3 := hbel2.trans (hz3.mono hbel2.size)
        have hI1 := (Rd.of_own hownm).on hz3
        have hI2 := (Rd.of_own hown2).on hz3
        clear hz3 hownm hown2 hR
        generalize w2.alloc (.cells #[.slice A1 0 c1] 26) = w3 at *
        have hic := ints_c A2 Ai nl c2 ci w3 hI1 hI2 (by omega)
        rw [hll] at hic
        refine hic.mono ?_
        rintro e w4 ⟨rfl, hz⟩
        have hbel4 := hbel3.trans (hz.mono hbel3.size)
        have hb4 := hbx.below hz hbx.lt
        have hd : w4.cell? ⟨w2.heap.size, 0, none⟩ = some (.slice A1 0 c1) := hb4.cell 0
        clear hz hic hI1 hI2
        go_wp2_with fail
        go_ret
        exact ⟨rfl, hbel4⟩
end Go.Proofs.YthkahbgcemhebaaDoor
