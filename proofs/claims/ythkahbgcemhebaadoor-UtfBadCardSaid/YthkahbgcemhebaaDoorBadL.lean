/- UtfBad, walked. -/
import Derived.Test.YthkahbgcemhebaaDoorUtfE
import Derived.Test.YthkahbgcemhebaaDoorBitsR
namespace Go.Proofs.YthkahbgcemhebaaDoor
open Go Go.RowKit
set_option linter.unusedVariables false
set_option linter.unusedSimpArgs false

set_option maxRecDepth 100000 in
set_option maxHeartbeats 8000000 in
theorem bad_law (A : Option Addr) (bs : List Nat) (c : Nat) (r : Int) (w : World) (hT : Tb w) (h : Byt w w.heap.size A bs) (hb : ∀ c ∈ bs, c < 256) (hlen : bs.length ≤ maxLen) (hr0 : -9223372036854775808 ≤ r) (hr1 : r ≤ 9223372036854775807) :
    Calls Tryd.prog 5 #[.slice A bs.length c, .int .i64 r] w fun e w' => e = .returned (.bool true) ∧ Below w.heap.size w w' := by
  obtain ⟨j0, hj, hy0, hy1, hy2⟩ := info_parts infoInt
  obtain ⟨i0, hi, hz0, hz1, hz2⟩ := info_parts infoByte
  unfold maxLen at hlen
  by_cases hbig : 500 < bs.length
  · have hq1 : (bs.length : Int) > 500 := by omega
    go_enter Tryd.func5, Tryd.ntmps5
    go_wp2_with fail
    refine (awake_c w hT).mono ?_
    rintro e w1 ⟨rfl, hb1⟩
    go_wp2_with fail
    go_ret
    exact ⟨rfl, hb1⟩
  · have hq1 : ¬ (bs.length : Int) > 500 := by omega
    go_enter Tryd.func5, Tryd.ntmps5
    go_wp2_with fail
    refine (awake_c w hT).mono ?_
    rintro e w1 ⟨rfl, hb1⟩
    obtain ⟨k, hk⟩ : ∃ k : Nat, r % 128 = (k : Int) := ⟨(r % 128).toNat, by omega⟩
    have hk8 : k < 128 := by omega
    have hand : bits .and .i64 r 127 = (k : Int) := by rw [and_127, hk]
    have hpk : putF (k : Int) = [k] := by
      unfold putF
      rw [norm_id (by unfold LetB; omega)]
      simp [bytesF, hk8]
    have hpc := fun V => put_c (k : Int) V (by omega) (by omega)
    rw [hpk] at hpc
    have hal := all_plain bs hk8
    have hcnt := all_count bs
    have hlet := all_let bs
    have hbyk : ∀ c ∈ bs ++ [k], c < 256 := by
      intro c hc
      rw [List.mem_append] at hc
      rcases hc with hc | hc
      · exact hb c hc
      · simp at hc; omega
    have hown0 : (w1.alloc (.cells #[] 5)).ownsRow w1.heap.size 5 1 (.slice (some ⟨w1.heap.size, 0, none⟩) 0 0) 0 [] := World.ownsRow_lit w1 #[] 0 (Nat.le_refl _) (Nat.zero_le _) rfl
    have hbA : Below w1.heap.size w1 (w1.alloc (.cells #[] 5)) := (Below.refl _ _).alloc (Nat.le_refl _) _
    have hbelA := hb1.trans (hbA.mono hb1.size)
    clear hk hpk
    go_wp2_with (at_builtin; refine wpList_append_rd (f := byteV) (fun _ => rfl) rfl _ _ 22 rfl w1.heap.size 5 i0 _ 1 Tryd.underlying22 hi hz0 hz1 hz2 rfl _ 0 [] rfl hown0 A c _ bs rfl (h.on hbelA) (by unfold maxLen; omega) (by omega) (by simp) ?_)
    intro v' w2 hown2 hO
    have hbel2 : Below w1.heap.size w1 w2 := hbA.trans (hO.belowBase (base := w1.heap.size) (by simp) (fun g hg => (own_block hown0 hg).1))
    clear hO hown0
    go_wp2_with fail
    refine (hpc w2).mono ?_
    rintro e w3 ⟨v3, rfl, hown3, hz⟩
    obtain ⟨A3, c3, rfl, hc3, hm3⟩ := own_form1 hown3
    have hbel3 := hbel2.trans (hz.mono hbel2.size)
    have hownB := own_below hown2 hz
    have hR3 := Rd.of_own hown3
    clear hz hpc hown2 hown3
    have hzs := hbel3.size
    go_wp2_with (at_builtin; refine wpList_append_rd (f := byteV) (fun _ => rfl) rfl _ _ 22 rfl w1.heap.size 5 i0 _ 1 Tryd.underlying22 hi hz0 hz1 hz2 rfl _ _ _ rfl hownB A3 c3 _ [k] rfl hR3 (by unfold maxLen; simp; omega) (by simp; omega) hzs ?_)
    intro v4 w4 hown4 hO
    have hbel4 := hbel3.trans (hO.belowBase hzs (fun g hg => (own_block hownB hg).1))
    have hown5 : w4.ownsRow w1.heap.size 5 1 v4 (bs.length + 1) ((bs ++ [k]).map byteV) := by simpa using hown4
    clear hO hownB hown4 hR3
    obtain ⟨A4, c4, rfl, hc4, hm4⟩ := own_form1 hown5
    have hbelw := hb1.trans (hbel4.mono hb1.size)
    have hl1 : (bs ++ [k]).length = bs.length + 1 := by simp
    have ha1 := all_c A4 (bs ++ [k]) c4 w4 (hT.below hbelw hT.size) (Rd.of_own hown5) hbyk (by omega)
    unfold AllSaid at ha1
    rw [hal, hl1] at ha1
    have ha2 := fun V (hV : Below w.heap.size w V) => all_c A bs c V (hT.below hV hT.size) (h.on hV) hb (by omega)
    unfold AllSaid at ha2
    clear hal hbyk hown5 hl1
    generalize allF bs = L at *
    rw [show (L ++ [(k : Int)]).length = L.length + 1 by simp] at ha1
    have HA2 := Lib.hid ha2
    clear ha2
    go_wp2_with fail
    refine ha1.mono ?_
    rintro e w5 ⟨A5, c5, rfl, hown5, hz⟩
    have hbel5 := hbelw.trans (hz.mono hbelw.size)
    clear hz ha1
    go_wp2_with fail
    refine (HA2.out _ hbel5).mono ?_
    rintro e w6 ⟨A6, c6, rfl, hown6, hz⟩
    have hbel6 := hbel5.trans (hz.mono hbel5.size)
    have hI5 := Rd.of_own (own_below hown5 hz)
    have hI6 := Rd.of_own hown6
    clear hz HA2 hown5 hown6
    obtain ⟨b5, o5, rfl, hbl5, d5⟩ := hI5.at_ (k := L.length) (x := (k : Int)) (by simp)
    have e5 : w6.cell? ⟨b5, o5 + L.length, none⟩ = some (.int .i64 (k : Int)) := d5
    have hcell : ∀ (j : Nat) (x : Int), L[j]? = some x → w6.cell? ⟨b5, o5 + j, none⟩ = some (.int .i64 x) := by
      intro j x hx
      have hj : (L ++ [(k : Int)])[j]? = some x := by
        rw [List.getElem?_append_left (List.getElem?_eq_some_iff.1 hx).1]; exact hx
      obtain ⟨b', o', e, _, hq⟩ := hI5.at_ hj
      injection e with e; injection e with e1 e2; subst e1; subst e2
      exact hq
    have HCELL := Lib.hid hcell
    have HI6 := Lib.hid hI6
    have HLET := Lib.hid hlet
    clear d5 hI5 hcell hI6 hlet
    have hq2 : ¬ ((L.length : Int) > (bs.length : Int)) := by omega
    have hq3 : (L.length : Int) ≤ 500 := by omega
    go_wp2_with fail
    go_loopw [9] (fun iv wr => ∃ j : Nat, j ≤ L.length ∧ iv = .int .i64 j ∧ Below w6.heap.size w6 wr) (fun iv _ => L.length - (intOf iv).toNat)
    case atStart => exact ⟨0, Nat.zero_le _, rfl, Below.refl _ _⟩
    case round =>
      obtain ⟨j, hj, rfl, hbel⟩ := hrel
      have hbelw7 := hbel6.trans (hbel.mono hbel6.size)
      by_cases hlt : j < L.length
      · have hq4 : (j : Int) < (L.length : Int) := by omega
        have hq5 : (j : Int) < (L.length : Int) + 1 := by omega
        have hg : L[j]? = some L[j] := List.getElem?_eq_getElem hlt
        obtain ⟨q, hlq, hxq⟩ := HLET.out L[j] (List.getElem_mem hlt)
        rw [hxq] at hg
        clear hxq
        obtain ⟨b6, o6, rfl, hbl6, c6'⟩ := (HI6.out.on hbel).at_ hg
        have d6 : wr.cell? ⟨b6, o6 + j, none⟩ = some (.int .i64 (q : Int)) := c6'
        have d5 : wr.cell? ⟨b5, o5 + j, none⟩ = some (.int .i64 (q : Int)) := (hbel.cell (p := ⟨b5, o5 + j, none⟩) hbl5).trans (HCELL.out j _ hg)
        clear c6' hg
        obtain ⟨hl1, hl2⟩ := hlq
        have g1 : decide ((q : Int) < 0) = false := decide_eq_false (by omega)
        have g2 : decide ((q : Int) > 1114111) = false := decide_eq_false (by omega)
        have g2' : decide ((1114111 : Int) < (q : Int)) = false := decide_eq_false (by omega)
        by_cases hs : 55296 ≤ q
        · have g3 : (q : Int) ≥ 55296 := by omega
          have g3' : (55296 : Int) ≤ (q : Int) := by omega
          have g4 : decide ((q : Int) ≤ 57343) = false := decide_eq_false (by omega)
          go_wp2_with fail
          go_quiet (fail)
          go_wp2_with fail
          exact ⟨⟨j + 1, by omega, by go_num, below_drewN hbel _⟩, by simp [intOf]; omega⟩
        · have g3 : decide ((q : Int) ≥ 55296) = false := decide_eq_false (by omega)
          have g3' : decide ((55296 : Int) ≤ (q : Int)) = false := decide_eq_false (by omega)
          go_wp2_with fail
          go_quiet (fail)
          go_wp2_with fail
          exact ⟨⟨j + 1, by omega, by go_num, below_drewN hbel _⟩, by simp [intOf]; omega⟩
      · have hq4 : ¬ (j : Int) < (L.length : Int) := by omega
        go_wp2_with fail
        go_ret
        exact ⟨rfl, hbelw7⟩
end Go.Proofs.YthkahbgcemhebaaDoor
