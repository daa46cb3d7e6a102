/- The document's Print, walked. -/
import Derived.Test.YtaaojffikpfllaaDoorRefSame
import Derived.Test.YtaaojffikpfllaaDoorPow5
import Derived.Test.YtaaojffikpfllaaDoorShelf
import Derived.Shelf.Strconv.Itoa3
namespace Go.Proofs.YtaaojffikpfllaaDoor
open Go Go.RowKit
set_option linter.unusedVariables false
set_option linter.unusedSimpArgs false

theorem below_grow (w : World) (q : Nat) (os : Array Obj) : Below w.heap.size w (Go.Sort.grow (w.drewN q) os) :=
  ⟨rfl, rfl, rfl, by simp [Go.Sort.grow], fun i hi => by
    show ((w.drewN q).heap ++ os)[i]? = _
    rw [Array.getElem?_append_left (by show i < w.heap.size; omega)]
    rfl⟩
theorem itoa_c (n : Int) (hn : I64 n) (h1 : n ≠ -1) (w : World) (hP : Pw w) : Calls Tryd.prog 20 #[.int .i64 n] w fun e w' => e = .returned (.string (strS (numP n))) ∧ Below w.heap.size w w' := by
  rw [strS_num h1]
  refine (Any.strconv_Itoa Tryd.laysM171 n hn.1 hn.2 w hP).mono ?_
  rintro e w' ⟨rfl, k, os, rfl⟩
  exact ⟨rfl, below_grow _ _ _⟩
def preP (l : List (List Int)) : List Nat := if l = [] then [] else printP l ++ [59]
def preO (q : List Int) : List Nat := if q = [] then [] else oneP q ++ [58]
theorem take_ne {α : Type} {l : List α} {k : Nat} (h0 : 0 < k) (h1 : k ≤ l.length) : l.take k ≠ [] := by
  intro h
  have h2 : min k l.length = 0 := by rw [← List.length_take, h]; rfl
  omega
structure SizeP (l : List (List Int)) : Prop where
  few : l.length ≤ 30
  each : ∀ q ∈ l, q.length ≤ 20 ∧ ∀ n ∈ q, I64 n
theorem SizeP.take {l : List (List Int)} (h : SizeP l) (k : Nat) : SizeP (l.take k) := ⟨by rw [List.length_take]; have := h.few; omega, fun q hq => h.each q (List.mem_of_mem_take hq)⟩
theorem SizeP.print {l : List (List Int)} (h : SizeP l) : (printP l).length ≤ 14000 := by
  have h1 := len_print h.each
  have h2 := h.few
  omega
theorem SizeP.pre {l : List (List Int)} (h : SizeP l) : (preP l).length ≤ 14001 := by
  unfold preP
  split
  · simp
  · have := h.print; simp; omega
theorem size_one {q : List Int} (h1 : q.length ≤ 20) (h2 : ∀ n ∈ q, I64 n) : (oneP q).length ≤ 440 := by
  have := len_one h2
  omega
set_option maxRecDepth 100000 in
set_option maxHeartbeats 4000000 in
theorem refPrint_c (A : Option Addr) (es : List El) (c : Nat) (w : World) (h : Nest w w.heap.size A es) (hz : SizeP (qs es)) (hP : Pw w) :
    Calls Tryd.prog 12 #[.slice A es.length c] w fun e w' => e = .returned (.string (strS (printP (qs es)))) ∧ Below w.heap.size w w' := by
  have hm : es.length ≤ 30 := by rw [← qs_length]; exact hz.few
  have hg := hP.size
  go_enter Tryd.func12, Tryd.ntmps12
  go_wp2_with fail
  go_loopw [3, 4] (fun sv iv wr => ∃ k : Nat, k ≤ es.length ∧ iv = .int .i64 (k : Int) ∧ sv = .string (strS (printP ((qs es).take k))) ∧ Below w.heap.size w wr) (fun _ iv _ => es.length - (intOf iv).toNat)
  case atStart => exact ⟨0, by omega, rfl, rfl, Below.refl _ _⟩
  case round =>
    obtain ⟨k, hk, rfl, rfl, hb⟩ := hrel
    by_cases hlt : k < es.length
    · have g1 : es[k]? = some es[k] := List.getElem?_eq_getElem hlt
      generalize es[k] = e1 at g1
      obtain ⟨b1, o1, rfl, hb1, d1, ok1⟩ := (h.on hb).at_ g1
      have q1 := qs_at g1
      obtain ⟨hml, hI⟩ := hz.each e1.q (List.mem_of_getElem? q1)
      have z1 : (k : Int) < (es.length : Int) := by omega
      have HI : Hid (∀ n ∈ e1.q, I64 n) := Lib.hid hI
      have G1 := Lib.hid g1
      have Q1 := Lib.hid q1
      have hs1 : (strS (printP ((qs es).take k))).size ≤ 14000 := by rw [strS_size]; exact (hz.take k).print
      have hs2 : (strS (preP ((qs es).take k))).size ≤ 14001 := by rw [strS_size]; exact (hz.take k).pre
      have HS : Hid (if k = 0 then strS (printP ((qs es).take k)) = strS (preP ((qs es).take k)) else strS (printP ((qs es).take k)) ++ ⟨#[59]⟩ = strS (preP ((qs es).take k))) := Lib.hid (by
        split
        · rename_i h0; subst h0; rfl
        · unfold preP
          rw [if_neg (take_ne (by omega) (by rw [qs_length]; omega)), strS_append]
          rfl)
      have HN : Hid (∀ j n, e1.q[j]? = some n → strS (preP ((qs es).take k)) ++ strS (preO (e1.q.take j)) ++ strS (numP n) = strS (preP ((qs es).take k)) ++ strS (oneP (e1.q.take (j + 1)))) := Lib.hid (by
        intro j n hj
        rw [take_snoc hj, one_snoc]
        rw [ByteArray.append_assoc, ← strS_append]
        rfl)
      have HO : Hid (strS (preP ((qs es).take k)) ++ strS (oneP (e1.q.take e1.q.length)) = strS (printP ((qs es).take (k + 1)))) := Lib.hid (by
        rw [take_snoc q1, print_snoc, List.take_length, ← strS_append]
        rfl)
      have HO0 : Hid (strS (preP ((qs es).take k)) = strS (preP ((qs es).take k)) ++ strS (oneP (e1.q.take 0))) := Lib.hid (by
        rw [← strS_append]
        simp [oneP, joinP])
      generalize strS (printP ((qs es).take k)) = S1 at *
      generalize strS (preP ((qs es).take k)) = S2 at *
      clear g1 q1 ok1
      go_upto_if 13 with fail
      go_cut [3] (fun s wx => s = .string S2 ∧ wx = wr)
      case first =>
        by_cases hk0 : k = 0
        · have zk : ¬ (k : Int) > 0 := by omega
          have hs := HS.out
          rw [if_pos hk0] at hs
          have HS' := Lib.hid hs
          clear hs hk0
          go_wp2_with fail
          go_meet
          exact ⟨by rw [HS'.out], rfl⟩
        · have zk : (k : Int) > 0 := by omega
          have hs := HS.out
          rw [if_neg hk0] at hs
          have HS' := Lib.hid hs
          have zs : ¬ S1.size + 1 > 9223372036854775807 := by omega
          clear hs hk0
          go_wp2_with fail
          go_meet
          exact ⟨by rw [HS'.out], rfl⟩
      case rest =>
        obtain ⟨rfl, rfl⟩ := hcut
        go_wp2_with fail
        go_loopw [3, 5] (fun sv iv wr2 => ∃ j : Nat, j ≤ e1.q.length ∧ iv = .int .i64 (j : Int) ∧ sv = .string (S2 ++ strS (oneP (e1.q.take j))) ∧ Below w.heap.size w wr2) (fun _ iv _ => e1.q.length - (intOf iv).toNat)
        case atStart => exact ⟨0, by omega, rfl, by rw [← HO0.out], hb⟩
        case round =>
          obtain ⟨j, hj, rfl, rfl, hb2⟩ := hrel
          obtain ⟨b1', o1', e, l1, d1', ok1'⟩ := (h.on hb2).at_ G1.out
          injection e with e; injection e with e3 e4; subst e3; subst e4
          by_cases hjl : j < e1.q.length
          · have x1 : e1.q[j]? = some e1.q[j] := List.getElem?_eq_getElem hjl
            generalize e1.q[j] = n1 at x1
            obtain ⟨b3, o3, ha3, l3, y1⟩ := ok1'.rd.at_ x1
            unfold intV at y1
            rw [ha3] at d1'
            have zj : (j : Int) < (e1.q.length : Int) := by omega
            have hI1 : I64 n1 := HI.out n1 (List.mem_of_getElem? x1)
            have hq1 : (strS (oneP (e1.q.take j))).size ≤ 440 := by
              rw [strS_size]; exact size_one (by rw [List.length_take]; omega) (fun n hn => HI.out n (List.mem_of_mem_take hn))
            have hq2 : (strS (preO (e1.q.take j))).size ≤ 441 := by
              rw [strS_size]; unfold preO
              split
              · simp
              · have := size_one (q := e1.q.take j) (by rw [List.length_take]; omega) (fun n hn => HI.out n (List.mem_of_mem_take hn))
                simp; omega
            have hq3 : (strS (numP n1)).size ≤ 21 := by rw [strS_size]; exact len_num hI1
            have HJ : Hid (if j = 0 then strS (oneP (e1.q.take j)) = strS (preO (e1.q.take j)) else strS (oneP (e1.q.take j)) ++ ⟨#[58]⟩ = strS (preO (e1.q.take j))) := Lib.hid (by
              split
              · rename_i h0; subst h0; rfl
              · unfold preO
                rw [if_neg (take_ne (by omega) (by omega)), strS_append]
                rfl)
            have HM : Hid (S2 ++ strS (preO (e1.q.take j)) ++ strS (numP n1) = S2 ++ strS (oneP (e1.q.take (j + 1)))) := Lib.hid (HN.out j n1 x1)
            have HM2 : Hid (n1 = -1 → strS (numP n1) = strS []) := Lib.hid (fun h => by rw [h]; rfl)
            generalize strS (oneP (e1.q.take j)) = T1 at *
            generalize strS (preO (e1.q.take j)) = T2 at *
            have hadd : T1.size + S2.size ≤ 20000 := by omega
            clear x1 ok1' ha3 d1
            go_upto_if 26 with fail
            go_cut [3] (fun s wx => s = .string (S2 ++ T2) ∧ wx = wr)
            case first =>
              by_cases hj0 : j = 0
              · have zk : ¬ (j : Int) > 0 := by omega
                have hs := HJ.out
                rw [if_pos hj0] at hs
                have HS' := Lib.hid hs
                clear hs hj0
                go_wp2_with fail
                go_meet
                exact ⟨by rw [HS'.out], rfl⟩
              · have zk : (j : Int) > 0 := by omega
                have hs := HJ.out
                rw [if_neg hj0] at hs
                have HS' := Lib.hid hs
                have zs : ¬ (S2 ++ T1).size + 1 > 9223372036854775807 := by rw [ByteArray.size_append]; omega
                clear hs hj0
                go_wp2_with fail
                go_meet
                exact ⟨by rw [← HS'.out, ByteArray.append_assoc], rfl⟩
            case rest =>
              obtain ⟨rfl, rfl⟩ := hcut
              by_cases hn1 : n1 = -1
              · have hnb : (n1 != -1) = false := by simp [hn1]
                have hE : S2 ++ T2 = S2 ++ strS (oneP (e1.q.take (j + 1))) := by
                  have he : strS [] = ByteArray.empty := rfl
                  rw [← HM.out, HM2.out hn1, he, ByteArray.append_empty]
                have HE := Lib.hid hE
                clear hn1 hE
                go_wp2_with fail
                exact ⟨⟨j + 1, by omega, by go_num, by rw [HE.out], hb2⟩, by simp [intOf]; omega⟩
              · have hnb : (n1 != -1) = true := by simp [hn1]
                have hic := itoa_c n1 hI1 hn1 _ (hP.below hb2 hg)
                generalize strS (numP n1) = T3 at *
                have zs : ¬ (S2 ++ T2).size + T3.size > 9223372036854775807 := by rw [ByteArray.size_append]; omega
                clear hn1
                go_wp2_with fail
                refine hic.mono ?_
                rintro e wx ⟨rfl, hb3⟩
                have hb4 := hb2.trans (hb3.mono hb2.size)
                go_wp2_with fail
                exact ⟨⟨j + 1, by omega, by go_num, by rw [HM.out], hb4⟩, by simp [intOf]; omega⟩
          · obtain rfl : j = e1.q.length := by omega
            have zj : ¬ (e1.q.length : Int) < (e1.q.length : Int) := by omega
            have HF := HO.out
            clear d1
            generalize S2 ++ strS (oneP (e1.q.take e1.q.length)) = S4 at *
            have HF2 := Lib.hid HF
            clear HF
            go_wp2_with fail
            exact ⟨⟨k + 1, by omega, by go_num, by rw [HF2.out], hb2⟩, by simp [intOf]; omega⟩
    · obtain rfl : k = es.length := by omega
      have z1 : ¬ (es.length : Int) < (es.length : Int) := by omega
      have hr : (qs es).take es.length = qs es := by rw [← qs_length, List.take_length]
      have HR := Lib.hid hr
      clear hr
      go_wp2_with fail
      go_ret
      exact ⟨by rw [HR.out]; rfl, hb⟩
end Go.Proofs.YtaaojffikpfllaaDoor
