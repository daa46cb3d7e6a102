/- UtfPlain, walked. -/
import Derived.Test.YthkahbgcemhebaaDoorUtfE
namespace Go.Proofs.YthkahbgcemhebaaDoor
open Go Go.RowKit
set_option linter.unusedVariables false
set_option linter.unusedSimpArgs false

theorem all_ascii (l : List Nat) (h : ∀ c ∈ l, c < 128) : allF l = l.map (fun (c : Nat) => (c : Int)) := by
  unfold allF
  rw [feed_ascii l h]
  simp [endF]
set_option maxRecDepth 100000 in
set_option maxHeartbeats 4000000 in
theorem plain_law (A : Option Addr) (bs : List Nat) (c : Nat) (w : World) (hT : Tb w) (h : Byt w w.heap.size A bs) (hb : ∀ c ∈ bs, c < 256) (hlen : bs.length ≤ maxLen) :
    Calls Tryd.prog 7 #[.slice A bs.length c] w fun e w' => e = .returned (.bool true) ∧ Below w.heap.size w w' := by
  obtain ⟨j0, hj, hy0, hy1, hy2⟩ := info_parts infoInt
  unfold maxLen at hlen
  by_cases hbig : 500 < bs.length
  · have hz1 : (bs.length : Int) > 500 := by omega
    go_enter Tryd.func7, Tryd.ntmps7
    go_wp2_with fail
    refine (awake_c w hT).mono ?_
    rintro e w1 ⟨rfl, hb1⟩
    go_wp2_with fail
    go_ret
    exact ⟨rfl, hb1⟩
  · have hz1 : ¬ (bs.length : Int) > 500 := by omega
    go_enter Tryd.func7, Tryd.ntmps7
    go_wp2_with fail
    refine (awake_c w hT).mono ?_
    rintro e w1 ⟨rfl, hb1⟩
    go_wp2_with fail
    go_loopw [4, 5] (fun v iv wr => ∃ (k n : Nat), k ≤ bs.length ∧ iv = .int .i64 k ∧ wr.ownsRow w1.heap.size 3 1 v n (((bs.take k).map (fun (c : Nat) => (c : Int))).map intV) ∧ Hid (∀ c ∈ bs.take k, c < 128) ∧ Below w1.heap.size w1 wr) (fun _ iv _ => bs.length - (intOf iv).toNat)
    case atStart => exact ⟨0, 0, Nat.zero_le _, rfl, World.ownsRow_nil _ _ _ _, Lib.hid (by simp), Below.refl _ _⟩
    case round =>
      obtain ⟨k, n, hk, rfl, hown, HA, hbel⟩ := hrel
      have hn := own_len hown
      rw [List.length_map, List.length_take, Nat.min_eq_left hk] at hn
      subst hn
      have hbelw := hb1.trans (hbel.mono hb1.size)
      by_cases hlt : n < bs.length
      · have hz2 : (n : Int) < (bs.length : Int) := by omega
        have hg : bs[n]? = some bs[n] := List.getElem?_eq_getElem hlt
        have hx := hb bs[n] (List.getElem_mem hlt)
        have htk := take_snoc hg
        generalize bs[n] = x at *
        obtain ⟨b, o, rfl, hbl, c0⟩ := (h.on hbelw).at_ hg
        have d0 : wr.cell? ⟨b, o + n, none⟩ = some (.int .u8 (x : Int)) := c0
        clear c0 hg
        have HTK := Lib.hid htk
        clear htk
        by_cases hx8 : 128 ≤ x
        · have hz3 : (x : Int) ≥ 128 := by omega
          go_wp2_with fail
          go_ret
          exact ⟨rfl, hbelw⟩
        · have hz3 : ¬ (x : Int) ≥ 128 := by omega
          have hRH : Rd intV (wr.alloc (.cells #[.int .i64 (x : Int)] 3)) (wr.alloc (.cells #[.int .i64 (x : Int)] 3)).heap.size (some ⟨wr.heap.size, 0, none⟩) [(x : Int)] := Rd.of_box (f := intV) (Box.new wr _ #[.int .i64 (x : Int)])
          have hzs := hbel.size
          go_wp2_with (at_builtin; refine wpList_append_rd (f := intV) (fun _ => rfl) rfl _ _ 23 rfl w1.heap.size 3 j0 _ 8 Tryd.underlying23 hj hy0 hy1 hy2 rfl _ _ _ rfl (hown.alloc _) _ 1 _ [(x : Int)] rfl hRH (by unfold maxLen; simp; omega) (by simp; omega) (by simp; omega) ?_)
          intro v' w2 hown2 hO
          have hbel2 : Below w1.heap.size w1 w2 := (hbel.alloc hbel.size _).trans (hO.belowBase (by simp; omega) (fun g hg => (own_block hown hg).1))
          have hown3 : w2.ownsRow w1.heap.size 3 1 v' (n + 1) (((bs.take (n + 1)).map (fun (c : Nat) => (c : Int))).map intV) := by
            rw [HTK.out]; simpa using hown2
          have HA2 : Hid (∀ c ∈ bs.take (n + 1), c < 128) := by
            refine Lib.hid ?_
            rw [HTK.out]
            intro c hc
            rw [List.mem_append] at hc
            rcases hc with hc | hc
            · exact HA.out c hc
            · simp at hc; omega
          clear hO hown hown2 hRH
          go_wp2_with fail
          exact ⟨⟨n + 1, n + 1, by omega, by go_num, hown3, HA2, hbel2⟩, by simp [intOf]; omega⟩
      · have hz2 : ¬ (n : Int) < (bs.length : Int) := by omega
        have hall : bs.take n = bs := List.take_of_length_le (by omega)
        obtain rfl : n = bs.length := by omega
        rw [hall] at hown
        have HA' := HA.out
        rw [hall] at HA'
        clear HA hall
        have hac := all_c A bs c wr (hT.below hbelw hT.size) (h.on hbelw) hb (by omega)
        unfold AllSaid at hac
        rw [all_ascii bs HA', List.length_map] at hac
        obtain ⟨A2, c2, rfl, _, _⟩ := own_form1 hown
        have hl2 : (bs.map (fun (c : Nat) => (c : Int))).length = bs.length := by simp
        go_wp2_with fail
        refine hac.mono ?_
        rintro e w2 ⟨A3, c3, rfl, hown3, hz⟩
        have hown2 := own_below hown hz
        have hbel2 := hbelw.trans (hz.mono hbelw.size)
        clear hac hz hown
        have hic := ints_c A3 A2 (bs.map (fun (c : Nat) => (c : Int))) c3 c2 w2 (Rd.of_own hown3) (Rd.of_own hown2) (by omega)
        rw [hl2] at hic
        go_wp2_with fail
        refine hic.mono ?_
        rintro e w3 ⟨rfl, hz⟩
        have hbel3 := hbel2.trans (hz.mono hbel2.size)
        clear hic hz
        go_wp2_with fail
        go_ret
        exact ⟨rfl, hbel3⟩
end Go.Proofs.YthkahbgcemhebaaDoor
