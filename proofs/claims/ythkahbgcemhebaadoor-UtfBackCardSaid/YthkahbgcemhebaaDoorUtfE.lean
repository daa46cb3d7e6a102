/- All, the comparison of two lists of ints, and the laws' head, by their contracts. -/
import Derived.Test.YthkahbgcemhebaaDoorUtfD
namespace Go.Proofs.YthkahbgcemhebaaDoor
open Go Go.RowKit
set_option linter.unusedVariables false
set_option linter.unusedSimpArgs false

theorem feed_bd {bs : List Nat} (h : ∀ c ∈ bs, c < 256) : (∀ c ∈ (feedF bs).2, c < 256) ∧ shortB (feedF bs).2 = true := by
  have key : ∀ (n : Nat) (l : List Nat), l.length ≤ n → ∀ c ∈ (feedF l).2, c ∈ l := by
    intro n
    induction n with
    | zero =>
      intro l h
      have : l = [] := List.eq_nil_of_length_eq_zero (by omega)
      subst this; simp [feed_nil]
    | succ n ih =>
      intro l h
      by_cases hl : l = []
      · subst hl; simp [feed_nil]
      · cases ho : opnB l
        · have hm := run_cons_ne hl
          rw [feed_step hl ho]
          intro c hc
          exact List.mem_of_mem_drop (ih _ (by rw [List.length_drop]; omega) c hc)
        · rw [feed_opn ho]; simp
  refine ⟨fun c hc => h c (key _ bs (Nat.le_refl _) c hc), ?_⟩
  rcases feed_left bs with h | h
  · rw [h]; rfl
  · unfold shortB; rw [h]; simp
/-- Two lists of ints that are the same are the same. -/
theorem ints_c (A1 A2 : Option Addr) (l : List Int) (k1 k2 : Nat) (w : World) (h1 : Its w w.heap.size A1 l) (h2 : Its w w.heap.size A2 l) (hn : l.length ≤ 1000000) :
    Calls Tryd.prog 10 #[.slice A1 l.length k1, .slice A2 l.length k2] w fun e w' => e = .returned (.bool true) ∧ Below w.heap.size w w' := by
  go_enter Tryd.func10, Tryd.ntmps10
  go_wp2_with fail
  go_loopw [5] (fun iv wr => ∃ k : Nat, k ≤ l.length ∧ iv = .int .i64 k ∧ Below w.heap.size w wr) (fun iv _ => l.length - (intOf iv).toNat)
  case atStart => exact ⟨0, Nat.zero_le _, rfl, Below.refl _ _⟩
  case round =>
    obtain ⟨k, hk, rfl, hbel⟩ := hrel
    by_cases hlt : k < l.length
    · have hz1 : (k : Int) < (l.length : Int) := by omega
      have hg : l[k]? = some l[k] := List.getElem?_eq_getElem hlt
      generalize l[k] = x at *
      obtain ⟨b1, o1, rfl, _, c1⟩ := (h1.on hbel).at_ hg
      obtain ⟨b2, o2, rfl, _, c2⟩ := (h2.on hbel).at_ hg
      have d1 : wr.cell? ⟨b1, o1 + k, none⟩ = some (.int .i64 x) := c1
      have d2 : wr.cell? ⟨b2, o2 + k, none⟩ = some (.int .i64 x) := c2
      clear c1 c2 hg
      go_wp2_with fail
      go_quiet (fail)
      go_wp2_with fail
      exact ⟨⟨k + 1, by omega, by go_num, below_drewN hbel _⟩, by simp [intOf]; omega⟩
    · have hz1 : ¬ (k : Int) < (l.length : Int) := by omega
      go_wp2_with fail
      go_ret
      exact ⟨rfl, hbel⟩
def AllSaid (bs : List Nat) (w : World) (e : Ending) (w' : World) : Prop :=
  ∃ A' c', e = .returned (.slice A' (allF bs).length c') ∧ w'.ownsRow w.heap.size 3 1 (.slice A' (allF bs).length c') (allF bs).length ((allF bs).map intV) ∧ Below w.heap.size w w'
set_option maxRecDepth 100000 in
set_option maxHeartbeats 4000000 in
theorem all_c (A : Option Addr) (bs : List Nat) (c : Nat) (w : World) (hT : Tb w) (h : Byt w w.heap.size A bs) (hb : ∀ c ∈ bs, c < 256) (hn : bs.length ≤ 100000) :
    Calls Tryd.prog 13 #[.slice A bs.length c] w (AllSaid bs w) := by
  obtain ⟨j0, hj, hy0, hy1, hy2⟩ := info_parts infoInt
  have hf := feed_c none A [] bs 0 c w hT Rd.nil h (by simp) hb (Nat.le_refl _) (Nat.zero_le _) rfl (by simpa using hn)
  rw [List.nil_append] at hf
  obtain ⟨hbd, hsh⟩ := feed_bd hb
  have hac := all_count bs
  have hal : allF bs = (feedF bs).1 ++ endF (feedF bs).2 := rfl
  have HAL := Lib.hid hal
  rw [hal, List.length_append] at hac
  clear hal
  unfold FeedSaid at hf
  unfold AllSaid
  generalize allF bs = al at *
  generalize (feedF bs).1 = L at *
  generalize (feedF bs).2 = R at *
  go_enter Tryd.func13, Tryd.ntmps13
  go_wp2_with fail
  refine hf.mono ?_
  rintro e w1 ⟨A1, c1, A2, c2, rfl, hR, hc1, hm1, hown, hb1⟩
  clear hf
  go_wp2_with fail
  have hb2 : Below w1.heap.size w1 (w1.alloc (.cells #[.slice A1 R.length c1] 26)) := (Below.refl _ _).alloc (Nat.le_refl _) _
  have hbel2 := hb1.trans (hb2.mono hb1.size)
  have hown2 := own_below hown hb2
  have hR2 := hR.on hb2
  clear hb2 hR hown
  generalize w1.alloc (.cells #[.slice A1 R.length c1] 26) = w2 at *
  refine (end_c A1 R c1 w2 (hT.below hbel2 hT.size) hR2 hbd hc1 hm1 hsh).mono ?_
  rintro e w3 ⟨A3, c3, rfl, hE, hc3, hm3, hz⟩
  have hbel3 := hbel2.trans (hz.mono hbel2.size)
  have hown3 := own_below hown2 hz
  clear hz hown2 hR2
  generalize endF R = E at *
  have hz3 := hbel3.size
  go_wp2_with (at_builtin; refine wpList_append_rd (f := intV) (fun _ => rfl) rfl _ _ 23 rfl w.heap.size 3 j0 _ 8 Tryd.underlying23 hj hy0 hy1 hy2 rfl _ _ _ rfl hown3 A3 c3 _ E rfl hE (by unfold maxLen; omega) (by omega) hz3 ?_)
  intro v' w4 hown4 hO
  have hbel4 := hbel3.trans (hO.belowBase hz3 (fun g hg => (own_block hown3 hg).1))
  obtain ⟨A4, c4, rfl, _, _⟩ := own_form1 hown4
  clear hO hown3
  go_wp2_with fail
  go_ret
  refine ⟨A4, c4, ?_, ?_, hbel4⟩
  · rw [HAL.out, List.length_append]; rfl
  · rw [HAL.out, List.length_append, List.map_append]; exact hown4

theorem aw1 : feedF [226, 130] = ([], [226, 130]) := by decide
theorem aw2 : feedF [226, 130, 65] = ([65533, 65], []) := by decide
set_option maxRecDepth 100000 in
set_option maxHeartbeats 4000000 in
theorem awake_c (w : World) (hT : Tb w) : Calls Tryd.prog 8 #[] w fun e w' => e = .returned (.bool true) ∧ Below w.heap.size w w' := by
  go_enter Tryd.func8, Tryd.ntmps8
  go_wp2_with fail
  have hx := Box.new w 5 #[.int .u8 226, .int .u8 130]
  have hb1 : Below w.heap.size w (w.alloc (.cells #[.int .u8 226, .int .u8 130] 5)) := (Below.refl _ _).alloc (Nat.le_refl _) _
  generalize w.alloc (.cells #[.int .u8 226, .int .u8 130] 5) = w1 at *
  have hf := feed_c none (some ⟨w.heap.size, 0, none⟩) [] [226, 130] 0 2 w1 (hT.below hb1 hT.size) Rd.nil (Rd.of_box (f := byteV) hx) (by simp) (by intro c hc; simp at hc; omega) (Nat.le_refl _) (Nat.zero_le _) rfl (by decide)
  unfold FeedSaid at hf
  rw [List.nil_append, aw1] at hf
  refine hf.mono ?_
  rintro e w2 ⟨A1, c1, A2, c2, rfl, hR, hc1, hm1, hown, hz⟩
  have hbel2 := hb1.trans (hz.mono hb1.size)
  clear hf hx hz hb1 hown
  go_wp2_with fail
  have hxs := Box.new w2 26 #[.slice A1 2 c1]
  have hxb := Box.new (w2.alloc (.cells #[.slice A1 2 c1] 26)) 5 #[.int .u8 65]
  have hsz : (w2.alloc (.cells #[.slice A1 2 c1] 26)).heap.size = w2.heap.size + 1 := by simp
  rw [hsz] at hxb
  replace hxs := hxs.alloc (.cells #[.int .u8 65] 5)
  have hz : Below w2.heap.size w2 ((w2.alloc (.cells #[.slice A1 2 c1] 26)).alloc (.cells #[.int .u8 65] 5)) := ((Below.refl _ _).alloc (Nat.le_refl _) _).alloc (by simp) _
  have hbel3 := hbel2.trans (hz.mono hbel2.size)
  have hR3 := hR.on hz
  clear hz hR
  generalize (w2.alloc (.cells #[.slice A1 2 c1] 26)).alloc (.cells #[.int .u8 65] 5) = w3 at *
  have hf := feed_c A1 (some ⟨w2.heap.size + 1, 0, none⟩) [226, 130] [65] c1 1 w3 (hT.below hbel3 hT.size) hR3 (Rd.of_box (f := byteV) hxb) (by intro c hc; simp at hc; omega) (by intro c hc; simp at hc; omega) hc1 hm1 (by decide) (by decide)
  have e3 : [226, 130] ++ [65] = [226, 130, 65] := rfl
  unfold FeedSaid at hf
  rw [e3, aw2] at hf
  refine hf.mono ?_
  rintro e w4 ⟨A3, c3, A4, c4, rfl, hR4, hc3, hm3, hown4, hz⟩
  have hbel4 := hbel3.trans (hz.mono hbel3.size)
  replace hxs := hxs.below hz hxs.lt
  have hI := Rd.of_own hown4
  obtain ⟨b, o, rfl, hbl, d0⟩ := hI.at_ (k := 0) (x := 65533) rfl
  obtain ⟨b', o', e, _, d1⟩ := hI.at_ (k := 1) (x := 65) rfl
  injection e with e; injection e with e1 e2; subst e1; subst e2
  have dd0 : w4.cell? ⟨b, o, none⟩ = some (.int .i64 65533) := d0
  have dd1 : w4.cell? ⟨b, o + 1, none⟩ = some (.int .i64 65) := d1
  have hxl := hxs.lt
  have dx : w4.cell? ⟨w2.heap.size, 0, none⟩ = some (.slice A1 2 c1) := hxs.cell 0
  clear hf hz hbel3 hxb hown4 hI hR4 d0 d1 hR3
  go_wp2_with fail
  go_ret
  exact ⟨rfl, hbel4.alloc hbel4.size _⟩
end Go.Proofs.YthkahbgcemhebaaDoor
