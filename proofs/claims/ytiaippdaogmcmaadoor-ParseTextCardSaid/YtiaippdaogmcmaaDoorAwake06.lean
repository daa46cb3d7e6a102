/- The document's example, over the contracts. -/
import Derived.Test.YtiaippdaogmcmaaDoorLet06
import Derived.Test.YtiaippdaogmcmaaDoorRef6
import Derived.Test.YtiaippdaogmcmaaDoorP5Print
namespace Go.Proofs.YtiaippdaogmcmaaDoor
open Go Go.RowKit
set_option linter.unusedVariables false
set_option linter.unusedSimpArgs false

theorem num_1 : numP 1 = [49] := by
  rw [show (1 : Int) = ((1 : Nat) : Int) from rfl, num_nat, Lib.decDigits]; rfl
theorem num_31 : numP 31 = [51, 49] := by
  rw [show (31 : Int) = ((31 : Nat) : Int) from rfl, num_nat, Lib.decDigits, dif_neg (by decide), show 31 / 10 = 3 from rfl, Lib.decDigits]; rfl
theorem print_ex : printP [[1], [31]] = [49, 59, 51, 49] := by
  unfold printP joinP oneP joinP
  simp only [List.flatMap_nil, List.append_nil, List.flatMap_cons, num_1, num_31]
  rfl
theorem feed_ex : feedS zeroS (lets [27, 91, 49, 59, 51, 49, 109]) = (zeroS, [⟨4, 0, 109, [], [[1], [31]], []⟩]) := by
  have := csi_feed [] [] [49, 59, 51, 49] 109 (.inl rfl) (.inl rfl) (by decide) (by decide)
  exact this
theorem zero_val : stV zeroS none 0 0 = .agg #[.int .i64 0, .string ⟨#[]⟩, .bool false, .slice none 0 0, .bool false, .string ⟨#[]⟩, .int .u8 0] := rfl
theorem zero_stV (A : Option Addr) (n c : Nat) : stV zeroS A n c = .agg #[.int .i64 0, .string ⟨#[]⟩, .bool false, .slice A n c, .bool false, .string ⟨#[]⟩, .int .u8 0] := rfl
/-- A state just made. -/
theorem feed_zero (hf : Feed6C) {L : Option Addr} {k : Nat} {rs : List Int} {w : World} (h : Its w w.heap.size L rs) (h1 : rs.length ≤ k) (h2 : k ≤ maxLen) (h3 : rs.length ≤ 1300) (h4 : ∀ r ∈ rs, I64 r) :
    Calls Tryd.prog 9 #[stV zeroS none 0 0, .slice L rs.length k] w (GivesF (feedS zeroS rs) none [] w) := hf zeroS none 0 [] L k rs w (InS.zero w) zero_byt zero_size h h1 h2 h3 h4
theorem lets_i64 {bs : List Nat} (h : ∀ c ∈ bs, c < 256) : ∀ r ∈ lets bs, I64 r := by
  intro r hr
  obtain ⟨c, hc, rfl⟩ := List.mem_map.1 hr
  have := h c hc
  unfold I64; omega
set_option maxRecDepth 100000 in
set_option maxHeartbeats 4000000 in
theorem awake6_c (hf : Feed6C) (w : World) (hP : Pw w) : Calls Tryd.prog 8 #[] w fun e w' => e = .returned (.bool true) ∧ Below w.heap.size w w' := by
  have hg := hP.size
  have hl : Calls Tryd.prog 18 #[.string ⟨#[27, 91, 49, 59, 51, 49, 109]⟩] w (GivesI (lets [27, 91, 49, 59, 51, 49, 109]) w) := letters_c [27, 91, 49, 59, 51, 49, 109] (by decide) (by decide) w
  go_enter Tryd.func8, Tryd.ntmps8
  go_wp2_with fail
  refine hl.mono ?_
  rintro e w1 ⟨L, k, rfl, hI, hk1, hk2, hb1⟩
  have hff := feed_zero hf hI hk1 hk2 (by decide) (lets_i64 (by decide))
  rw [feed_ex, zero_val] at hff
  have HI := Lib.hid (And.intro hI hb1)
  simp only [lets_len, List.length_cons, List.length_nil] at hff ⊢
  clear hl hI hk1 hk2 hb1
  go_wp2_with fail
  refine hff.mono ?_
  rintro e w2 ⟨A, c, es, B, d, l, rfl, hS, hown, hpar, hac, hb2, -⟩
  have hl1 : l.length = 1 := by rw [← acts_len, hac]; rfl
  obtain ⟨a, rfl⟩ : ∃ a, l = [a] := by
    match l, hl1 with
    | [a], _ => exact ⟨a, rfl⟩
  have hin := InA.of_own hown hpar
  have hap : a.plain = ⟨4, 0, 109, [], [[1], [31]], []⟩ := by
    simp only [acts, List.map_cons, List.map_nil, List.cons.injEq, and_true] at hac
    exact hac
  have e1 : a.what = 4 := congrArg A6.what hap
  have e2 : a.fin = 109 := congrArg A6.fin hap
  have e3 : qs a.es = [[1], [31]] := congrArg A6.par hap
  have hb := HI.out.2.trans (hb2.mono HI.out.2.size)
  have hal : Below w2.heap.size w2 (w2.alloc (.cells #[.int .i64 0, .string ⟨#[]⟩, .bool false, .slice A es.length c, .bool false, .string ⟨#[]⟩, .int .u8 0] 28)) := (Below.refl _ _).alloc (Nat.le_refl _) _
  have hbA := hb.trans (hal.mono hb.size)
  obtain ⟨b, o, rfl, hbl, a0, a1, a2, a3, a4, a5, ip⟩ := (hin.on hal).at_ (k := 0) rfl
  rw [e1] at a0
  rw [e2] at a2
  simp only [Nat.zero_mul, Nat.add_zero] at a0 a2 a4
  have hpr := print_c a.A a.c a.es _ ip (by rw [e3]; exact ⟨by decide, by intro q hq; simp at hq; rcases hq with rfl | rfl <;> exact ⟨by decide, by intro n hn; simp at hn; subst hn; unfold I64; decide⟩⟩) (hP.below hbA hg)
  rw [e3, print_ex] at hpr
  have hstr : strS [49, 59, 51, 49] = ⟨#[49, 59, 51, 49]⟩ := rfl
  rw [hstr] at hpr
  have HB := Lib.hid hbA
  have HPR := Lib.hid hpr
  clear hS hown hpar hac hin hap e1 e2 e3 hb hal hbA ip a1 a3 a5 hpr hff hb2 HI hl1
  simp only [List.length_singleton, zero_stV]
  go_wp2_with fail
  refine HPR.out.mono ?_
  rintro e w3 ⟨rfl, hb3⟩
  have hbel := HB.out.trans (hb3.mono HB.out.size)
  clear hb3 HPR HB a0 a2 a4
  go_wp2_with fail
  go_ret
  exact ⟨rfl, hbel⟩
end Go.Proofs.YtiaippdaogmcmaaDoor
