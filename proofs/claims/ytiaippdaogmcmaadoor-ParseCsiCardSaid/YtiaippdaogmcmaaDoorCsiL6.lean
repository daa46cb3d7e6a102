/- ParseCsi, walked over the contracts. -/
import Derived.Test.YtiaippdaogmcmaaDoorTextL6
import Derived.Test.YtiaippdaogmcmaaDoorBitsR
namespace Go.Proofs.YtiaippdaogmcmaaDoor
open Go Go.RowKit
set_option linter.unusedVariables false
set_option linter.unusedSimpArgs false

theorem conv_one (c : Nat) (hc : c < 256) (w : World) : (convert 49 9 (.slice (some ⟨w.heap.size, 0, none⟩) 1 1)).run Tryd.prog (w.alloc (.cells #[.int .u8 (c : Int)] 5)) = .ok (.string (strS [c])) (w.alloc (.cells #[.int .u8 (c : Int)] 5)) := by
  have h := run_convert_bytes_arg (P := Tryd.prog) (w.alloc (.cells #[.int .u8 (c : Int)] 5)) 49 5 Tryd.underlying49 Tryd.underlying5 w.heap.size 0 1 1 [(c : Int)] (by simp) (by
    intro i hi
    have : i = 0 := by omega
    subst this
    rw [(Box.new w 5 #[.int .u8 (c : Int)]).cell]
    rfl) 9 Tryd.underlying9
  rw [h]
  congr 2
set_option maxRecDepth 100000 in
set_option maxHeartbeats 4000000 in
theorem csi_law (hp : ParseC) (hf : Feed6C) (sign between final : Int) (bs : List Nat) (hbs : ∀ c ∈ bs, c < 256) (w : World) (hP : Pw w) :
    Calls Tryd.prog 5 #[.int .i64 sign, .string (strS bs), .int .i64 between, .int .i64 final] w fun e w' => e = .returned (.bool true) ∧ Below w.heap.size w w' := by
  have hg := hP.size
  have hs : (strS bs).size = bs.length := strS_size bs
  by_cases hbig : 200 < bs.length
  · have hz : (bs.length : Int) > 200 := by omega
    go_enter Tryd.func5, Tryd.ntmps5
    go_wp2_with fail
    refine (awake6_c hf w hP).mono ?_
    rintro e w1 ⟨rfl, hb1⟩
    go_wp2_with fail
    go_ret
    exact ⟨rfl, hb1⟩
  · have hz : ¬ (bs.length : Int) > 200 := by omega
    by_cases hall : ∀ c ∈ bs, isByte c
    · have a1 : bits .and .i64 sign 7 = sign % 8 := and_low sign 3 (by decide)
      have a2 : bits .and .i64 sign 3 = sign % 4 := and_low sign 2 (by decide)
      have a3 : bits .and .i64 between 1 = between % 2 := and_low between 1 (by decide)
      have a4 : bits .and .i64 final 255 = final % 256 := and_low final 8 (by decide)
      have a5 : ∀ z, bits .and .i64 z 15 = z % 16 := fun z => and_low z 4 (by decide)
      have b1 : 0 ≤ sign % 8 ∧ sign % 8 < 8 := by omega
      have b2 : 0 ≤ sign % 4 ∧ sign % 4 < 4 := by omega
      have b4 : 0 ≤ final % 256 ∧ final % 256 < 256 := by omega
      generalize sign % 8 = s8 at *
      generalize sign % 4 = s4 at *
      generalize final % 256 = f8 at *
      have hpl : parseP bs = some (runP zeroP bs).l := by unfold parseP; rw [if_pos hall]
      go_enter Tryd.func5, Tryd.ntmps5
      go_wp2_with fail
      refine (awake6_c hf w hP).mono ?_
      rintro e w1 ⟨rfl, hb1⟩
      have hpc := hp bs w1 hbs (by omega)
      rw [hpl] at hpc
      unfold GivesL at hpc
      dsimp only at hpc
      have HA := Lib.hid hall
      clear hpl hall
      go_wp2_with fail
      refine hpc.mono ?_
      rintro e w2 ⟨A, c, es, rfl, hin, hq, hb2⟩
      have hbel2 := hb1.trans (hb2.mono hb1.size)
      have HI := Lib.hid (And.intro hin hq)
      clear hpc hb1 hb2 hin hq
      go_upto_if 32 with fail
      go_cut [12] (fun s wx => ∃ mid : List Nat, s = .string (strS mid) ∧ (mid = [] ∨ ∃ c, signB c = true ∧ mid = [c]) ∧ Below w2.heap.size w2 wx)
      case first =>
        by_cases h4 : s8 < 4
        · have hc := conv_one (60 + s4).toNat (by omega)
          rw [show (((60 + s4).toNat : Nat) : Int) = 60 + s4 from by omega] at hc
          go_wp2_with fail
          go_meet
          exact ⟨[(60 + s4).toNat], rfl, .inr ⟨_, by simp [signB]; omega, rfl⟩, (Below.refl _ _).alloc (Nat.le_refl _) _⟩
        · go_wp2_with fail
          go_meet
          exact ⟨[], rfl, .inl rfl, Below.refl _ _⟩
      case rest =>
        obtain ⟨mid, rfl, hmid, hbm⟩ := hcut
        go_upto_if 41 with fail
        go_cut [13] (fun s wx => ∃ more : List Nat, s = .string (strS more) ∧ (more = [] ∨ ∃ c, midB c = true ∧ more = [c]) ∧ Below w2.heap.size w2 wx)
        case first =>
          by_cases h1 : between % 2 = 1
          · have e1 : (between % 2 == 1) = true := beq_iff_eq.2 h1
            have hc := conv_one (32 + between / 2 % 16).toNat (by omega)
            rw [show (((32 + between / 2 % 16).toNat : Nat) : Int) = 32 + between / 2 % 16 from by omega] at hc
            go_wp2_with fail
            go_meet
            exact ⟨[(32 + between / 2 % 16).toNat], rfl, .inr ⟨_, by simp [midB]; omega, rfl⟩, hbm.trans ((Below.refl _ _).alloc hbm.size _)⟩
          · have e1 : (between % 2 == 1) = false := beq_eq_false_iff_ne.2 h1
            go_wp2_with fail
            go_meet
            exact ⟨[], rfl, .inl rfl, hbm⟩
        case rest =>
          obtain ⟨more, rfl, hmore, hbn⟩ := hcut
          have hml : (strS mid).size ≤ 1 := by rw [strS_size]; rcases hmid with rfl | ⟨c, _, rfl⟩ <;> simp
          have hnl : (strS more).size ≤ 1 := by rw [strS_size]; rcases hmore with rfl | ⟨c, _, rfl⟩ <;> simp
          obtain ⟨f, hf8, hfr⟩ : ∃ f : Nat, 64 + f8 % 63 = (f : Int) ∧ 64 ≤ f ∧ f ≤ 126 := ⟨(64 + f8 % 63).toNat, by omega, by omega⟩
          have hc := conv_one f (by omega)
          have h2 : (⟨#[27, 91]⟩ : ByteArray).size = 2 := rfl
          have hf1 : (strS [f]).size = 1 := by rw [strS_size]; rfl
          have zs1 : ¬ (2 + (strS mid).size > 9223372036854775807) := by omega
          have zs2 : ¬ (((⟨#[27, 91]⟩ : ByteArray) ++ strS mid).size + (strS bs).size > 9223372036854775807) := by rw [ByteArray.size_append]; omega
          have zs3 : ¬ (((⟨#[27, 91]⟩ : ByteArray) ++ strS mid ++ strS bs).size + (strS more).size > 9223372036854775807) := by rw [ByteArray.size_append, ByteArray.size_append]; omega
          have zs4 : ¬ (((⟨#[27, 91]⟩ : ByteArray) ++ strS mid ++ strS bs ++ strS more).size + (strS [f]).size > 9223372036854775807) := by rw [ByteArray.size_append, ByteArray.size_append, ByteArray.size_append]; omega
          have zs5 : ¬ ((strS mid).size + (strS more).size > 9223372036854775807) := by omega
          have hstr : (⟨#[27, 91]⟩ : ByteArray) ++ strS mid ++ strS bs ++ strS more ++ strS [f] = strS ([27, 91] ++ mid ++ bs ++ more ++ [f]) := by rw [strS_append, strS_append, strS_append, strS_append]; rfl
          have hby : ∀ c ∈ [27, 91] ++ mid ++ bs ++ more ++ [f], c < 256 := by
            intro c hc
            simp only [List.mem_append, List.mem_cons, List.not_mem_nil, or_false] at hc
            rcases hc with (((hc | hc) | hc) | hc) | hc
            · omega
            · rcases hmid with rfl | ⟨x, hx, rfl⟩
              · simp at hc
              · simp at hc; subst hc; simp [signB] at hx; omega
            · exact hbs c hc
            · rcases hmore with rfl | ⟨x, hx, rfl⟩
              · simp at hc
              · simp at hc; subst hc; simp [midB] at hx; omega
            · omega
          have hmm : mid.length ≤ 1 ∧ more.length ≤ 1 := by rw [strS_size] at hml hnl; exact ⟨hml, hnl⟩
          have hl : ∀ V, Calls Tryd.prog 18 #[.string (⟨#[27, 91]⟩ ++ strS mid ++ strS bs ++ strS more ++ strS [f])] V (GivesI (lets ([27, 91] ++ mid ++ bs ++ more ++ [f])) V) := fun V => by rw [hstr]; exact letters_c _ hby (by simp; omega) V
          have hfd : feedS zeroS (lets ([27, 91] ++ mid ++ bs ++ more ++ [f])) = (zeroS, [⟨4, 0, f, mid ++ more, (runP zeroP bs).l, []⟩]) := csi_feed mid more bs f hmid hmore HA.out hfr
          have hlen : (lets ([27, 91] ++ mid ++ bs ++ more ++ [f])).length ≤ 300 := by rw [lets_len]; simp; omega
          have HFD := Lib.hid (And.intro hfd (And.intro (lets_i64 hby) hlen))
          have HMM := Lib.hid (strS_append mid more)
          have hal : Below w2.heap.size w2 (wc.alloc (.cells #[.int .u8 (f : Int)] 5)) := hbn.trans ((Below.refl _ _).alloc hbn.size _)
          have HAL := Lib.hid hal
          generalize lets ([27, 91] ++ mid ++ bs ++ more ++ [f]) = rs at *
          clear hstr hby hfd hlen hmm hmid hmore hbm hbn h2 hf1 hal hml hnl
          go_wp2_with fail
          refine (hl _).mono ?_
          rintro e w3 ⟨L, kk, rfl, hI, hk1, hk2, hb3⟩
          have hff := feed_zero hf hI hk1 hk2 (by have := HFD.out.2.2; omega) HFD.out.2.1
          rw [HFD.out.1, zero_val] at hff
          have hbel3 := HAL.out.trans (hb3.mono HAL.out.size)
          clear hl hI hk1 hk2 hb3 zs1 zs2 zs3 zs4 HFD hc HAL
          go_wp2_with fail
          refine hff.mono ?_
          rintro e w4 ⟨A', c', es', B, d, l, rfl, hS, hown, hpar, hac, hb4, -⟩
          obtain ⟨a, rfl, hap⟩ := one_act hac
          have hin := InA.of_own hown hpar
          have e1 : a.what = 4 := congrArg A6.what hap
          have e2 : a.fin = f := congrArg A6.fin hap
          have e3 : a.inter = mid ++ more := congrArg A6.inter hap
          have e4 : qs a.es = (runP zeroP bs).l := congrArg A6.par hap
          have hbel4 := hbel3.trans (hb4.mono hbel3.size)
          have hal : Below w4.heap.size w4 (w4.alloc (.cells #[.int .i64 0, .string ⟨#[]⟩, .bool false, .slice A' es'.length c', .bool false, .string ⟨#[]⟩, .int .u8 0] 28)) := (Below.refl _ _).alloc (Nat.le_refl _) _
          have hbel5 := hbel4.trans (hal.mono hbel4.size)
          obtain ⟨b, o, rfl, hbl, k0, k1, k2, k3, k4, k5, ip⟩ := (hin.on hal).at_ (k := 0) rfl
          rw [e1] at k0
          rw [e2] at k2
          rw [e3, HMM.out] at k3
          simp only [Nat.zero_mul, Nat.add_zero] at k0 k2 k3 k4
          have hsm := same_c a.A A a.es es a.c c _ ip.nest (HI.out.1.on hbel5).nest ip.len HI.out.1.len
          rw [decide_eq_true (e4.trans HI.out.2.symm)] at hsm
          have HSM := Lib.hid hsm
          have HB := Lib.hid (hbel2.trans (hbel5.mono hbel2.size))
          clear hS hown hpar hac hin hap e1 e2 e3 e4 hal ip k1 k5 hff hb4 hbel3 hbel4 hbel5 hsm hbel2
          simp only [List.length_singleton, zero_stV]
          go_wp2_with fail
          refine HSM.out.mono ?_
          rintro e w5 ⟨rfl, hb5⟩
          have hbel := HB.out.trans (hb5.mono HB.out.size)
          clear hb5 HSM HB k0 k2 k3 k4
          go_wp2_with fail
          go_ret
          exact ⟨rfl, hbel⟩
    · have hpl : parseP bs = none := by unfold parseP; rw [if_neg hall]
      clear hall
      go_enter Tryd.func5, Tryd.ntmps5
      go_wp2_with fail
      refine (awake6_c hf w hP).mono ?_
      rintro e w1 ⟨rfl, hb1⟩
      have hpc := hp bs w1 hbs (by omega)
      rw [hpl] at hpc
      unfold GivesL at hpc
      dsimp only at hpc
      go_wp2_with fail
      refine hpc.mono ?_
      rintro e w2 ⟨A, c, rfl, hb2⟩
      have hbel2 := hb1.trans (hb2.mono hb1.size)
      clear hpc hb1 hb2
      go_wp2_with fail
      go_ret
      exact ⟨rfl, hbel2⟩
end Go.Proofs.YtiaippdaogmcmaaDoor
