/- ParamsBack, walked over the contracts. -/
import Derived.Test.YtaaojffikpfllaaDoorContr05b
import Derived.Test.YtaaojffikpfllaaDoorRefPrint
namespace Go.Proofs.YtaaojffikpfllaaDoor
open Go Go.RowKit
set_option linter.unusedVariables false
set_option linter.unusedSimpArgs false

def PrintC : Prop := ∀ (A : Option Addr) (c : Nat) (es : List El) (w : World), InP w A c es → SizeP (qs es) → Pw w →
  Calls Tryd.prog 7 #[.slice A es.length c] w fun e w' => e = .returned (.string (strS (printP (qs es)))) ∧ Below w.heap.size w w'
theorem sane_size {p : Par} (h : SaneP p) : SizeP p.l := ⟨by have := h.few; omega, fun q hq => ⟨by have := (h.each q hq).2.1; omega, fun n hn => by
  have := (h.each q hq).2.2 n hn
  unfold NumOk at this; unfold I64; omega⟩⟩
theorem sane_shut {p : Par} (h : SaneP p) : SaneP ⟨p.l, false⟩ := ⟨h.few, h.each, fun _ => rfl⟩
theorem byte_lt {c : Nat} (h : isByte c) : c < 256 := by
  unfold isByte isDig at h; omega
set_option maxRecDepth 100000 in
set_option maxHeartbeats 4000000 in
theorem back_law (hp : ParseC) (hget : GetC) (hsane : SaneC) (hprint : PrintC) (bs : List Nat) (hbs : ∀ c ∈ bs, c < 256) (w : World) (hP : Pw w) :
    Calls Tryd.prog 3 #[.string (strS bs)] w fun e w' => e = .returned (.bool true) ∧ Below w.heap.size w w' := by
  have hs : (strS bs).size = bs.length := strS_size bs
  have hg := hP.size
  by_cases hbig : 300 < bs.length
  · have hz : (bs.length : Int) > 300 := by omega
    go_enter Tryd.func3, Tryd.ntmps3
    go_wp2_with fail
    refine (awake_c hp hget w).mono ?_
    rintro e w1 ⟨rfl, hb1⟩
    go_wp2_with fail
    go_ret
    exact ⟨rfl, hb1⟩
  · have hz : ¬ (bs.length : Int) > 300 := by omega
    by_cases hall : ∀ c ∈ bs, isByte c
    · have hpl : parseP bs = some (runP zeroP bs).l := by unfold parseP; rw [if_pos hall]
      have hrs := run_sane zero_sane bs
      have hss := sane_shut hrs
      have hsz := sane_size hrs
      go_enter Tryd.func3, Tryd.ntmps3
      go_wp2_with fail
      refine (awake_c hp hget w).mono ?_
      rintro e w1 ⟨rfl, hb1⟩
      have hpc := hp bs w1 hbs (by omega)
      rw [hpl] at hpc
      unfold GivesL at hpc
      dsimp only at hpc
      go_wp2_with fail
      refine hpc.mono ?_
      rintro e w2 ⟨A, c, es, rfl, hin, hq, hb2⟩
      have hbel := hb1.trans (hb2.mono hb1.size)
      rw [← hq] at hss hsz
      clear hb1 hb2 hpc hpl hrs hq
      have hpr := hprint A c es w2 hin hsz (hP.below hbel hg)
      have hpp := parse_print hss
      have hpb := print_bytes hss.each
      have hlen := print_len hss
      have HSS := Lib.hid hss
      have HSZ := Lib.hid hsz
      clear hss hsz
      go_wp2_with fail
      refine hpr.mono ?_
      rintro e w3 ⟨rfl, hb3⟩
      have hbel3 := hbel.trans (hb3.mono hbel.size)
      have hin3 := hin.on hb3
      have hpc := hp (printP (qs es)) w3 (fun c hc => byte_lt (hpb c hc)) (by omega)
      rw [hpp] at hpc
      unfold GivesL at hpc
      dsimp only at hpc
      clear hpr hb3 hin hbel hpp hpb
      go_wp2_with fail
      refine hpc.mono ?_
      rintro e w4 ⟨A2, c2, es2, rfl, hin2, hq2, hb4⟩
      have hbel4 := hbel3.trans (hb4.mono hbel3.size)
      have hin4 := hin3.on hb4
      clear hb4 hin3 hbel3 hpc
      have hsm := same_c A A2 es es2 c c2 w4 hin4.nest hin2.nest hin4.len hin2.len
      have hpeq : printP (qs es2) = printP (qs es) := by
        rw [hq2]
        split
        · rename_i h; rw [h]; rfl
        · rfl
      have hsz2 : SizeP (qs es2) := by
        rw [hq2]
        split
        · exact ⟨by simp, by simp⟩
        · exact HSZ.out
      have hl576 : ((strS (printP (qs es))).size : Int) ≤ 576 := by rw [strS_size]; omega
      have hpr2 := fun V hV hPV => hprint A2 c2 es2 V hV hsz2 hPV
      rw [hpeq] at hpr2
      have HPR := Lib.hid hpr2
      have hsn := fun V hV => hsane A c es false V hV
      rw [decide_eq_true HSS.out] at hsn
      have HSN := Lib.hid hsn
      clear hpr2 hsn hpeq hsz2 hlen
      generalize strS (printP (qs es)) = T at *
      by_cases hone : qs es = [[-1]]
      · rw [if_pos hone] at hq2
        have hl1 : es.length = 1 := by rw [← qs_length, hone]; rfl
        have hl2 : es2.length = 0 := by rw [← qs_length, hq2]; rfl
        obtain ⟨e0, rfl⟩ : ∃ e0, es = [e0] := by
          match es, hl1 with
          | [a], _ => exact ⟨a, rfl⟩
        obtain rfl : es2 = [] := List.eq_nil_of_length_eq_zero hl2
        have hq0 : e0.q = [-1] := by
          simp only [qs, List.map_cons, List.map_nil, List.cons.injEq, and_true] at hone
          exact hone
        rw [decide_eq_false (by simp [qs])] at hsm
        have HI2 := Lib.hid hin2
        have HI4 := Lib.hid hin4
        clear hone hl1 hl2 hin2 hin4 hq2
        go_wp2_with fail
        refine hsm.mono ?_
        rintro e w5 ⟨rfl, hb5⟩
        have hbel5 := hbel4.trans (hb5.mono hbel4.size)
        obtain ⟨b, o, rfl, hbl, d1, ok1⟩ := (HI4.out.on hb5).nest.at_ (k := 0) (e := e0) rfl
        have hl1 : e0.q.length = 1 := by rw [hq0]; rfl
        obtain ⟨b3, o3, ha3, l3, y1⟩ := ok1.rd.at_ (k := 0) (x := -1) (by rw [hq0]; rfl)
        rw [hl1, ha3] at d1
        unfold intV at y1
        have hsn := HSN.out w5 (HI4.out.on hb5)
        simp only [List.length_cons, List.length_nil, Nat.zero_add] at hsn ⊢
        simp only [Nat.add_zero] at d1 y1
        clear hsm hl1 ok1 hq0
        go_wp2_with fail
        refine hsn.mono ?_
        rintro e w6 ⟨rfl, hb6⟩
        have hbel6 := hbel5.trans (hb6.mono hbel5.size)
        have hpr := HPR.out w6 ((HI2.out.on hb5).on hb6) (hP.below hbel6 hg)
        simp only [List.length_nil] at hpr
        clear hsn d1 y1
        go_wp2_with fail
        refine hpr.mono ?_
        rintro e w7 ⟨rfl, hb7⟩
        have hbel7 := hbel6.trans (hb7.mono hbel6.size)
        clear hpr
        go_wp2_with fail
        go_ret
        exact ⟨by simp, hbel7⟩
      · rw [if_neg hone] at hq2
        rw [decide_eq_true hq2.symm] at hsm
        have HI2 := Lib.hid hin2
        have HI4 := Lib.hid hin4
        clear hq2 hone hin2 hin4
        go_wp2_with fail
        refine hsm.mono ?_
        rintro e w5 ⟨rfl, hb5⟩
        have hbel5 := hbel4.trans (hb5.mono hbel4.size)
        have hsn := HSN.out w5 (HI4.out.on hb5)
        clear hsm
        go_wp2_with fail
        refine hsn.mono ?_
        rintro e w6 ⟨rfl, hb6⟩
        have hbel6 := hbel5.trans (hb6.mono hbel5.size)
        have hpr := HPR.out w6 ((HI2.out.on hb5).on hb6) (hP.below hbel6 hg)
        clear hsn
        go_wp2_with fail
        refine hpr.mono ?_
        rintro e w7 ⟨rfl, hb7⟩
        have hbel7 := hbel6.trans (hb7.mono hbel6.size)
        clear hpr
        go_wp2_with fail
        go_ret
        exact ⟨by simp, hbel7⟩
    · have hpl : parseP bs = none := by unfold parseP; rw [if_neg hall]
      go_enter Tryd.func3, Tryd.ntmps3
      go_wp2_with fail
      refine (awake_c hp hget w).mono ?_
      rintro e w1 ⟨rfl, hb1⟩
      have hpc := hp bs w1 hbs (by omega)
      rw [hpl] at hpc
      unfold GivesL at hpc
      dsimp only at hpc
      go_wp2_with fail
      refine hpc.mono ?_
      rintro e w2 ⟨A, c, rfl, hb2⟩
      have hbel := hb1.trans (hb2.mono hb1.size)
      clear hpc
      go_wp2_with fail
      go_ret
      exact ⟨rfl, hbel⟩
end Go.Proofs.YtaaojffikpfllaaDoor
