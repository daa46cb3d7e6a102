/- Parse: a text's parameters. -/
import Derived.Test.YtlcnlfjjglcobaaDoorP5By
namespace Go.Proofs.YtlcnlfjjglcobaaDoor
open Go Go.RowKit
set_option linter.unusedVariables false
set_option linter.unusedSimpArgs false

theorem idx_at {bs : List Nat} {j x : Nat} (h : bs[j]? = some x) (hx : x < 256) (V : World) : (Instr.index 9 (.string (strS bs)) (.int .i64 (j : Int))).run Tryd.prog V = .ok (.int .u8 (x : Int)) V := by
  obtain ⟨hj, hv⟩ := List.getElem?_eq_some_iff.1 h
  rw [run_index_string V 9 (strS bs) .i64 j Tryd.underlying9]
  have hs : (strS bs).size = bs.length := strS_size bs
  rw [dif_pos (by rw [hs]; omega)]
  congr 3
  have e : (strS bs)[(j : Int).toNat]'(by rw [hs]; simpa using hj) = UInt8.ofNat x := by
    subst hv
    show ((bs.map UInt8.ofNat).toArray)[(j : Int).toNat]'_ = _
    simp
  rw [e, UInt8.toNat_ofNat']
  omega
theorem parse_yes {bs : List Nat} (h : ∀ c ∈ bs, isByte c) : parseP bs = some (runP zeroP bs).l := by unfold parseP; rw [if_pos h]
theorem parse_no {bs : List Nat} {j x : Nat} (h : bs[j]? = some x) (hx : ¬ isByte x) : parseP bs = none := by
  unfold parseP
  rw [if_neg (fun k => hx (k x (List.mem_of_getElem? h)))]
theorem fn_nil0 (w : World) : (binOp .eql 55 .nilFunc .nilFunc).run Tryd.prog w = .ok (.bool true) w := by kernel_rfl
theorem fn_nil (f : Fn) (first cap : Array Value) (w : World) : (binOp .eql 55 (.func f first cap) .nilFunc).run Tryd.prog w = .ok (.bool false) w := by kernel_rfl
/-- What the maker holds behind some bytes. -/
def MkAt (w wr : World) (p : Par) : Prop := ∃ A c es, Mk wr w.heap.size w.heap.size A c es p.o ∧ qs es = p.l ∧ Below w.heap.size w wr
set_option maxRecDepth 100000 in
set_option maxHeartbeats 4000000 in
theorem parse_c : ParseC := by
  intro bs w hbs hlen
  have hs : (strS bs).size = bs.length := strS_size bs
  have hfn0 := fn_nil0
  have hfn1 := fn_nil
  have hmk0 : MkAt w (w.alloc (.cells #[.slice none 0 0, .bool false] 54)) zeroP := ⟨none, 0, [], ⟨Nat.le_refl _, Box.new w _ _, ⟨rfl, .inl ⟨rfl, rfl⟩⟩, by simp, List.Pairwise.nil⟩, rfl, (Below.refl _ _).alloc (Nat.le_refl _) _⟩
  generalize hgl : GivesL (parseP bs) w = R
  have HGL := Lib.hid hgl
  clear hgl
  go_enter Tryd.func16, Tryd.ntmps16
  go_wp2_with fail
  go_loopw [9] (fun u9 wr => ∃ k : Nat, k ≤ bs.length ∧ u9 = .int .i64 (k : Int) ∧ MkAt w wr (runP zeroP (bs.take k)) ∧ Hid (∀ c ∈ bs.take k, isByte c)) (fun u9 _ => bs.length - (intOf u9).toNat)
  case atStart => exact ⟨0, Nat.zero_le _, rfl, hmk0, Lib.hid (by simp)⟩
  case round =>
    obtain ⟨k, hk, rfl, ⟨A, c, es, hm, hq, hbel⟩, HB⟩ := hrel
    have hsane : SaneP (runP zeroP (bs.take k)) := run_sane zero_sane _
    generalize hp : runP zeroP (bs.take k) = p at *
    have hpe : (⟨qs es, p.o⟩ : Par) = p := Par.ext' hq rfl
    by_cases hlt : k < bs.length
    · obtain ⟨x, hx⟩ : ∃ x, bs[k]? = some x := ⟨_, List.getElem?_eq_getElem hlt⟩
      have hx2 := hbs x (List.mem_of_getElem? hx)
      have hix := idx_at hx hx2
      have hby := by_c w.heap.size x hx2 wr
      have z1 : (k : Int) < (bs.length : Int) := by omega
      have HX := Lib.hid hx
      have HP := Lib.hid hp
      by_cases hbyte : isByte x
      · have hnext : ∀ p', rStep p x = p' → runP zeroP (bs.take (k + 1)) = p' := fun p' h => by
          rw [take_snoc HX.out, run_snoc, HP.out, step_raw hsane, h]
        have hall : Hid (∀ c ∈ bs.take (k + 1), isByte c) := Lib.hid (by
          rw [take_snoc HX.out]
          intro y hy
          rcases List.mem_append.1 hy with hy | hy
          · exact HB.out y hy
          · simp at hy; subst hy; exact hbyte)
        have HN := Lib.hid hnext
        clear hnext hx hp hk
        rcases hbyte with hd | hd | hd
        · have hdd := hd
          have ev : byV w.heap.size x = .func (.func 28) #[.pointer (some ⟨w.heap.size, 0, none⟩)] #[] := by unfold byV; rw [if_pos hd]
          have hr : rStep p x = rDigit x p := by unfold rStep; unfold isDig at hd; rw [if_neg (by omega), if_neg (by omega), if_pos hdd]
          rw [ev] at hby
          have hcall := digit_m wr w.heap.size w.heap.size A c es p.o x hd hm (by rw [hpe]; exact hsane)
          rw [hpe] at hcall
          have hnp := HN.out _ hr
          rw [← hnp] at hcall
          have HC := Lib.hid hcall
          clear hr hnp ev hcall hm hq hpe hsane hd hdd
          go_wp2_with fail
          refine hby.mono ?_
          rintro e w1 ⟨rfl, rfl⟩
          clear hby
          have hcall := HC.out
          go_wp2_with fail
          refine hcall.mono ?_
          rintro e w2 ⟨rfl, A2, c2, es2, hm2, hq2, hb2⟩
          have HM := Lib.hid (⟨A2, c2, es2, hm2, hq2, hbel.trans hb2⟩ : MkAt w w2 (runP zeroP (bs.take (k + 1))))
          clear hcall hm2 hq2 hb2 HC
          go_wp2_with fail
          exact ⟨⟨k + 1, by omega, by simp, HM.out, hall⟩, by simp [intOf]; omega⟩
        · have hdd := hd
          have ev : byV w.heap.size x = .func (.func 30) #[.pointer (some ⟨w.heap.size, 0, none⟩)] #[] := by unfold byV; subst hd; rfl
          have hr : rStep p x = rSub p := by unfold rStep; rw [if_neg (by omega), if_pos hd]
          rw [ev] at hby
          have hcall := sub_m wr w.heap.size w.heap.size A c es p.o (x : Int) hm (by rw [hpe]; exact hsane)
          rw [hpe] at hcall
          have hnp := HN.out _ hr
          rw [← hnp] at hcall
          have HC := Lib.hid hcall
          clear hr hnp ev hcall hm hq hpe hsane hd hdd
          go_wp2_with fail
          refine hby.mono ?_
          rintro e w1 ⟨rfl, rfl⟩
          clear hby
          have hcall := HC.out
          go_wp2_with fail
          refine hcall.mono ?_
          rintro e w2 ⟨rfl, A2, c2, es2, hm2, hq2, hb2⟩
          have HM := Lib.hid (⟨A2, c2, es2, hm2, hq2, hbel.trans hb2⟩ : MkAt w w2 (runP zeroP (bs.take (k + 1))))
          clear hcall hm2 hq2 hb2 HC
          go_wp2_with fail
          exact ⟨⟨k + 1, by omega, by simp, HM.out, hall⟩, by simp [intOf]; omega⟩
        · have hdd := hd
          have ev : byV w.heap.size x = .func (.func 29) #[.pointer (some ⟨w.heap.size, 0, none⟩)] #[] := by unfold byV; subst hd; rfl
          have hr : rStep p x = rNext p := by unfold rStep; rw [if_pos hd]
          rw [ev] at hby
          have hcall := next_m wr w.heap.size w.heap.size A c es p.o (x : Int) hm (by have := hsane.few; rw [← hq] at this; simpa [qs_length] using this)
          rw [hpe] at hcall
          have hnp := HN.out _ hr
          rw [← hnp] at hcall
          have HC := Lib.hid hcall
          clear hr hnp ev hcall hm hq hpe hsane hd hdd
          go_wp2_with fail
          refine hby.mono ?_
          rintro e w1 ⟨rfl, rfl⟩
          clear hby
          have hcall := HC.out
          go_wp2_with fail
          refine hcall.mono ?_
          rintro e w2 ⟨rfl, A2, c2, es2, hm2, hq2, hb2⟩
          have HM := Lib.hid (⟨A2, c2, es2, hm2, hq2, hbel.trans hb2⟩ : MkAt w w2 (runP zeroP (bs.take (k + 1))))
          clear hcall hm2 hq2 hb2 HC
          go_wp2_with fail
          exact ⟨⟨k + 1, by omega, by simp, HM.out, hall⟩, by simp [intOf]; omega⟩
      · have ev : byV w.heap.size x = .nilFunc := by
          unfold byV
          unfold isByte at hbyte
          rw [if_neg (fun h => hbyte (.inl h)), if_neg (fun h => hbyte (.inr (.inr h))), if_neg (fun h => hbyte (.inr (.inl h)))]
        rw [ev] at hby
        have hno := parse_no hx hbyte
        have HNO := Lib.hid hno
        clear hm hq hpe hsane hbyte ev hx hp hno
        go_wp2_with fail
        refine hby.mono ?_
        rintro e w1 ⟨rfl, rfl⟩
        clear hby
        go_wp2_with fail

        rw [← HGL.out, HNO.out]
        exact ⟨none, 0, rfl, hbel⟩
    · have hke : bs.take k = bs := List.take_of_length_le (by omega)
      rw [hke] at hp HB
      have hyes := parse_yes HB.out
      rw [hp] at hyes
      have HY := Lib.hid hyes
      have c0 := hm.box.cell 0
      have hin := hm.in_
      have HI := Lib.hid (And.intro hin (And.intro hq hbel))
      have z1 : ¬ (k : Int) < (bs.length : Int) := by omega
      clear hm hq hpe hsane hp hyes hke hin hmk0
      go_wp2_with fail

      rw [← HGL.out, HY.out]
      exact ⟨A, c, es, rfl, HI.out.1, HI.out.2.1, HI.out.2.2⟩
end Go.Proofs.YtlcnlfjjglcobaaDoor
