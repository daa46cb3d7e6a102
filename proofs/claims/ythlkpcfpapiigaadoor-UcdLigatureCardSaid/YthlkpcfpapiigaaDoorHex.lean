/- hex, by its contract: a word of one to seven digits. -/
import Derived.Test.YthlkpcfpapiigaaDoorChecked
import Derived.Lib.ConvBytes
import Derived.Lib.SmallJoins
import Derived.Lib.Hide
import Derived.Lib.Walk
import Derived.Lib.Strings
import Derived.WalkKit
import Derived.BigCall
import Derived.BigGuard
import Derived.Test.YthlkpcfpapiigaaDoorPlain02
namespace Go.Proofs.YthlkpcfpapiigaaDoor
open Go Go.RowKit
set_option linter.unusedVariables false
set_option linter.unusedSimpArgs false

theorem lower_c (c : Int) (h1 : 65 ≤ c) (h2 : c ≤ 70) (w : World) :
    Calls Tryd.prog 56 #[.int .u8 c] w fun e w' => e = .returned (.int .u8 (c + 32)) ∧ w = w' := by
  have h : c = 65 ∨ c = 66 ∨ c = 67 ∨ c = 68 ∨ c = 69 ∨ c = 70 := by omega
  rcases h with rfl | rfl | rfl | rfl | rfl | rfl
  all_goals
    go_enter Tryd.func56, Tryd.ntmps56
    go_wp2
    go_ret
    exact ⟨rfl, rfl⟩

set_option maxHeartbeats 8000000 in
set_option maxRecDepth 100000 in
theorem parseUint_c (t : ByteArray) (ht : wordB t.data.toList = true) (w : World) :
    Calls Tryd.prog 47 #[.string t, .int .i64 16, .int .i64 32] w fun e w' => e = .returned (.tuple #[.int .u64 (hexF 0 t.data.toList : Nat), .nilIface]) ∧ Below w.heap.size w w' := by
  obtain ⟨⟨hl1, hl7⟩, hall⟩ := wordB_parts ht
  have hts : t.data.toList.length = t.size := by rw [Lib.size_eq]
  have hemp : t.toList.isEmpty = false := by
    rw [← decide_eq_emptyBytes]
    exact decide_eq_false (fun h => by rw [h] at hl1; simp at hl1)
  have hcv := Lib.run_convert_string_bytes (P := Tryd.prog) w 9 109 5 t (u := .string) Tryd.underlying9 Tryd.underlying109 Tryd.underlying5
  have hB : ∀ j, j < t.size → (Lib.bytesWorld w 5 t).cell? ⟨w.heap.size, j, none⟩ = some (.int .u8 (t.data.toList.getD j 0).toNat) := fun j hj => Lib.bytesWorld_cell w 5 t j hj
  have hbel := Joins.below_bytesWorld w.heap.size w 5 t (Nat.le_refl _)
  have h7 : t.size ≤ 7 := by omega
  clear ht
  obtain ⟨W1, hW1⟩ : ∃ W1, W1 = Lib.bytesWorld w 5 t := ⟨_, rfl⟩
  rw [← hW1] at hcv hB hbel
  clear hW1
  obtain ⟨bs, hL⟩ : ∃ bs, bs = t.data.toList := ⟨_, rfl⟩
  rw [← hL] at hB hall hts ⊢
  clear hL hl1 hl7
  have hmv : IntKind.u64.wrap (IntKind.u64.wrap 4294967296 - 1) = 4294967295 := by
    rw [IntKind.wrap_u64, IntKind.wrap_u64]
    decide
  go_enter Tryd.func47, Tryd.ntmps47
  go_wp2_with fail
  go_loop [12, 13, 101] (fun vu vn vi => ∃ (k acc : Nat) (a : Int), vu = .bool false ∧ vn = .int .u64 a ∧ vi = .int .i64 k ∧ k ≤ t.size ∧ Hid (a = (acc : Int) ∧ acc < 16 ^ k ∧ hexF 0 bs = hexF acc (bs.drop k)))
    (fun _ _ vi => t.size - (intOf vi).toNat)
  case atStart => exact ⟨0, 0, 0, rfl, rfl, rfl, by omega, rfl, by omega, rfl⟩
  case round =>
    obtain ⟨k, acc, a, rfl, rfl, rfl, hk, hh⟩ := hrel
    obtain ⟨ha, hacc, hdec⟩ := hh.out
    clear hh
    by_cases hkn : k < t.size
    · have hc := hB k hkn
      have hdrop : bs.drop k = bs[k]'(by omega) :: bs.drop (k + 1) := List.drop_eq_getElem_cons (by omega)
      have hget : bs.getD k 0 = bs[k]'(by omega) := by simp [List.getD, List.getElem?_eq_getElem (show k < bs.length by omega)]
      have hx := hall (bs[k]'(by omega)) (List.getElem_mem _)
      rw [hdrop] at hdec
      rw [hget] at hc
      generalize bs[k]'(by omega) = c at hc hdec hx
      have h15 := hv_le hx
      have hpow : (16 : Nat) ^ k ≤ 16777216 := Nat.le_trans (Nat.pow_le_pow_right (by omega) (show k ≤ 6 by omega)) (by decide)
      have hacc' : acc < 16777216 := by omega
      have hn : acc * 16 + hv c < 16 ^ (k + 1) := by rw [Nat.pow_succ]; omega
      have HN : Hid (a * 16 + (hv c : Int) = ((acc * 16 + hv c : Nat) : Int) ∧ acc * 16 + hv c < 16 ^ (k + 1) ∧ hexF 0 bs = hexF (acc * 16 + hv c) (bs.drop (k + 1))) := Lib.hid ⟨by omega, hn, hdec⟩
      have a0 : 0 ≤ a := by omega
      have a1 : a < 16777216 := by omega
      rw [hexB_iff] at hx
      clear hB hdrop hget hall hdec hacc hpow hn hacc' ha
      rcases hx with ⟨hd0, hd1⟩ | ⟨hd0, hd1⟩
      · have hvc : (hv c : Int) = (c.toNat : Int) - 48 := by unfold hv; rw [if_pos hd1]; omega
        rw [hvc] at HN
        clear hvc h15
        generalize c.toNat = d at *
        go_wp2_with fail
        refine ⟨⟨k + 1, _, a * 16 + ((d : Int) - 48), rfl, (by first | rfl | (congr 1; omega)), (by first | rfl | (congr 1; omega)), by omega, HN⟩, by simp [intOf]; omega⟩
      · have hvc : (hv c : Int) = (c.toNat : Int) - 55 := by unfold hv; rw [if_neg (by omega)]; omega
        rw [hvc] at HN
        clear hvc h15
        generalize c.toNat = d at *
        go_wp2_with (go_at_call 56; refine (lower_c (d : Int) (by omega) (by omega) _).mono ?_; rintro e w' ⟨rfl, rfl⟩)
        refine ⟨⟨k + 1, _, a * 16 + ((d : Int) - 55), rfl, (by first | rfl | (congr 1; omega)), (by first | rfl | (congr 1; omega)), by omega, HN⟩, by simp [intOf]; omega⟩
    · have hkk : k = t.size := by omega
      subst hkk
      rw [List.drop_eq_nil_of_le (by omega)] at hdec
      have HD : Hid ((hexF 0 bs : Nat) = acc) := Lib.hid hdec
      subst ha
      clear hacc hdec
      go_wp2_with fail
      go_ret2
      exact ⟨by rw [HD.out]; rfl, hbel⟩
end Go.Proofs.YthlkpcfpapiigaaDoor
