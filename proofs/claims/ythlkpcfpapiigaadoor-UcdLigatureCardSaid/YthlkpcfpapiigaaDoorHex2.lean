/- hex, by its contract: a word of one to seven digits. -/
import Derived.Test.YthlkpcfpapiigaaDoorHex
namespace Go.Proofs.YthlkpcfpapiigaaDoor
open Go Go.RowKit
set_option linter.unusedVariables false
set_option linter.unusedSimpArgs false

set_option maxHeartbeats 8000000 in
set_option maxRecDepth 100000 in
theorem parseInt_c (s : ByteArray) (ht : wordB s.data.toList = true) (w : World) :
    Calls Tryd.prog 40 #[.string s, .int .i64 16, .int .i64 32] w fun e w' => e = .returned (.tuple #[.int .i64 (hexF 0 s.data.toList : Nat), .nilIface]) ∧ Below w.heap.size w w' := by
  have hU := parseUint_c s ht w
  have hlt := hexF_word ht
  obtain ⟨⟨hl1, hl7⟩, hall⟩ := wordB_parts ht
  have hsz : s.data.toList.length = s.size := by rw [Lib.size_eq]
  have hemp : s.toList.isEmpty = false := by
    rw [← decide_eq_emptyBytes]
    exact decide_eq_false (fun h => by rw [h] at hl1; simp at hl1)
  have hpos : 0 < s.size := by omega
  obtain ⟨c, hc⟩ : ∃ c, c = s[0]'hpos := ⟨_, rfl⟩
  have hx : hexB c = true := by
    rw [hc]
    exact hall (s.data.toList[0]'(by omega)) (List.getElem_mem _)
  have hs0 : s[0]'hpos = c := hc.symm
  rw [hexB_iff] at hx
  have h43 : ((c.toNat : Int) == 43) = false := by simp; omega
  have h45 : ((c.toNat : Int) == 45) = false := by simp; omega
  have h43' : (c == 43) = false := by simp; rintro rfl; simp at hx
  have h45' : (c == 45) = false := by simp; rintro rfl; simp at hx
  obtain ⟨a, ha⟩ : ∃ a : Int, a = (hexF 0 s.data.toList : Nat) := ⟨_, rfl⟩
  rw [← ha] at hU ⊢
  have a0 : 0 ≤ a := by omega
  have a1 : a < 268435456 := by omega
  clear hl1 hl7 hall hlt ht ha hc hsz
  go_enter Tryd.func40, Tryd.ntmps40
  go_wp2_with (go_at_call 47; refine hU.mono ?_; rintro e w1 ⟨rfl, hb1⟩)
  go_ret2
  exact ⟨rfl, hb1⟩

theorem sParseInt_c (s : ByteArray) (ht : wordB s.data.toList = true) (w : World) :
    Calls Tryd.prog 37 #[.string s, .int .i64 16, .int .i64 32] w fun e w' => e = .returned (.tuple #[.int .i64 (hexF 0 s.data.toList : Nat), .nilIface]) ∧ Below w.heap.size w w' := by
  have hU := parseInt_c s ht w
  obtain ⟨a, ha⟩ : ∃ a : Int, a = (hexF 0 s.data.toList : Nat) := ⟨_, rfl⟩
  rw [← ha] at hU ⊢
  clear ha ht
  go_enter Tryd.func37, Tryd.ntmps37
  go_wp2_with (go_at_call 40; refine hU.mono ?_; rintro e w1 ⟨rfl, hb1⟩)
  go_ret2
  exact ⟨rfl, hb1⟩

theorem hex_c (s : ByteArray) (ht : wordB s.data.toList = true) (w : World) :
    Calls Tryd.prog 30 #[.string s] w fun e w' => e = .returned (.int .i64 (hexF 0 s.data.toList : Nat)) ∧ Below w.heap.size w w' := by
  have hU := sParseInt_c s ht w
  obtain ⟨a, ha⟩ : ∃ a : Int, a = (hexF 0 s.data.toList : Nat) := ⟨_, rfl⟩
  rw [← ha] at hU ⊢
  clear ha ht
  go_enter Tryd.func30, Tryd.ntmps30
  go_wp2_with (go_at_call 37; refine hU.mono ?_; rintro e w1 ⟨rfl, hb1⟩)
  go_ret
  exact ⟨rfl, hb1⟩
end Go.Proofs.YthlkpcfpapiigaaDoor
