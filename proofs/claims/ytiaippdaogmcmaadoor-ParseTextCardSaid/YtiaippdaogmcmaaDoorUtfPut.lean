/- utf.Put: a letter's bytes. -/
import Derived.Test.YtiaippdaogmcmaaDoorShelf
import Derived.Test.YtiaippdaogmcmaaDoorMemR
import Derived.Test.YtiaippdaogmcmaaDoorMath03b
import Derived.Test.YtiaippdaogmcmaaDoorChecked
import Derived.Shelf.Utf8.AppendRunePlain
namespace Go.Proofs.YtiaippdaogmcmaaDoor
open Go Go.RowKit
set_option linter.unusedVariables false
set_option linter.unusedSimpArgs false

theorem runeCells_put (r : Int) : Lib.runeCells r = (putF r).map byteV := by
  unfold Lib.runeCells putF normF
  by_cases hbad : r < 0 ∨ (55296 ≤ r ∧ r ≤ 57343) ∨ 1114111 < r
  · rw [Lib.encodeRuneZ_bad hbad, if_pos (by omega)]; rfl
  · rw [if_neg (by omega)]
    obtain ⟨n, rfl⟩ := Int.eq_ofNat_of_zero_le (show 0 ≤ r by omega)
    simp only [Int.toNat_natCast]
    unfold bytesF
    split
    · rw [Lib.encodeRuneZ_one (by omega) (by omega)]; rfl
    · split
      · rw [Lib.encodeRuneZ_two (by omega) (by omega)]; simp [byteV]
      · split
        · rw [Lib.encodeRuneZ_three (by omega)]; simp [byteV]
        · rw [Lib.encodeRuneZ_four (by omega) (by omega)]; simp [byteV]
set_option maxRecDepth 100000 in
/-- Put: a letter's bytes. -/
theorem put_c (r : Int) (w : World) (h0 : -9223372036854775808 ≤ r) (h1 : r ≤ 9223372036854775807) :
    Calls Tryd.prog 47 #[.int .i64 r] w fun e w' => ∃ v, e = .returned v ∧ w'.ownsRow w.heap.size 5 1 v (putF r).length ((putF r).map byteV) ∧ Below w.heap.size w w' := by
  have ha : ∀ (q : Int) (w : World), -2147483648 ≤ q → q ≤ 2147483647 → Calls Tryd.prog 55 #[.slice none 0 0, .int .i32 q] w fun e w' => ∃ v, e = .returned v ∧ w'.ownsRow w.heap.size 5 1 v (putF q).length ((putF q).map byteV) ∧ Below w.heap.size w w' := by
    intro q w h0 h1
    refine (Any.utf8_AppendRune_plain Tryd.lays242 (by kernel_rfl) w.heap.size (.slice none 0 0) 0 [] q h0 h1 w (World.ownsRow_nil _ _ _ _) (by omega) (Nat.le_refl _)).mono ?_
    rintro e w' ⟨v', rfl, hown, o, hg⟩
    refine ⟨v', rfl, ?_, ?_⟩
    · rw [runeCells_put] at hown
      simp only [List.length_map, Nat.zero_add, List.nil_append] at hown
      exact hown
    · have hb : Below w.heap.size w (w.alloc o) := (Below.refl _ _).alloc (Nat.le_refl _) _
      exact hb.trans ⟨hg.os, hg.tape, hg.output, hg.size, fun k hk => hg.block k (by simp; omega) (by simp [Value.ownBlock])⟩
  by_cases hr : 0 ≤ r
  · by_cases hr2 : r ≤ 1114111
    · have HA := Lib.hid (ha r w (by omega) (by omega))
      clear ha
      go_enter Tryd.func47, Tryd.ntmps47
      go_wp2_with fail
      refine (HA.out).mono ?_
      rintro e w' ⟨v, rfl, h1, h2⟩
      go_wp2_with fail
      go_ret
      exact ⟨v, rfl, h1, h2⟩
    · have e1 : putF r = putF 65533 := by
        have : normF r = 65533 := by unfold normF; rw [if_pos (by omega)]
        unfold putF; rw [this]; rfl
      rw [e1]
      have HA := Lib.hid (ha 65533 w (by omega) (by omega))
      clear ha e1
      go_enter Tryd.func47, Tryd.ntmps47
      go_wp2_with fail
      refine (HA.out).mono ?_
      rintro e w' ⟨v, rfl, h1, h2⟩
      go_wp2_with fail
      go_ret
      exact ⟨v, rfl, h1, h2⟩
  · have e1 : putF r = putF 65533 := by
      have : normF r = 65533 := by unfold normF; rw [if_pos (by omega)]
      unfold putF; rw [this]; rfl
    rw [e1]
    have HA := Lib.hid (ha 65533 w (by omega) (by omega))
    clear ha e1
    go_enter Tryd.func47, Tryd.ntmps47
    go_wp2_with fail
    refine (HA.out).mono ?_
    rintro e w' ⟨v, rfl, h1, h2⟩
    go_wp2_with fail
    go_ret
    exact ⟨v, rfl, h1, h2⟩
end Go.Proofs.YtiaippdaogmcmaaDoor
