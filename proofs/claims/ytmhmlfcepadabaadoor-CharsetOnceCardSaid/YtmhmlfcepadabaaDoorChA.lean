/- Charset: which final bytes tell a set, which numbers are places, what UK and DEC graphics make of a letter; by contracts. -/
import Derived.WalkKit
import Derived.Lib.Hide
import Derived.Deep.Draws
import Derived.BigQuiet
import Derived.Deep.QuietTactic
import Derived.Test.YtmhmlfcepadabaaDoorMem01
import Derived.Test.YtmhmlfcepadabaaDoorRows
namespace Go.Proofs.YtmhmlfcepadabaaDoor
open Go Go.RowKit
set_option linter.unusedVariables false
set_option linter.unusedSimpArgs false

/-- The table of the project, as the row lists it. -/
def litOf : DataW Unit → Int
  | .lit (.int _ z) => z
  | _ => 0
def graphL : List Int := match (Rows.laid_lapwing_charset_graphics : DataW Unit) with
  | .agg l => l.map litOf
  | _ => []
/-- The variable holds it. -/
def Gr (w : World) : Prop := ∀ k z, graphL[k]? = some z → w.cell? ⟨0, k, none⟩ = some (.int .i64 z)
theorem graphL_length : graphL.length = 32 := by kernel_rfl
theorem Gr.size {w : World} (h : Gr w) : 0 < w.heap.size := by
  have := World.block_lt_of_cell? w _ (h 0 _ (show graphL[0]? = some (graphL[0]'(by rw [graphL_length]; omega)) from List.getElem?_eq_getElem _))
  exact this
theorem Gr.below {w w' : World} {B : Nat} (h : Gr w) (hb : Below B w w') (h2 : 0 < B) : Gr w' := fun k z hz => (hb.cell (by exact h2)).trans (h k z hz)

def graphicF (r : Int) : Int := if 95 ≤ r ∧ r ≤ 126 then (graphL[(r - 95).toNat]?).getD 0 else r
def ukF (r : Int) : Int := if r = 35 then 163 else r
def setB (c : Int) : Bool := decide (c = 66 ∨ c = 48 ∨ c = 65)
def placeB (n : Int) : Bool := decide (0 ≤ n ∧ n ≤ 3)
def onceB (n : Int) : Bool := decide (n = 2 ∨ n = 3)
def writtenB (r : Int) : Bool := decide (32 ≤ r ∧ (r < 127 ∨ 159 < r))
def ofF (c r : Int) : Int := if c = 48 then graphicF r else if c = 65 then ukF r else r

theorem isSet_c (c : Int) (w : World) : Calls Tryd.prog 16 #[.int .u8 c] w fun e w' => e = .returned (.bool (setB c)) ∧ w' = w := by
  by_cases h1 : c = 66
  · subst h1
    go_enter Tryd.func16, Tryd.ntmps16
    go_wp2
    go_ret
    exact ⟨rfl, rfl⟩
  · by_cases h2 : c = 48
    · subst h2
      go_enter Tryd.func16, Tryd.ntmps16
      go_wp2
      go_ret
      exact ⟨rfl, rfl⟩
    · by_cases h3 : c = 65
      · subst h3
        go_enter Tryd.func16, Tryd.ntmps16
        go_wp2
        go_ret
        exact ⟨rfl, rfl⟩
      · have e1 : (c == 66) = false := beq_eq_false_iff_ne.2 h1
        have e2 : (c == 48) = false := beq_eq_false_iff_ne.2 h2
        have e3 : (c == 65) = false := beq_eq_false_iff_ne.2 h3
        go_enter Tryd.func16, Tryd.ntmps16
        go_wp2
        go_ret
        exact ⟨by simp [setB, h1, h2, h3], rfl⟩
theorem isPlace_c (n : Int) (w : World) : Calls Tryd.prog 17 #[.int .i64 n] w fun e w' => e = .returned (.bool (placeB n)) ∧ w' = w := by
  by_cases h1 : 0 ≤ n
  · by_cases h2 : n ≤ 3
    · go_enter Tryd.func17, Tryd.ntmps17
      go_wp2
      go_ret
      exact ⟨by simp [placeB, h1, h2], rfl⟩
    · go_enter Tryd.func17, Tryd.ntmps17
      go_wp2
      go_ret
      exact ⟨by simp [placeB, h1, h2], rfl⟩
  · go_enter Tryd.func17, Tryd.ntmps17
    go_wp2
    go_ret
    exact ⟨by simp [placeB]; omega, rfl⟩
theorem isOnce_c (n : Int) (w : World) : Calls Tryd.prog 18 #[.int .i64 n] w fun e w' => e = .returned (.bool (onceB n)) ∧ w' = w := by
  by_cases h1 : n = 2
  · subst h1
    go_enter Tryd.func18, Tryd.ntmps18
    go_wp2
    go_ret
    exact ⟨rfl, rfl⟩
  · by_cases h2 : n = 3
    · subst h2
      go_enter Tryd.func18, Tryd.ntmps18
      go_wp2
      go_ret
      exact ⟨rfl, rfl⟩
    · have e1 : (n == 2) = false := beq_eq_false_iff_ne.2 h1
      have e2 : (n == 3) = false := beq_eq_false_iff_ne.2 h2
      go_enter Tryd.func18, Tryd.ntmps18
      go_wp2
      go_ret
      exact ⟨by simp [onceB, h1, h2], rfl⟩
theorem isWritten_c (n : Int) (w : World) : Calls Tryd.prog 20 #[.int .i64 n] w fun e w' => e = .returned (.bool (writtenB n)) ∧ w' = w := by
  by_cases h1 : n ≥ 32
  · by_cases h2 : n < 127
    · go_enter Tryd.func20, Tryd.ntmps20
      go_wp2
      go_ret
      exact ⟨by simp [writtenB]; omega, rfl⟩
    · by_cases h3 : n > 159
      · go_enter Tryd.func20, Tryd.ntmps20
        go_wp2
        go_ret
        exact ⟨by simp [writtenB]; omega, rfl⟩
      · go_enter Tryd.func20, Tryd.ntmps20
        go_wp2
        go_ret
        exact ⟨by simp [writtenB]; omega, rfl⟩
  · go_enter Tryd.func20, Tryd.ntmps20
    go_wp2
    go_ret
    exact ⟨by simp [writtenB]; omega, rfl⟩
theorem uk_c (n : Int) (w : World) : Calls Tryd.prog 14 #[.int .i64 n] w fun e w' => e = .returned (.int .i64 (ukF n)) ∧ w' = w := by
  by_cases h1 : n = 35
  · subst h1
    go_enter Tryd.func14, Tryd.ntmps14
    go_wp2
    go_ret
    exact ⟨rfl, rfl⟩
  · have e1 : (n == 35) = false := beq_eq_false_iff_ne.2 h1
    go_enter Tryd.func14, Tryd.ntmps14
    go_wp2
    go_ret
    exact ⟨by simp [ukF, h1], rfl⟩
theorem graphic_c (n : Int) (w : World) (hG : Gr w) : Calls Tryd.prog 13 #[.int .i64 n] w fun e w' => e = .returned (.int .i64 (graphicF n)) ∧ w' = w := by
  by_cases h1 : n < 95
  · go_enter Tryd.func13, Tryd.ntmps13
    go_wp2
    go_ret
    exact ⟨by simp [graphicF]; omega, rfl⟩
  · by_cases h2 : n ≥ 127
    · go_enter Tryd.func13, Tryd.ntmps13
      go_wp2
      go_ret
      exact ⟨by simp [graphicF]; omega, rfl⟩
    · obtain ⟨k, rfl⟩ : ∃ k : Nat, n = 95 + (k : Int) := ⟨(n - 95).toNat, by omega⟩
      have hk : k < graphL.length := by rw [graphL_length]; omega
      have hc := hG k _ (List.getElem?_eq_getElem hk)
      have hr : graphicF (95 + (k : Int)) = graphL[k] := by
        unfold graphicF
        rw [if_pos (by omega), show (95 + (k : Int) - 95).toNat = k by omega, List.getElem?_eq_getElem hk]
        rfl
      rw [hr]
      generalize graphL[k] = z at hc
      have hk32 : k < 32 := by rw [graphL_length] at hk; exact hk
      clear hr hk hG
      go_enter Tryd.func13, Tryd.ntmps13
      go_wp2
      go_ret
      exact ⟨rfl, rfl⟩
theorem of_c (c n : Int) (w : World) (hG : Gr w) : Calls Tryd.prog 21 #[.int .u8 c, .int .i64 n] w fun e w' => e = .returned (.int .i64 (ofF c n)) ∧ w' = w := by
  by_cases h1 : c = 48
  · subst h1
    go_enter Tryd.func21, Tryd.ntmps21
    go_wp2_with fail
    refine (graphic_c n w hG).mono ?_
    rintro e w1 ⟨rfl, rfl⟩
    go_wp2_with fail
    go_ret
    exact ⟨rfl, rfl⟩
  · by_cases h2 : c = 65
    · subst h2
      go_enter Tryd.func21, Tryd.ntmps21
      go_wp2_with fail
      refine (uk_c n w).mono ?_
      rintro e w1 ⟨rfl, rfl⟩
      go_wp2_with fail
      go_ret
      exact ⟨rfl, rfl⟩
    · have e1 : (c == 48) = false := beq_eq_false_iff_ne.2 h1
      have e2 : (c == 65) = false := beq_eq_false_iff_ne.2 h2
      go_enter Tryd.func21, Tryd.ntmps21
      go_wp2
      go_ret
      exact ⟨by simp [ofF, h1, h2], rfl⟩
end Go.Proofs.YtmhmlfcepadabaaDoor
