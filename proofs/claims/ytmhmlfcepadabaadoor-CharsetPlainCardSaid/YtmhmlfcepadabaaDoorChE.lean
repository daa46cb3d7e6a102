/- The document's example for charset, walked. -/
import Derived.Test.YtmhmlfcepadabaaDoorChD
namespace Go.Proofs.YtmhmlfcepadabaaDoor
open Go Go.RowKit
set_option linter.unusedVariables false
set_option linter.unusedSimpArgs false

theorem ours_c (s : St) (w : World) : Calls Tryd.prog 7 #[s.v] w fun e w' => e = .returned s.v ∧ Below w.heap.size w w' := by
  rw [St.v_eq s]
  have hX : Box ((w.alloc (.cells s.cells 24)).alloc (.cells s.cells 26)) (w.heap.size + 1) 26 s.cells := by have := Box.new (w.alloc (.cells s.cells 24)) 26 s.cells; simpa using this
  have hb : Below w.heap.size w ((w.alloc (.cells s.cells 24)).alloc (.cells s.cells 26)) := ((Below.refl _ _).alloc (Nat.le_refl _) _).alloc (by simp) _
  have HX := Lib.hid (And.intro hX hb)
  clear hX hb
  go_enter Tryd.func7, Tryd.ntmps7
  go_wp2_with fail
  exact bodyPost_ret (ret_st rfl s _ _ (w.heap.size + 1) _ rfl HX.out.1) rfl ⟨rfl, HX.out.2⟩
/-- What the example sets. -/
def exS : St := setF newS 0 48
theorem exS_sane : saneB exS = true := by kernel_rfl
theorem exS_map : mapF exS 113 = 9472 := by kernel_rfl
theorem newS_map : mapF newS 113 = 113 := by kernel_rfl
theorem awake_c (w : World) (hG : Gr w) : Calls Tryd.prog 6 #[] w fun e w' => e = .returned (.bool true) ∧ Below w.heap.size w w' := by
  have hg := hG.size
  go_enter Tryd.func6, Tryd.ntmps6
  go_wp2_with fail
  refine (new_c _).mono ?_
  rintro e w1 ⟨rfl, hb1⟩
  go_wp2_with fail
  refine (set_c newS 0 48 _).mono ?_
  rintro e w2 ⟨rfl, hb2⟩
  have hbel2 := hb1.trans (hb2.mono hb1.size)
  have hE : (setF newS 0 48).v = .agg #[.int .u8 exS.a, .int .u8 exS.b, .int .u8 exS.c, .int .u8 exS.d, .int .i64 exS.gl, .int .i64 exS.gr, .int .i64 exS.on] := rfl
  rw [hE]
  clear hb1 hb2 hE
  have hX : Box (w2.alloc (.cells #[.int .u8 exS.a, .int .u8 exS.b, .int .u8 exS.c, .int .u8 exS.d, .int .i64 exS.gl, .int .i64 exS.gr, .int .i64 exS.on] 26)) w2.heap.size 26 exS.cells := Box.new w2 26 exS.cells
  have hbel3 := hbel2.alloc hbel2.size (.cells #[.int .u8 exS.a, .int .u8 exS.b, .int .u8 exS.c, .int .u8 exS.d, .int .i64 exS.gl, .int .i64 exS.gr, .int .i64 exS.on] 26)
  have hM := map_c exS 113 _ (hG.below hbel3 hg)
  rw [exS_map, St.v_eq (mapS exS 113)] at hM
  generalize mapS exS 113 = t at hM
  clear hbel2
  go_wp2_with fail
  refine hM.mono ?_
  rintro e w3 ⟨rfl, hb3⟩
  have hX3 := hX.below hb3 hX.lt
  have hbel4 := hbel3.trans (hb3.mono hbel3.size)
  clear hM hX hbel3 hb3
  go_wp2_with fail
  refine (new_c _).mono ?_
  rintro e w4 ⟨rfl, hb4⟩
  have hbel5 := hbel4.alloc hbel4.size (.cells #[.int .u8 t.a, .int .u8 t.b, .int .u8 t.c, .int .u8 t.d, .int .i64 t.gl, .int .i64 t.gr, .int .i64 t.on] 26)
  have hX5 : Box w4 w2.heap.size 26 exS.cells := (hX3.alloc _).below hb4 (hX3.alloc (.cells #[.int .u8 t.a, .int .u8 t.b, .int .u8 t.c, .int .u8 t.d, .int .i64 t.gl, .int .i64 t.gr, .int .i64 t.on] 26)).lt
  have hbel6 := hbel5.trans (hb4.mono hbel5.size)
  have hM := map_c newS 113 _ (hG.below hbel6 hg)
  rw [newS_map, St.v_eq (mapS newS 113)] at hM
  generalize mapS newS 113 = u at hM
  clear hb4 hbel5 hX3 hbel4
  go_wp2_with fail
  refine hM.mono ?_
  rintro e w5 ⟨rfl, hb5⟩
  have hX6 := hX5.below hb5 hX5.lt
  have hbel7 := hbel6.trans (hb5.mono hbel6.size)
  have hX7 := hX6.alloc (.cells #[.int .u8 u.a, .int .u8 u.b, .int .u8 u.c, .int .u8 u.d, .int .i64 u.gl, .int .i64 u.gr, .int .i64 u.on] 26)
  have hbel8 := hbel7.alloc hbel7.size (.cells #[.int .u8 u.a, .int .u8 u.b, .int .u8 u.c, .int .u8 u.d, .int .i64 u.gl, .int .i64 u.gr, .int .i64 u.on] 26)
  obtain ⟨a0, a1, a2, a3, a4, a5, a6⟩ := hX7.seven
  clear hM hb5 hX5 hX6 hbel6 hbel7
  go_wp2_with fail
  refine (sane_c exS _).mono ?_
  rintro e w6 ⟨rfl, hb6⟩
  rw [exS_sane]
  have hbel9 := hbel8.trans (hb6.mono hbel8.size)
  clear hb6 hbel8 hX7
  go_wp2_with fail
  go_ret
  exact ⟨rfl, hbel9⟩
end Go.Proofs.YtmhmlfcepadabaaDoor
