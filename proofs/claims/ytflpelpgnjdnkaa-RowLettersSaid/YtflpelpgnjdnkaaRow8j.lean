/- Package row, walked: letters of cells, of a row; how long a row is. -/
import Derived.Test.YtflpelpgnjdnkaaRow8f
import Derived.Test.YtflpelpgnjdnkaaMem08l
import Derived.Test.YtflpelpgnjdnkaaMath08c
namespace Go.Proofs.Ytflpelpgnjdnkaa
open Go Go.RowKit
set_option linter.unusedVariables false
set_option linter.unusedSimpArgs false

theorem infoI8 : (Try.prog.info? 3).map (fun i => (i.zero, i.size, i.bytes)) = some (some (.int .i64 0), 1, 8) := by kernel_rfl
def OwnI (w : World) (base : Nat) (v : Value) (l : List Int) : Prop := w.ownsRow base 3 1 v l.length (l.map intV)
theorem OwnI.on {w w' : World} {base : Nat} {v : Value} {l : List Int} (h : OwnI w base v l) (hb : Below w.heap.size w w') : OwnI w' base v l := own_below h hb
/-- The letters of a cell that is no half. -/
def letsW (r m0 m1 : Int) : List Int := (if r = 0 then 32 else r) :: ((if m0 ≠ 0 then [m0] else []) ++ (if m1 ≠ 0 then [m1] else []))
theorem letsW_of {x : Cl} (h : OneC x) (h0 : x.w ≠ 0) : letsC x = letsW x.r x.m0 x.m1 := by
  obtain ⟨-, -, -, h4, h5, -, -⟩ := h
  unfold letsC letsW marksC
  rw [if_neg h0]
  by_cases hr : x.r = 0
  · have e0 : x.m0 = 0 := by omega
    have e1 : x.m1 = 0 := by omega
    simp [hr, e0, e1]
  · simp [hr]
def Told8 (base : Nat) (l : List Int) (w : World) (v : Value) (e : Ending) (w' : World) : Prop := ∃ v', e = .returned v' ∧ OwnI w' base v' l ∧ Own1 w w' v v'
theorem one_int8 (V : World) (z : Int) : Its (V.alloc (.cells #[.int .i64 z] 3)) (V.alloc (.cells #[.int .i64 z] 3)).heap.size (some ⟨V.heap.size, 0, none⟩) [z] := Rd.of_box (Box.new V 3 #[.int .i64 z])
/-- Of the marks, the first j. -/
def mks (m0 m1 : Int) (j : Nat) : List Int := if j = 0 then [] else if j = 1 then (if m0 ≠ 0 then [m0] else []) else (if m0 ≠ 0 then [m0] else []) ++ (if m1 ≠ 0 then [m1] else [])
theorem mks_len (m0 m1 : Int) (j : Nat) : (mks m0 m1 j).length ≤ 2 := by
  unfold mks
  by_cases h0 : m0 = 0 <;> by_cases h1 : m1 = 0 <;> (repeat' split) <;> simp_all
set_option maxRecDepth 100000 in
set_option maxHeartbeats 1000000 in
theorem with8_c (base : Nat) (v : Value) (out : List Int) (r m0 m1 cw a b f : Int) (w : World) (hown : OwnI w base v out) (hbase : base ≤ w.heap.size) (ho : out.length ≤ 100000) :
    Calls Try.prog 29 #[v, .agg #[.int .i64 r, .int .i64 m0, .int .i64 m1, .int .i64 cw, .int .i64 a, .int .i64 b, .int .i64 f]] w (Told8 base (out ++ letsW r m0 m1) w v) := by
  obtain ⟨j0, hj0, hy0, hy1, hy2⟩ := info_parts infoI8
  have hbl1 : Below w.heap.size w (w.alloc (.cells #[.int .i64 r, .int .i64 m0, .int .i64 m1, .int .i64 cw, .int .i64 a, .int .i64 b, .int .i64 f] 29)) := (Below.refl _ _).alloc (Nat.le_refl _) _
  have hbx1 : Box (w.alloc (.cells #[.int .i64 r, .int .i64 m0, .int .i64 m1, .int .i64 cw, .int .i64 a, .int .i64 b, .int .i64 f] 29)) w.heap.size 29 #[.int .i64 r, .int .i64 m0, .int .i64 m1, .int .i64 cw, .int .i64 a, .int .i64 b, .int .i64 f] := Box.new w _ _
  have hvb : v.ownBlock ≠ some w.heap.size := fun e => by have := (own_block hown e).2; omega
  have hx0 : ∀ V, (Instr.index 25 (.agg #[.int .i64 m0, .int .i64 m1]) (.int .i64 0)).run Try.prog V = .ok (.int .i64 m0) V := fun V => by kernel_rfl
  have hx1 : ∀ V, (Instr.index 25 (.agg #[.int .i64 m0, .int .i64 m1]) (.int .i64 1)).run Try.prog V = .ok (.int .i64 m1) V := fun V => by kernel_rfl
  generalize hRES : out ++ letsW r m0 m1 = RES
  by_cases hr : r = 0
  · have er : (r == 0) = true := by rw [hr]; rfl
    have HRES : Hid (RES = out ++ (32 :: mks m0 m1 2)) := Lib.hid (by rw [← hRES]; simp [letsW, mks, hr])
    clear hRES hr
    go_enter Try.func29, Try.ntmps29
    go_upto_region 2 with fail
    go_upto_region 3 with fail
    clear hbl1 hbx1
    have hbl1 : Below w.heap.size w (w.alloc (.cells #[.int .i64 32, .int .i64 m0, .int .i64 m1, .int .i64 cw, .int .i64 a, .int .i64 b, .int .i64 f] 29)) := (Below.refl _ _).alloc (Nat.le_refl _) _
    have hbx1 : Box (w.alloc (.cells #[.int .i64 32, .int .i64 m0, .int .i64 m1, .int .i64 cw, .int .i64 a, .int .i64 b, .int .i64 f] 29)) w.heap.size 29 #[.int .i64 32, .int .i64 m0, .int .i64 m1, .int .i64 cw, .int .i64 a, .int .i64 b, .int .i64 f] := Box.new w _ _
    have hown1 := hown.on hbl1
    generalize hWW : w.alloc (.cells #[.int .i64 32, .int .i64 m0, .int .i64 m1, .int .i64 cw, .int .i64 a, .int .i64 b, .int .i64 f] 29) = W at *
    clear hWW
    have hown0 := (hown1).on ((Below.refl _ _).alloc (Nat.le_refl _) (.cells #[.int .i64 32] 3))
    unfold OwnI at hown0
    have hR0 := one_int8 W 32
    have HA0 := Lib.hid (And.intro hown0 hR0)
    clear hown0 hR0
    have hbs0 : base ≤ W.heap.size := by have := hbl1.size; omega
    have k0 : W.cell? ⟨w.heap.size, 0, none⟩ = some (.int .i64 32) := hbx1.cell 0
    go_wp2_with (at_builtin; refine wpList_append_rd (f := intV) (fun _ => rfl) rfl _ _ 38 rfl base 3 j0 _ 8 Try.underlying38 hj0 hy0 hy1 hy2 rfl _ _ _ rfl HA0.out.1 _ 1 _ [32] rfl HA0.out.2 (by unfold maxLen; simp; omega) (by simp; omega) (by simp; omega) ?_)
    intro v2 w2 hown2 hO2
    have hO3 := (Own1.below ((Below.refl W.heap.size W).alloc (Nat.le_refl _) (.cells #[.int .i64 32] 3))).trans hO2
    have hbx2 := hO3.box hbx1 hvb
    have HL0 : Hid (OwnI w2 base v2 (out ++ (32 :: mks m0 m1 0)) ∧ Own1 w w2 v v2 ∧ base ≤ w2.heap.size) := Lib.hid (by
      refine ⟨?_, (Own1.below hbl1).trans hO3, Nat.le_trans hbs0 hO3.gr.size⟩
      unfold OwnI
      rw [List.length_append, List.map_append]
      exact hown2)
    obtain ⟨k1, k2⟩ : w2.cell? ⟨w.heap.size, 1, none⟩ = some (.int .i64 m0) ∧ w2.cell? ⟨w.heap.size, 2, none⟩ = some (.int .i64 m1) := ⟨hbx2.cell 1, hbx2.cell 2⟩
    clear k0 hown2 hO2 hO3 hbx1 hbx2 hvb HA0 hbl1 hbs0 hown1
    go_wp2_with fail
    go_loopw [0, 18] (fun u0 u18 wr => ∃ j : Nat, j ≤ 2 ∧ u18 = .int .i64 (j : Int) ∧ Hid (OwnI wr base u0 (out ++ (32 :: mks m0 m1 j)) ∧ Own1 w wr v u0 ∧ base ≤ wr.heap.size)) (fun _ u18 _ => 2 - (intOf u18).toNat)
    case atStart => exact ⟨0, Nat.zero_le _, rfl, HL0⟩
    case round =>
      obtain ⟨j, hj, rfl, HL⟩ := hrel
      clear HL0
      rcases (show j = 0 ∨ j = 1 ∨ j = 2 by omega) with rfl | rfl | rfl
      · by_cases hm : m0 = 0
        · have em : (m0 != 0) = false := by rw [hm]; rfl
          have HN : Hid (mks m0 m1 1 = mks m0 m1 0) := Lib.hid (by simp [mks, hm])
          clear hm
          go_wp2_with fail
          exact ⟨⟨1, by omega, by go_num, by rw [HN.out]; exact HL⟩, by simp [intOf]⟩
        · have em : (m0 != 0) = true := bne_iff_ne.2 hm
          have HN : Hid (out ++ (32 :: mks m0 m1 0) ++ [m0] = out ++ (32 :: mks m0 m1 1)) := Lib.hid (by simp [mks, hm])
          clear hm
          have hlo : (out ++ (32 :: mks m0 m1 0)).length ≤ 100003 := by rw [List.length_append, List.length_cons]; have := mks_len m0 m1 0; omega
          have hbs := HL.out.2.2
          have ho1 := HL.out.1.on ((Below.refl _ _).alloc (Nat.le_refl _) (.cells #[.int .i64 m0] 3))
          unfold OwnI at ho1
          have hR1 := one_int8 wr m0
          have HA1 := Lib.hid (And.intro ho1 hR1)
          clear ho1 hR1
          generalize hQ : out ++ (32 :: mks m0 m1 0) = Q at *
          have HQ := Lib.hid hQ
          clear hQ
          go_wp2_with (at_builtin; refine wpList_append_rd (f := intV) (fun _ => rfl) rfl _ _ 38 rfl base 3 j0 _ 8 Try.underlying38 hj0 hy0 hy1 hy2 rfl _ _ _ rfl HA1.out.1 _ 1 _ [m0] rfl HA1.out.2 (by unfold maxLen; simp; omega) (by simp; omega) (by simp; omega) ?_)
          intro v3 w3 hown3 hO3
          have HL1 : Hid (OwnI w3 base v3 (out ++ (32 :: mks m0 m1 1)) ∧ Own1 w w3 v v3 ∧ base ≤ w3.heap.size) := Lib.hid (by
            have hO4 := (Own1.below ((Below.refl wr.heap.size wr).alloc (Nat.le_refl _) (.cells #[.int .i64 m0] 3))).trans hO3
            refine ⟨?_, HL.out.2.1.trans hO4, Nat.le_trans hbs hO4.gr.size⟩
            rw [← HN.out]
            unfold OwnI
            rw [List.length_append, List.map_append]
            exact hown3)
          clear hown3 hO3 HA1 hbs hlo HL HN HQ
          go_wp2_with fail
          exact ⟨⟨1, by omega, by go_num, HL1⟩, by simp [intOf]⟩
      · by_cases hm : m1 = 0
        · have em : (m1 != 0) = false := by rw [hm]; rfl
          have HN : Hid (mks m0 m1 2 = mks m0 m1 1) := Lib.hid (by simp [mks, hm])
          clear hm
          go_wp2_with fail
          exact ⟨⟨2, by omega, by go_num, by rw [HN.out]; exact HL⟩, by simp [intOf]⟩
        · have em : (m1 != 0) = true := bne_iff_ne.2 hm
          have HN : Hid (out ++ (32 :: mks m0 m1 1) ++ [m1] = out ++ (32 :: mks m0 m1 2)) := Lib.hid (by simp [mks, hm])
          clear hm
          have hlo : (out ++ (32 :: mks m0 m1 1)).length ≤ 100003 := by rw [List.length_append, List.length_cons]; have := mks_len m0 m1 1; omega
          have hbs := HL.out.2.2
          have ho1 := HL.out.1.on ((Below.refl _ _).alloc (Nat.le_refl _) (.cells #[.int .i64 m1] 3))
          unfold OwnI at ho1
          have hR1 := one_int8 wr m1
          have HA1 := Lib.hid (And.intro ho1 hR1)
          clear ho1 hR1
          generalize hQ : out ++ (32 :: mks m0 m1 1) = Q at *
          have HQ := Lib.hid hQ
          clear hQ
          go_wp2_with (at_builtin; refine wpList_append_rd (f := intV) (fun _ => rfl) rfl _ _ 38 rfl base 3 j0 _ 8 Try.underlying38 hj0 hy0 hy1 hy2 rfl _ _ _ rfl HA1.out.1 _ 1 _ [m1] rfl HA1.out.2 (by unfold maxLen; simp; omega) (by simp; omega) (by simp; omega) ?_)
          intro v3 w3 hown3 hO3
          have HL1 : Hid (OwnI w3 base v3 (out ++ (32 :: mks m0 m1 2)) ∧ Own1 w w3 v v3 ∧ base ≤ w3.heap.size) := Lib.hid (by
            have hO4 := (Own1.below ((Below.refl wr.heap.size wr).alloc (Nat.le_refl _) (.cells #[.int .i64 m1] 3))).trans hO3
            refine ⟨?_, HL.out.2.1.trans hO4, Nat.le_trans hbs hO4.gr.size⟩
            rw [← HN.out]
            unfold OwnI
            rw [List.length_append, List.map_append]
            exact hown3)
          clear hown3 hO3 HA1 hbs hlo HL HN HQ
          go_wp2_with fail
          exact ⟨⟨2, by omega, by go_num, HL1⟩, by simp [intOf]⟩
      · go_wp2_with fail
        go_ret
        exact ⟨_, rfl, by rw [HRES.out]; exact HL.out.1, HL.out.2.1⟩
  · have er : (r == 0) = false := beq_eq_false_iff_ne.2 hr
    have HRES : Hid (RES = out ++ (r :: mks m0 m1 2)) := Lib.hid (by rw [← hRES]; simp [letsW, mks, hr])
    clear hRES hr
    go_enter Try.func29, Try.ntmps29
    go_upto_region 3 with fail
    have hown1 := hown.on hbl1
    generalize hWW : w.alloc (.cells #[.int .i64 r, .int .i64 m0, .int .i64 m1, .int .i64 cw, .int .i64 a, .int .i64 b, .int .i64 f] 29) = W at *
    clear hWW
    have hown0 := (hown1).on ((Below.refl _ _).alloc (Nat.le_refl _) (.cells #[.int .i64 r] 3))
    unfold OwnI at hown0
    have hR0 := one_int8 W r
    have HA0 := Lib.hid (And.intro hown0 hR0)
    clear hown0 hR0
    have hbs0 : base ≤ W.heap.size := by have := hbl1.size; omega
    have k0 : W.cell? ⟨w.heap.size, 0, none⟩ = some (.int .i64 r) := hbx1.cell 0
    go_wp2_with (at_builtin; refine wpList_append_rd (f := intV) (fun _ => rfl) rfl _ _ 38 rfl base 3 j0 _ 8 Try.underlying38 hj0 hy0 hy1 hy2 rfl _ _ _ rfl HA0.out.1 _ 1 _ [r] rfl HA0.out.2 (by unfold maxLen; simp; omega) (by simp; omega) (by simp; omega) ?_)
    intro v2 w2 hown2 hO2
    have hO3 := (Own1.below ((Below.refl W.heap.size W).alloc (Nat.le_refl _) (.cells #[.int .i64 r] 3))).trans hO2
    have hbx2 := hO3.box hbx1 hvb
    have HL0 : Hid (OwnI w2 base v2 (out ++ (r :: mks m0 m1 0)) ∧ Own1 w w2 v v2 ∧ base ≤ w2.heap.size) := Lib.hid (by
      refine ⟨?_, (Own1.below hbl1).trans hO3, Nat.le_trans hbs0 hO3.gr.size⟩
      unfold OwnI
      rw [List.length_append, List.map_append]
      exact hown2)
    obtain ⟨k1, k2⟩ : w2.cell? ⟨w.heap.size, 1, none⟩ = some (.int .i64 m0) ∧ w2.cell? ⟨w.heap.size, 2, none⟩ = some (.int .i64 m1) := ⟨hbx2.cell 1, hbx2.cell 2⟩
    clear k0 hown2 hO2 hO3 hbx1 hbx2 hvb HA0 hbl1 hbs0 hown1
    go_wp2_with fail
    go_loopw [0, 18] (fun u0 u18 wr => ∃ j : Nat, j ≤ 2 ∧ u18 = .int .i64 (j : Int) ∧ Hid (OwnI wr base u0 (out ++ (r :: mks m0 m1 j)) ∧ Own1 w wr v u0 ∧ base ≤ wr.heap.size)) (fun _ u18 _ => 2 - (intOf u18).toNat)
    case atStart => exact ⟨0, Nat.zero_le _, rfl, HL0⟩
    case round =>
      obtain ⟨j, hj, rfl, HL⟩ := hrel
      clear HL0
      rcases (show j = 0 ∨ j = 1 ∨ j = 2 by omega) with rfl | rfl | rfl
      · by_cases hm : m0 = 0
        · have em : (m0 != 0) = false := by rw [hm]; rfl
          have HN : Hid (mks m0 m1 1 = mks m0 m1 0) := Lib.hid (by simp [mks, hm])
          clear hm
          go_wp2_with fail
          exact ⟨⟨1, by omega, by go_num, by rw [HN.out]; exact HL⟩, by simp [intOf]⟩
        · have em : (m0 != 0) = true := bne_iff_ne.2 hm
          have HN : Hid (out ++ (r :: mks m0 m1 0) ++ [m0] = out ++ (r :: mks m0 m1 1)) := Lib.hid (by simp [mks, hm])
          clear hm
          have hlo : (out ++ (r :: mks m0 m1 0)).length ≤ 100003 := by rw [List.length_append, List.length_cons]; have := mks_len m0 m1 0; omega
          have hbs := HL.out.2.2
          have ho1 := HL.out.1.on ((Below.refl _ _).alloc (Nat.le_refl _) (.cells #[.int .i64 m0] 3))
          unfold OwnI at ho1
          have hR1 := one_int8 wr m0
          have HA1 := Lib.hid (And.intro ho1 hR1)
          clear ho1 hR1
          generalize hQ : out ++ (r :: mks m0 m1 0) = Q at *
          have HQ := Lib.hid hQ
          clear hQ
          go_wp2_with (at_builtin; refine wpList_append_rd (f := intV) (fun _ => rfl) rfl _ _ 38 rfl base 3 j0 _ 8 Try.underlying38 hj0 hy0 hy1 hy2 rfl _ _ _ rfl HA1.out.1 _ 1 _ [m0] rfl HA1.out.2 (by unfold maxLen; simp; omega) (by simp; omega) (by simp; omega) ?_)
          intro v3 w3 hown3 hO3
          have HL1 : Hid (OwnI w3 base v3 (out ++ (r :: mks m0 m1 1)) ∧ Own1 w w3 v v3 ∧ base ≤ w3.heap.size) := Lib.hid (by
            have hO4 := (Own1.below ((Below.refl wr.heap.size wr).alloc (Nat.le_refl _) (.cells #[.int .i64 m0] 3))).trans hO3
            refine ⟨?_, HL.out.2.1.trans hO4, Nat.le_trans hbs hO4.gr.size⟩
            rw [← HN.out]
            unfold OwnI
            rw [List.length_append, List.map_append]
            exact hown3)
          clear hown3 hO3 HA1 hbs hlo HL HN HQ
          go_wp2_with fail
          exact ⟨⟨1, by omega, by go_num, HL1⟩, by simp [intOf]⟩
      · by_cases hm : m1 = 0
        · have em : (m1 != 0) = false := by rw [hm]; rfl
          have HN : Hid (mks m0 m1 2 = mks m0 m1 1) := Lib.hid (by simp [mks, hm])
          clear hm
          go_wp2_with fail
          exact ⟨⟨2, by omega, by go_num, by rw [HN.out]; exact HL⟩, by simp [intOf]⟩
        · have em : (m1 != 0) = true := bne_iff_ne.2 hm
          have HN : Hid (out ++ (r :: mks m0 m1 1) ++ [m1] = out ++ (r :: mks m0 m1 2)) := Lib.hid (by simp [mks, hm])
          clear hm
          have hlo : (out ++ (r :: mks m0 m1 1)).length ≤ 100003 := by rw [List.length_append, List.length_cons]; have := mks_len m0 m1 1; omega
          have hbs := HL.out.2.2
          have ho1 := HL.out.1.on ((Below.refl _ _).alloc (Nat.le_refl _) (.cells #[.int .i64 m1] 3))
          unfold OwnI at ho1
          have hR1 := one_int8 wr m1
          have HA1 := Lib.hid (And.intro ho1 hR1)
          clear ho1 hR1
          generalize hQ : out ++ (r :: mks m0 m1 1) = Q at *
          have HQ := Lib.hid hQ
          clear hQ
          go_wp2_with (at_builtin; refine wpList_append_rd (f := intV) (fun _ => rfl) rfl _ _ 38 rfl base 3 j0 _ 8 Try.underlying38 hj0 hy0 hy1 hy2 rfl _ _ _ rfl HA1.out.1 _ 1 _ [m1] rfl HA1.out.2 (by unfold maxLen; simp; omega) (by simp; omega) (by simp; omega) ?_)
          intro v3 w3 hown3 hO3
          have HL1 : Hid (OwnI w3 base v3 (out ++ (r :: mks m0 m1 2)) ∧ Own1 w w3 v v3 ∧ base ≤ w3.heap.size) := Lib.hid (by
            have hO4 := (Own1.below ((Below.refl wr.heap.size wr).alloc (Nat.le_refl _) (.cells #[.int .i64 m1] 3))).trans hO3
            refine ⟨?_, HL.out.2.1.trans hO4, Nat.le_trans hbs hO4.gr.size⟩
            rw [← HN.out]
            unfold OwnI
            rw [List.length_append, List.map_append]
            exact hown3)
          clear hown3 hO3 HA1 hbs hlo HL HN HQ
          go_wp2_with fail
          exact ⟨⟨2, by omega, by go_num, HL1⟩, by simp [intOf]⟩
      · go_wp2_with fail
        go_ret
        exact ⟨_, rfl, by rw [HRES.out]; exact HL.out.1, HL.out.2.1⟩
theorem lenL_zero {l : List Cl} : (∀ c ∈ l, c.r = 0 ∧ c.pen = zeroN) → ∀ i, lenL i l = 0 := by
  induction l with
  | nil => intro _ i; rfl
  | cons c l ih =>
    intro h i
    unfold lenL
    have h1 := ih (fun x hx => h x (by simp [hx])) (i + 1)
    have h2 := h c (by simp)
    rw [if_pos h1, if_neg]
    rintro (k | k)
    · exact k h2.1
    · exact k h2.2
theorem lenL_at (a b : List Cl) (x : Cl) (hb : ∀ c ∈ b, c.r = 0 ∧ c.pen = zeroN) (hx : x.r ≠ 0 ∨ x.pen ≠ zeroN) : ∀ i, lenL i (a ++ x :: b) = i + a.length + max 1 x.w.toNat := by
  induction a with
  | nil =>
    intro i
    show lenL i (x :: b) = _
    unfold lenL
    rw [if_pos (lenL_zero hb _), if_pos hx]
    simp
  | cons c a ih =>
    intro i
    show lenL i (c :: (a ++ x :: b)) = _
    unfold lenL
    have h1 := ih (i + 1)
    rw [if_neg (by rw [h1]; omega), h1, List.length_cons]
    omega
set_option maxRecDepth 100000 in
set_option maxHeartbeats 1000000 in
theorem length8_c : Length8C := by
  intro r A c w hin hok
  obtain ⟨l, y1, y2, y3⟩ := r
  rw [rwV_eq]
  have hlen := hin.len
  unfold maxLen at hlen
  have hcap := hin.cap
  have hsr := fun V (hV : Below w.heap.size w V) => sane8_b ⟨l, y1, y2, y3⟩ A c V (hin.on hV) hok
  have hY : Box (w.alloc (.cells #[.slice A l.length c, .bool y1, .int .i64 y2, .bool y3] 24)) w.heap.size 24 #[.slice A l.length c, .bool y1, .int .i64 y2, .bool y3] := Box.new w _ _
  have hb : Below w.heap.size w (w.alloc (.cells #[.slice A l.length c, .bool y1, .int .i64 y2, .bool y3] 24)) := (Below.refl _ _).alloc (Nat.le_refl _) _
  have HI := Lib.hid hin
  have HSR := Lib.hid hsr
  have HYB := Lib.hid (And.intro hY hb)
  have HOK := Lib.hid hok
  simp only at hcap hlen
  generalize hR : (lengthR ⟨l, y1, y2, y3⟩ : Int) = R
  have HR := Lib.hid hR
  clear hR hin hok hsr hY hb
  cases hs1 : decide (SaneR ⟨l, y1, y2, y3⟩) with
  | false =>
    have h1 := HSR.out
    simp only [hs1] at h1
    have HS : Hid (R = 0) := Lib.hid (by rw [← HR.out]; unfold lengthR; rw [if_neg (of_decide_eq_false hs1)]; rfl)
    clear hs1 HSR HR
    go_enter Try.func15, Try.ntmps15
    go_upto_region 1 with fail
    generalize w.alloc (.cells #[.slice A l.length c, .bool y1, .int .i64 y2, .bool y3] 24) = W at *
    obtain ⟨k0, k1, k2, k3⟩ : W.cell? ⟨w.heap.size, 0, none⟩ = some (.slice A l.length c) ∧ W.cell? ⟨w.heap.size, 1, none⟩ = some (.bool y1) ∧ W.cell? ⟨w.heap.size, 2, none⟩ = some (.int .i64 y2) ∧ W.cell? ⟨w.heap.size, 3, none⟩ = some (.bool y3) := ⟨HYB.out.1.cell 0, HYB.out.1.cell 1, HYB.out.1.cell 2, HYB.out.1.cell 3⟩
    go_wp2_with fail
    refine (h1 _ HYB.out.2).mono ?_
    rintro e v1 ⟨rfl, hv1⟩
    have hb1 := HYB.out.2.trans (hv1.mono HYB.out.2.size)
    clear h1 hv1 k0 k1 k2 k3
    go_wp2_with fail
    go_ret
    exact ⟨ret_int HS.out.symm, hb1⟩
  | true =>
    have h1 := HSR.out
    simp only [hs1] at h1
    have HS : Hid (R = (lenL 0 l : Int)) := Lib.hid (by rw [← HR.out]; unfold lengthR; rw [if_pos (of_decide_eq_true hs1)])
    have HSN := Lib.hid (of_decide_eq_true hs1)
    clear hs1 HSR HR
    go_enter Try.func15, Try.ntmps15
    go_upto_region 1 with fail
    generalize w.alloc (.cells #[.slice A l.length c, .bool y1, .int .i64 y2, .bool y3] 24) = W at *
    obtain ⟨k0, k1, k2, k3⟩ : W.cell? ⟨w.heap.size, 0, none⟩ = some (.slice A l.length c) ∧ W.cell? ⟨w.heap.size, 1, none⟩ = some (.bool y1) ∧ W.cell? ⟨w.heap.size, 2, none⟩ = some (.int .i64 y2) ∧ W.cell? ⟨w.heap.size, 3, none⟩ = some (.bool y3) := ⟨HYB.out.1.cell 0, HYB.out.1.cell 1, HYB.out.1.cell 2, HYB.out.1.cell 3⟩
    go_wp2_with fail
    refine (h1 _ HYB.out.2).mono ?_
    rintro e v1 ⟨rfl, hv1⟩
    have hY1 := HYB.out.1.below hv1 HYB.out.1.lt
    have hb1 := HYB.out.2.trans (hv1.mono HYB.out.2.size)
    have HV := Lib.hid (And.intro hY1 hb1)
    clear h1 hv1 k0 k1 k2 k3 HYB hY1 hb1
    have k0 : v1.cell? ⟨w.heap.size, 0, none⟩ = some (.slice A l.length c) := HV.out.1.cell 0
    go_wp2_with fail
    clear k0
    go_loopw [3] (fun u3 wr => ∃ i : Nat, i ≤ l.length ∧ u3 = .int .i64 ((i : Int) - 1) ∧ Hid (∀ x ∈ l.drop i, x.r = 0 ∧ x.pen = zeroN) ∧ Hid (Box wr w.heap.size 24 #[.slice A l.length c, .bool y1, .int .i64 y2, .bool y3] ∧ Below w.heap.size w wr)) (fun u3 _ => (intOf u3 + 1).toNat)
    case atStart => exact ⟨l.length, Nat.le_refl _, rfl, Lib.hid (by simp), HV⟩
    case round =>
      obtain ⟨i, hi, rfl, HP, HM⟩ := hrel
      clear HV
      by_cases h0 : i = 0
      · have z1 : ¬ (i : Int) - 1 ≥ 0 := by omega
        have HZ : Hid (R = 0) := Lib.hid (by
          rw [HS.out, lenL_zero (fun x hx => HP.out x (by rw [h0]; simpa using hx))]; rfl)
        go_wp2_with fail
        go_ret
        exact ⟨ret_int HZ.out.symm, HM.out.2⟩
      · obtain ⟨m, rfl⟩ : ∃ m, i = m + 1 := ⟨i - 1, by omega⟩
        have em : ((m + 1 : Nat) : Int) - 1 = (m : Int) := by omega
        rw [em]
        have z1 : (m : Int) ≥ 0 := by omega
        have z2 : (m : Int) < (l.length : Int) := by omega
        obtain ⟨x, hx⟩ : ∃ x, l[m]? = some x := ⟨_, List.getElem?_eq_getElem (by omega)⟩
        obtain ⟨g, o, rfl, gB, p0, p1, p2, p3, p4, p5, p6⟩ := (HI.out.on HM.out.2).at_ hx
        have k0 : wr.cell? ⟨w.heap.size, 0, none⟩ = some (.slice (some ⟨g, o, none⟩) l.length c) := HM.out.1.cell 0
        have hone := HSN.out.one (i := m) hx
        have hl4 : l.length ≤ 4096 := HSN.out.1.2
        have hw2 : 0 ≤ x.w ∧ x.w ≤ 2 := hone.1
        have hspl : l = l.take m ++ x :: l.drop (m + 1) := by
          obtain ⟨hm, he⟩ := List.getElem?_eq_some_iff.1 hx
          rw [← he, ← List.drop_eq_getElem_cons hm, List.take_append_drop]
        have hdrop : l.drop m = x :: l.drop (m + 1) := by
          obtain ⟨hm, he⟩ := List.getElem?_eq_some_iff.1 hx
          rw [← he, ← List.drop_eq_getElem_cons hm]
        have HW : Hid ((x.r ≠ 0 ∨ x.pen ≠ zeroN) → (1 ≤ x.w ∧ R = (m : Int) + x.w) ∨ (x.w < 1 ∧ R = (m : Int) + 1)) := Lib.hid fun h => by
          have e := lenL_at (l.take m) (l.drop (m + 1)) x HP.out h 0
          rw [← hspl, List.length_take, Nat.min_eq_left (by omega)] at e
          have e2 := HS.out
          rw [e] at e2
          omega
        have HD := Lib.hid hdrop
        have hpn := fun V => pen_neq x.pen zeroN V
        have hpz : ∀ V, (binOp .neq 27 (.agg #[.int .i64 x.pen.fg, .int .i64 x.pen.bg, .int .i64 x.pen.fl]) (.agg #[.int .i64 0, .int .i64 0, .int .i64 0])).run Try.prog V = .ok (.bool (!decide (x.pen = zeroN))) V := hpn
        have hal : Below wr.heap.size wr (wr.alloc (.cells #[.int .i64 x.r, .int .i64 x.m0, .int .i64 x.m1, .int .i64 x.w, .int .i64 x.pen.fg, .int .i64 x.pen.bg, .int .i64 x.pen.fl] 29)) := (Below.refl _ _).alloc (Nat.le_refl _) _
        have HA : Hid (Box (wr.alloc (.cells #[.int .i64 x.r, .int .i64 x.m0, .int .i64 x.m1, .int .i64 x.w, .int .i64 x.pen.fg, .int .i64 x.pen.bg, .int .i64 x.pen.fl] 29)) w.heap.size 24 #[.slice (some ⟨g, o, none⟩) l.length c, .bool y1, .int .i64 y2, .bool y3] ∧ Below w.heap.size w (wr.alloc (.cells #[.int .i64 x.r, .int .i64 x.m0, .int .i64 x.m1, .int .i64 x.w, .int .i64 x.pen.fg, .int .i64 x.pen.bg, .int .i64 x.pen.fl] 29))) := Lib.hid ⟨HM.out.1.below hal HM.out.1.lt, HM.out.2.trans (hal.mono HM.out.2.size)⟩
        clear hx hone hspl hdrop hpn hal h0
        by_cases hr : x.r = 0
        · have er : (x.r != 0) = false := by rw [hr]; rfl
          by_cases hp : x.pen = zeroN
          · rw [decide_eq_true hp] at hpz
            have HPL : Hid (∀ z ∈ l.drop m, z.r = 0 ∧ z.pen = zeroN) := Lib.hid fun z hz => by
              rw [HD.out] at hz
              rcases List.mem_cons.1 hz with rfl | hz
              · exact ⟨hr, hp⟩
              · exact HP.out z hz
            clear hr hp
            go_wp2_with fail
            exact ⟨⟨m, by omega, by go_num, HPL, HA⟩, by simp [intOf]⟩
          · rw [decide_eq_false hp] at hpz
            have HE := Lib.hid (HW.out (.inr hp))
            clear hr hp
            go_wp2_with fail
            all_goals
              go_ret
              exact ⟨ret_int (by have := HE.out; omega), HA.out.2⟩
        · have er : (x.r != 0) = true := bne_iff_ne.2 hr
          have HE := Lib.hid (HW.out (.inl hr))
          clear hr
          go_wp2_with fail
          all_goals
            go_ret
            exact ⟨ret_int (by have := HE.out; omega), HA.out.2⟩
theorem lets8_le (l : List Cl) : (lets l).length ≤ 3 * l.length := by
  induction l with
  | nil => simp [lets]
  | cons c l ih =>
    have e : lets (c :: l) = letsC c ++ lets l := by simp [lets]
    have h1 : (letsC c).length ≤ 3 := by
      unfold letsC marksC
      by_cases h0 : c.w = 0 <;> by_cases h1 : c.r = 0 <;> by_cases h2 : c.m0 = 0 <;> by_cases h3 : c.m1 = 0 <;> simp [h0, h1, h2, h3]
    rw [e, List.length_append, List.length_cons]
    omega
theorem lets_take {l : List Cl} {k : Nat} {x : Cl} (h : l[k]? = some x) : lets (l.take (k + 1)) = lets (l.take k) ++ letsC x := by
  obtain ⟨hk, he⟩ := List.getElem?_eq_some_iff.1 h
  unfold lets
  rw [List.take_succ_eq_append_getElem hk, List.flatMap_append, he]
  simp
theorem letters_not {r : Rw} {a b : Int} (h : ¬ (SaneR r ∧ fitN r.cs.length a < fitN r.cs.length b)) : lettersR r a b = [] := by
  unfold lettersR
  split
  · rename_i hs
    have hn : ¬ fitN r.cs.length a < fitN r.cs.length b := fun k => h ⟨hs, k⟩
    have : (r.cs.take (fitN r.cs.length b)).drop (fitN r.cs.length a) = [] := List.drop_of_length_le (by rw [List.length_take]; omega)
    rw [this]; rfl
  · rfl
theorem letters_yes {r : Rw} {a b : Int} (h : SaneR r) : lettersR r a b = lets ((r.cs.take (fitN r.cs.length b)).drop (fitN r.cs.length a)) := by
  unfold lettersR; rw [if_pos h]
theorem givesI_nil (W w' : World) (h : Below W.heap.size W w') : GivesI [] W (.returned (.slice none 0 0)) w' := ⟨none, 0, rfl, Rd.nil, Nat.le_refl _, by simp [maxLen], h⟩
theorem givesI_own {W w' : World} {base : Nat} {v : Value} {l : List Int} (ho : OwnI w' base v l) (h : Below W.heap.size W w') : GivesI l W (.returned v) w' := by
  unfold OwnI at ho
  obtain ⟨A, c, rfl, h1, h2⟩ := own_form1 ho
  exact ⟨A, c, rfl, Rd.of_own ho, h1, h2, h⟩
set_option maxRecDepth 100000 in
set_option maxHeartbeats 1000000 in
theorem letters8_c : Letters8C := by
  intro r A c a b w hin hok ha hb
  obtain ⟨l, y1, y2, y3⟩ := r
  rw [rwV_eq]
  have hlen := hin.len
  unfold maxLen at hlen
  have hcap := hin.cap
  have hsr := fun V (hV : Below w.heap.size w V) => sane8_b ⟨l, y1, y2, y3⟩ A c V (hin.on hV) hok
  have hwa := fun V => within8_c ⟨l, y1, y2, y3⟩ A c a V ha (by unfold maxLen; exact hlen)
  have hwb := fun V => within8_c ⟨l, y1, y2, y3⟩ A c b V hb (by unfold maxLen; exact hlen)
  have hY : Box (w.alloc (.cells #[.slice A l.length c, .bool y1, .int .i64 y2, .bool y3] 24)) w.heap.size 24 #[.slice A l.length c, .bool y1, .int .i64 y2, .bool y3] := Box.new w _ _
  have hbl : Below w.heap.size w (w.alloc (.cells #[.slice A l.length c, .bool y1, .int .i64 y2, .bool y3] 24)) := (Below.refl _ _).alloc (Nat.le_refl _) _
  have HI := Lib.hid hin
  have HSR := Lib.hid hsr
  have HR3 := Lib.hid (And.intro hY hbl)
  simp only at hcap hlen hwa hwb
  generalize hS : lettersR ⟨l, y1, y2, y3⟩ a b = S
  have HNOT : Hid (¬ (SaneR ⟨l, y1, y2, y3⟩ ∧ fitN l.length a < fitN l.length b) → S = []) := Lib.hid fun h => by rw [← hS]; exact letters_not h
  have HYES : Hid (SaneR ⟨l, y1, y2, y3⟩ → S = lets ((l.take (fitN l.length b)).drop (fitN l.length a))) := Lib.hid fun h => by rw [← hS]; exact letters_yes (r := ⟨l, y1, y2, y3⟩) h
  have hfa := fit_le l.length a
  have hfb := fit_le l.length b
  generalize fitN l.length a = F at *
  generalize fitN l.length b = T at *
  have HWA := Lib.hid hwa
  have HWB := Lib.hid hwb
  clear hS hwa hwb hsr hin hok ha hb hY hbl
  go_enter Try.func14, Try.ntmps14
  go_upto_region 1 with fail
  generalize w.alloc (.cells #[.slice A l.length c, .bool y1, .int .i64 y2, .bool y3] 24) = W at *
  have m0 := Ext.cell (w := W) (B := W.heap.size) (p := ⟨w.heap.size, 0, none⟩) HR3.out.1.lt (HR3.out.1.cell 0)
  have m1 := Ext.cell (w := W) (B := W.heap.size) (p := ⟨w.heap.size, 1, none⟩) HR3.out.1.lt (HR3.out.1.cell 1)
  have m2 := Ext.cell (w := W) (B := W.heap.size) (p := ⟨w.heap.size, 2, none⟩) HR3.out.1.lt (HR3.out.1.cell 2)
  have m3 := Ext.cell (w := W) (B := W.heap.size) (p := ⟨w.heap.size, 3, none⟩) HR3.out.1.lt (HR3.out.1.cell 3)
  refine region_plan [([0, 1, 3, 4], [2, 5]), ([6, 7], [])] (fun w' => ∃ u : Ext W W.heap.size, w' = u.val) (by kernel_rfl) (by kernel_rfl) (fun _ _ _ _ _ h => h) ⟨⟨_, (Below.refl _ _).drew⟩, rfl⟩ ?_
  simp only [wpPlan, sel, List.take_succ_cons, List.take_zero, List.drop_succ_cons, List.drop_zero, List.cons_append, List.nil_append]
  repeat (go_big_quiet_step (fail))
  refine wpQuiet_nil ?_
  unfold wpChain
  go_wp2_with fail
  refine (HWA.out _).mono ?_
  rintro e v1 ⟨rfl, hv1⟩
  have hv2 : Below W.heap.size W v1 := (Below.refl W.heap.size W).drew.trans hv1
  have HV2 := Lib.hid hv2
  clear hv1 hv2 HWA
  go_wp2_with fail
  refine ⟨⟨⟨_, HV2.out⟩, rfl⟩, ?_⟩
  unfold wpChain
  go_wp2_with fail
  refine (HWB.out _).mono ?_
  rintro e v2 ⟨rfl, hv1⟩
  have hv2 : Below W.heap.size W v2 := HV2.out.trans (hv1.mono HV2.out.size)
  have HV3 := Lib.hid hv2
  clear hv1 hv2 HWB HV2
  go_wp2_with fail
  refine ⟨⟨⟨_, HV3.out⟩, rfl⟩, ?_⟩
  unfold wpChain
  repeat (go_big_quiet_step (fail))
  refine wpQuiet_nil ?_
  unfold wpChain
  have hY := HR3.out.1.below HV3.out HR3.out.1.lt
  have hbl := HR3.out.2.trans (HV3.out.mono HR3.out.2.size)
  obtain ⟨k0, k1, k2, k3⟩ : v2.cell? ⟨w.heap.size, 0, none⟩ = some (.slice A l.length c) ∧ v2.cell? ⟨w.heap.size, 1, none⟩ = some (.bool y1) ∧ v2.cell? ⟨w.heap.size, 2, none⟩ = some (.int .i64 y2) ∧ v2.cell? ⟨w.heap.size, 3, none⟩ = some (.bool y3) := ⟨hY.cell 0, hY.cell 1, hY.cell 2, hY.cell 3⟩
  have HB := Lib.hid (And.intro hY hbl)
  clear m0 m1 m2 m3 HV3 HR3 hY hbl
  have h1 := HSR.out v2 HB.out.2
  clear HSR
  cases hs1 : decide (SaneR ⟨l, y1, y2, y3⟩) with
  | false =>
    simp only [hs1] at h1
    have HE := Lib.hid (HNOT.out fun g => of_decide_eq_false hs1 g.1)
    clear hs1 HNOT HYES
    go_wp2_with fail
    refine h1.mono ?_
    rintro e v3 ⟨rfl, hv3⟩
    have hb3 := HB.out.2.trans (hv3.mono HB.out.2.size)
    clear h1 hv3 k0 k1 k2 k3
    go_wp2_with fail
    rw [HE.out]
    go_ret
    exact givesI_nil _ _ hb3
  | true =>
    simp only [hs1] at h1
    have HT1 := Lib.hid (of_decide_eq_true hs1)
    clear hs1
    by_cases hft : F < T
    · have zf : ¬ (F : Int) ≥ (T : Int) := by omega
      have zd : decide ((T : Int) ≤ (F : Int)) = false := decide_eq_false (by omega)
      have HE := Lib.hid (HYES.out HT1.out)
      have hl4 : l.length ≤ 4096 := HT1.out.1.2
      clear HYES HNOT
      go_wp2_with fail
      refine h1.mono ?_
      rintro e v4 ⟨rfl, hv3⟩
      have hY3 := HB.out.1.below hv3 HB.out.1.lt
      have hb3 := HB.out.2.trans (hv3.mono HB.out.2.size)
      have hin4 := HI.out.on hb3
      obtain ⟨B2, d2, hcut, hin2⟩ := hin4.cut (a := F) (b := T) (by omega) (by omega)
      have hsub : ((l.take T).drop F).length = T - F := by rw [List.length_drop, List.length_take]; omega
      rw [hsub] at hcut
      have hones : ∀ x ∈ (l.take T).drop F, OneC x := fun x hx => HT1.out.2.1 x (List.mem_of_mem_take (List.mem_of_mem_drop hx))
      have hd2 := hin2.cap
      rw [hsub] at hd2
      have hd3 := hin2.max
      unfold maxLen at hd3
      generalize hSUB : (l.take T).drop F = sub at *
      have HG := Lib.hid (And.intro hsub (And.intro hin2 hones))
      have HB4 := Lib.hid hb3
      have HY4 := Lib.hid hY3
      clear h1 hv3 k0 k1 k2 k3 hin4 hsub hin2 hones hb3 hY3 hSUB HB
      obtain ⟨j0, hj0, hy0, hy1, hy2⟩ := info_parts infoI8
      go_wp2_with (refine wpList_make_own _ rfl _ _ 38 rfl v4.heap.size 3 j0 _ 1 Try.underlying38 hj0 hy0 hy1 .i64 .i64 _ (T - F) rfl rfl (by omega) (by rw [hy2]; omega) (by unfold maxLen; omega) (Nat.le_refl _) ?_)
      intro w2 hown hgr
      have hbl2 : Below v4.heap.size v4 w2 := ⟨hgr.os, hgr.tape, hgr.output, hgr.size, fun k hk => hgr.block k hk (by simp)⟩
      have k0 : w2.cell? ⟨w.heap.size, 0, none⟩ = some (.slice A l.length c) := (HY4.out.below hbl2 HY4.out.lt).cell 0
      have HL0 : Hid (OwnI w2 v4.heap.size (.slice (some ⟨v4.heap.size, 0, none⟩) 0 (T - F)) (lets (sub.take 0)) ∧ Below v4.heap.size v4 w2) := Lib.hid ⟨by simpa [lets, OwnI] using hown, hbl2⟩
      clear hown hgr hbl2 zd zf
      go_wp2_with fail
      clear k0
      have hn4 : T - F ≤ 4096 := by omega
      generalize T - F = n at *
      go_loopw [7, 34] (fun u7 u34 wr => ∃ j : Nat, j ≤ n ∧ u34 = .int .i64 (j : Int) ∧ Hid (OwnI wr v4.heap.size u7 (lets (sub.take j)) ∧ Below v4.heap.size v4 wr)) (fun _ u34 _ => n - (intOf u34).toNat)
      case atStart => exact ⟨0, Nat.zero_le _, rfl, HL0⟩
      case round =>
        obtain ⟨j, hj, rfl, HL⟩ := hrel
        clear HL0
        by_cases hlt : j < n
        · have z1 : (j : Int) < (n : Int) := by omega
          obtain ⟨x, hx⟩ : ∃ x, sub[j]? = some x := ⟨_, List.getElem?_eq_getElem (by have := HG.out.1; omega)⟩
          obtain ⟨g, o, rfl, gB, p0, p1, p2, p3, p4, p5, p6⟩ := (HG.out.2.1.on HL.out.2).at_ hx
          have hone := HG.out.2.2 x (List.mem_of_getElem? hx)
          have hlt2 := lets_take hx
          have hal : Below wr.heap.size wr (wr.alloc (.cells #[.int .i64 x.r, .int .i64 x.m0, .int .i64 x.m1, .int .i64 x.w, .int .i64 x.pen.fg, .int .i64 x.pen.bg, .int .i64 x.pen.fl] 29)) := (Below.refl _ _).alloc (Nat.le_refl _) _
          have HAL := Lib.hid hal
          have hll : (lets (sub.take j)).length ≤ 100000 := by
            have h1 := lets8_le (sub.take j)
            rw [List.length_take] at h1
            have := HG.out.1
            omega
          have HLL := Lib.hid hll
          by_cases hw0 : x.w = 0
          · have ew : (x.w != 0) = false := by rw [hw0]; rfl
            have HM1 : Hid (OwnI (wr.alloc (.cells #[.int .i64 x.r, .int .i64 x.m0, .int .i64 x.m1, .int .i64 x.w, .int .i64 x.pen.fg, .int .i64 x.pen.bg, .int .i64 x.pen.fl] 29)) v4.heap.size u7 (lets (sub.take (j + 1))) ∧ Below v4.heap.size v4 (wr.alloc (.cells #[.int .i64 x.r, .int .i64 x.m0, .int .i64 x.m1, .int .i64 x.w, .int .i64 x.pen.fg, .int .i64 x.pen.bg, .int .i64 x.pen.fl] 29))) := Lib.hid (by
              rw [hlt2, show letsC x = [] by unfold letsC; rw [if_pos hw0], List.append_nil]
              exact ⟨HL.out.1.on hal, HL.out.2.trans (hal.mono HL.out.2.size)⟩)
            clear hx hone hlt2 hal hll hw0
            go_wp2_with fail
            exact ⟨⟨j + 1, by omega, by go_num, HM1⟩, by simp [intOf]; omega⟩
          · have ew : (x.w != 0) = true := bne_iff_ne.2 hw0
            have HLT : Hid (lets (sub.take j) ++ letsW x.r x.m0 x.m1 = lets (sub.take (j + 1))) := Lib.hid (by rw [hlt2, letsW_of hone hw0])
            have hwl := with8_c v4.heap.size u7 (lets (sub.take j)) x.r x.m0 x.m1 x.w x.pen.fg x.pen.bg x.pen.fl (wr.alloc (.cells #[.int .i64 x.r, .int .i64 x.m0, .int .i64 x.m1, .int .i64 x.w, .int .i64 x.pen.fg, .int .i64 x.pen.bg, .int .i64 x.pen.fl] 29)) (HL.out.1.on hal) (Nat.le_trans HL.out.2.size hal.size) hll
            rw [HLT.out] at hwl
            have hvb : ∀ g', u7.ownBlock = some g' → v4.heap.size ≤ g' := fun g' h => (own_block HL.out.1 h).1
            have HVB := Lib.hid hvb
            have HWL := Lib.hid hwl
            clear hx hone hlt2 hal hll hw0 hwl hvb
            go_wp2_with fail
            refine HWL.out.mono ?_
            rintro e v5 ⟨v', rfl, ho5, hO5⟩
            have HM1 : Hid (OwnI v5 v4.heap.size v' (lets (sub.take (j + 1))) ∧ Below v4.heap.size v4 v5) := Lib.hid ⟨ho5, (HL.out.2.trans (HAL.out.mono HL.out.2.size)).trans (hO5.belowBase (Nat.le_trans HL.out.2.size HAL.out.size) HVB.out)⟩
            clear ho5 hO5 HWL HVB HLT HAL HLL HL p0 p1 p2 p3 p4 p5 p6 gB
            go_wp2_with fail
            go_roundw
            case rel =>
              exact ⟨j + 1, by omega, by go_num, HM1⟩
            case measure => simp [intOf]; omega
        · obtain rfl : j = n := by omega
          have z1 : ¬ (j : Int) < (j : Int) := by omega
          have hfin := HL.out.1
          rw [show sub.take j = sub by rw [← HG.out.1]; exact List.take_length, ← HE.out] at hfin
          have HF := Lib.hid (givesI_own hfin (HB4.out.trans (HL.out.2.mono HB4.out.size)))
          clear hfin
          go_wp2_with fail
          go_ret
          exact HF.out
    · have zf : (F : Int) ≥ (T : Int) := by omega
      have zd : decide ((T : Int) ≤ (F : Int)) = true := decide_eq_true (by omega)
      have HE := Lib.hid (HNOT.out fun g => hft g.2)
      clear HYES HNOT
      go_wp2_with fail
      refine h1.mono ?_
      rintro e v3 ⟨rfl, hv3⟩
      have hb3 := HB.out.2.trans (hv3.mono HB.out.2.size)
      clear h1 hv3 k0 k1 k2 k3
      go_wp2_with fail
      rw [HE.out]
      go_ret
      exact givesI_nil _ _ hb3
end Go.Proofs.Ytflpelpgnjdnkaa
