/- CharsetOnce, walked. Written by wip/tools/chonce.py. -/
import Derived.Test.YtmhmlfcepadabaaDoorChE
import Derived.Test.YtmhmlfcepadabaaDoorBitsR
import Derived.ChangeKeysEq
namespace Go.Proofs.YtmhmlfcepadabaaDoor
open Go Go.RowKit
set_option linter.unusedVariables false
set_option linter.unusedSimpArgs false

theorem once_facts (s : St) (W X : Int) (hs : saneB s = true) (hW : W = 2 ∨ W = 3) (hX : 33 ≤ X ∧ X ≤ 96) :
    shiftF s W = { s with on := W } ∧ mapS { s with on := W } X = { s with on := 0 } ∧ lockF { s with on := 0 } W false = { s with gl := W, on := 0 } ∧ mapF { s with on := W } X = mapF { s with gl := W, on := 0 } X := by
  have h0 := hs
  simp only [saneB, Bool.and_eq_true, Bool.or_eq_true, decide_eq_true_eq] at h0
  obtain ⟨h1, h2, h3, h4, h5, h6, h7⟩ := h0
  have hw : writtenB X = true := by simp [writtenB]; omega
  have ho : onceB W = true := by simp [onceB]; omega
  have hp : placeB W = true := by simp [placeB]; omega
  have s1 : saneB { s with on := W } = true := by simp [saneB, h1, h2, h3, h4, h5, h6, ho]
  have s2 : saneB { s with on := 0 } = true := by simp [saneB, h1, h2, h3, h4, h5, h6]
  have s3 : saneB { s with gl := W, on := 0 } = true := by simp [saneB, h1, h2, h3, h4, h6, hp]
  refine ⟨by simp [shiftF, hs, ho], by simp [mapS, s1, hw], by simp [lockF, s2, hp], ?_⟩
  unfold mapF
  rw [s1, s3, if_pos rfl, if_pos rfl]
  unfold standsF
  rw [if_pos (by omega), if_pos (by omega)]
  have l1 : leftF { s with on := W } = W := by
    unfold leftF
    rw [if_neg (by show ¬ W = 0; omega)]
  have l2 : leftF { s with gl := W, on := 0 } = W := by
    unfold leftF
    rw [if_pos rfl]
  rw [l1, l2]
  rfl
theorem eq_four (a b c d : Int) (V : World) : (Op.equalIn 10000 22 (.agg #[.int .u8 a, .int .u8 b, .int .u8 c, .int .u8 d]) (.agg #[.int .u8 a, .int .u8 b, .int .u8 c, .int .u8 d])).run Tryd.prog V = .ok true V := by
  obtain ⟨i, hi⟩ : ∃ i, Tryd.prog.info? 5 = some i := Option.isSome_iff_exists.1 (by kernel_rfl)
  rw [run_equalIn_array V 9999 _ _ Tryd.underlying22 hi]
  have h1 : Tryd.prog.cellsOf 5 = 1 := by kernel_rfl
  rw [h1]
  have p0 : (part 5 #[.int .u8 a, .int .u8 b, .int .u8 c, .int .u8 d] 0).run Tryd.prog V = .ok (.int .u8 a) V := by kernel_rfl
  have p1 : (part 5 #[.int .u8 a, .int .u8 b, .int .u8 c, .int .u8 d] 1).run Tryd.prog V = .ok (.int .u8 b) V := by kernel_rfl
  have p2 : (part 5 #[.int .u8 a, .int .u8 b, .int .u8 c, .int .u8 d] 2).run Tryd.prog V = .ok (.int .u8 c) V := by kernel_rfl
  have p3 : (part 5 #[.int .u8 a, .int .u8 b, .int .u8 c, .int .u8 d] 3).run Tryd.prog V = .ok (.int .u8 d) V := by kernel_rfl
  have q : ∀ x : Int, (Op.equalIn 9999 5 (.int .u8 x) (.int .u8 x)).run Tryd.prog V = .ok true V := fun x => by
    rw [run_equalIn_int V 9998 _ _ _ _ _ Tryd.underlying5]; simp
  have hr : List.range 4 = [0, 1, 2, 3] := rfl
  rw [hr]
  simp [Op.eqItems, Sem.run_bind, p0, p1, p2, p3, q, Result.andThen_ok]

set_option maxRecDepth 100000 in
set_option maxHeartbeats 4000000 in
theorem once_law (s : St) (n a b : Int) (w : World) (hG : Gr w) : Calls Tryd.prog 3 #[s.v, .int .i64 n, .int .i64 a, .int .i64 b] w fun e w' => e = .returned (.bool true) ∧ Below w.heap.size w w' := by
  have hg := hG.size
  have hO := ours_c s
  have hC := sane_c s
  rw [St.v_eq s] at hO hC ⊢
  have hn : bits .and .i64 n 1 = n % 2 := and_low n 1 (by decide)
  have ha : bits .and .i64 a 63 = a % 64 := and_low a 6 (by decide)
  have hb : bits .and .i64 b 63 = b % 64 := and_low b 6 (by decide)
  have bn : 0 ≤ n % 2 ∧ n % 2 < 2 := by omega
  have ba : 0 ≤ a % 64 ∧ a % 64 < 64 := by omega
  have bb : 0 ≤ b % 64 ∧ b % 64 < 64 := by omega
  generalize n % 2 = m at hn bn
  generalize a % 64 = x at ha ba
  generalize b % 64 = y at hb bb
  have hbel0 := (Below.refl w.heap.size w).alloc (Nat.le_refl _) (.cells #[.int .u8 s.a, .int .u8 s.b, .int .u8 s.c, .int .u8 s.d, .int .i64 s.gl, .int .i64 s.gr, .int .i64 s.on] 24)
  have hA0 : Box (w.alloc (.cells #[.int .u8 s.a, .int .u8 s.b, .int .u8 s.c, .int .u8 s.d, .int .i64 s.gl, .int .i64 s.gr, .int .i64 s.on] 24)) w.heap.size 24 s.cells := Box.new w _ _
  have haw := awake_c _ (hG.below hbel0 hg)
  go_enter Tryd.func3, Tryd.ntmps3
  go_wp2_with fail
  refine haw.mono ?_
  rintro e w1 ⟨rfl, hb1⟩
  have hbel1 := hbel0.trans (hb1.mono hbel0.size)
  have hA1 := hA0.below hb1 hA0.lt
  obtain ⟨a0, a1, a2, a3, a4, a5, a6⟩ := hA1.seven
  clear haw hb1 hbel0 hA0
  go_wp2_with fail
  clear a0 a1 a2 a3 a4 a5 a6
  refine (hO _).mono ?_
  rintro e w2 ⟨rfl, hb2⟩
  have hbel2 := hbel1.trans (hb2.mono hbel1.size)
  have hX2 : Box (w2.alloc (.cells #[.int .u8 s.a, .int .u8 s.b, .int .u8 s.c, .int .u8 s.d, .int .i64 s.gl, .int .i64 s.gr, .int .i64 s.on] 26)) w2.heap.size 26 s.cells := Box.new w2 _ _
  have hbel3 := hbel2.alloc hbel2.size (.cells #[.int .u8 s.a, .int .u8 s.b, .int .u8 s.c, .int .u8 s.d, .int .i64 s.gl, .int .i64 s.gr, .int .i64 s.on] 26)
  clear hO hb2 hbel1 hA1 hbel2
  go_wp2_with fail
  refine (hC _).mono ?_
  rintro e w3 ⟨rfl, hb3⟩
  have hbel4 := hbel3.trans (hb3.mono hbel3.size)
  have hX3 := hX2.below hb3 hX2.lt
  generalize w2.heap.size = g10 at *
  clear hC hb3 hX2 hbel3
  cases hs : saneB s with
  | false =>
    go_wp2_with fail
    go_ret
    exact ⟨rfl, hbel4⟩
  | true =>
    obtain ⟨q1, q2, q3, q4⟩ := once_facts s (2 + m) (33 + x) hs (by omega) (by omega)
    have hSh := fun V => shift_c s (2 + m) V
    rw [q1, St.v_eq s] at hSh
    have hM1 := fun V hV => map_c { s with on := 2 + m } (33 + x) V hV
    rw [q2, q4] at hM1
    have hL := fun V => lock_c { s with on := 0 } (2 + m) false V
    rw [q3] at hL
    have hM3 := fun V hV => map_c { s with gl := 2 + m, on := 0 } (33 + x) V hV
    have hM2 := fun V hV => map_c { s with on := 0 } (33 + y) V hV
    generalize mapF { s with gl := 2 + m, on := 0 } (33 + x) = p at hM1 hM3
    generalize mapF { s with on := 0 } (33 + y) = q at hM2
    rw [St.v_eq (mapS { s with gl := 2 + m, on := 0 } (33 + x))] at hM3
    rw [St.v_eq (mapS { s with on := 0 } (33 + y))] at hM2
    generalize mapS { s with gl := 2 + m, on := 0 } (33 + x) = t3 at hM3
    generalize mapS { s with on := 0 } (33 + y) = t2 at hM2
    rw [St.v_eq { s with on := 2 + m }] at hSh hM1
    rw [St.v_eq { s with on := 0 }] at hM1 hL hM2
    rw [St.v_eq { s with gl := 2 + m, on := 0 }] at hL hM3
    dsimp only at hSh hM1 hL hM2 hM3
    have HM1 := Lib.hid hM1
    have HM2 := Lib.hid hM2
    have HM3 := Lib.hid hM3
    have HL := Lib.hid hL
    clear hM1 hM2 hM3 hL q1 q2 q3 q4 hs
    obtain ⟨a0, a1, a2, a3, a4, a5, a6⟩ := hX3.seven
    go_wp2_with fail
    clear a0 a1 a2 a3 a4 a5 a6
    refine (hSh _).mono ?_
    rintro e w4 ⟨rfl, hb4⟩
    have hbel5 := hbel4.trans (hb4.mono hbel4.size)
    have hX4 := (hX3.below hb4 hX3.lt).alloc (.cells #[.int .u8 s.a, .int .u8 s.b, .int .u8 s.c, .int .u8 s.d, .int .i64 s.gl, .int .i64 s.gr, .int .i64 (2 + m)] 26)
    have hT4 : Box (w4.alloc (.cells #[.int .u8 s.a, .int .u8 s.b, .int .u8 s.c, .int .u8 s.d, .int .i64 s.gl, .int .i64 s.gr, .int .i64 (2 + m)] 26)) w4.heap.size 26 (St.cells { s with on := 2 + m }) := Box.new w4 _ _
    have hbel6 := hbel5.alloc hbel5.size (.cells #[.int .u8 s.a, .int .u8 s.b, .int .u8 s.c, .int .u8 s.d, .int .i64 s.gl, .int .i64 s.gr, .int .i64 (2 + m)] 26)
    have hM := HM1.out _ (hG.below hbel6 hg)
    clear hSh hb4 hbel4 hbel5 hX3 HM1
    go_wp2_with fail
    refine hM.mono ?_
    rintro e w5 ⟨rfl, hb5⟩
    have hbel7 := hbel6.trans (hb5.mono hbel6.size)
    have hX5 := (hX4.below hb5 hX4.lt).alloc (.cells #[.int .u8 s.a, .int .u8 s.b, .int .u8 s.c, .int .u8 s.d, .int .i64 s.gl, .int .i64 s.gr, .int .i64 0] 26)
    have hU5 : Box (w5.alloc (.cells #[.int .u8 s.a, .int .u8 s.b, .int .u8 s.c, .int .u8 s.d, .int .i64 s.gl, .int .i64 s.gr, .int .i64 0] 26)) w5.heap.size 26 (St.cells { s with on := 0 }) := Box.new w5 _ _
    have hbel8 := hbel7.alloc hbel7.size (.cells #[.int .u8 s.a, .int .u8 s.b, .int .u8 s.c, .int .u8 s.d, .int .i64 s.gl, .int .i64 s.gr, .int .i64 0] 26)
    have hM := HM2.out _ (hG.below hbel8 hg)
    clear hb5 hbel6 hbel7 hX4 hT4
    go_wp2_with fail
    refine hM.mono ?_
    rintro e w6 ⟨rfl, hb6⟩
    have hbel9 := hbel8.trans (hb6.mono hbel8.size)
    have hX6 := (hX5.below hb6 hX5.lt).alloc (.cells #[.int .u8 t2.a, .int .u8 t2.b, .int .u8 t2.c, .int .u8 t2.d, .int .i64 t2.gl, .int .i64 t2.gr, .int .i64 t2.on] 26)
    have hU6 := (hU5.below hb6 hU5.lt).alloc (.cells #[.int .u8 t2.a, .int .u8 t2.b, .int .u8 t2.c, .int .u8 t2.d, .int .i64 t2.gl, .int .i64 t2.gr, .int .i64 t2.on] 26)
    have hbel10 := hbel9.alloc hbel9.size (.cells #[.int .u8 t2.a, .int .u8 t2.b, .int .u8 t2.c, .int .u8 t2.d, .int .i64 t2.gl, .int .i64 t2.gr, .int .i64 t2.on] 26)
    obtain ⟨a0, a1, a2, a3, a4, a5, a6⟩ := hU6.seven
    dsimp only at a0 a1 a2 a3 a4 a5 a6
    generalize w5.heap.size = g15 at *
    clear hM hb6 hbel8 hbel9 hX5 hU5
    go_wp2_with fail
    clear a0 a1 a2 a3 a4 a5 a6
    refine (HL.out _).mono ?_
    rintro e w7 ⟨rfl, hb7⟩
    have hbel11 := hbel10.trans (hb7.mono hbel10.size)
    have hX7 := hX6.below hb7 hX6.lt
    have hU7 := hU6.below hb7 hU6.lt
    have hM := HM3.out _ (hG.below hbel11 hg)
    clear hb7 hbel10 hX6 hU6
    go_wp2_with fail
    refine hM.mono ?_
    rintro e w8 ⟨rfl, hb8⟩
    have hbel12 := hbel11.trans (hb8.mono hbel11.size)
    have hX8 := (hX7.below hb8 hX7.lt).alloc (.cells #[.int .u8 t3.a, .int .u8 t3.b, .int .u8 t3.c, .int .u8 t3.d, .int .i64 t3.gl, .int .i64 t3.gr, .int .i64 t3.on] 26)
    have hU8 := (hU7.below hb8 hU7.lt).alloc (.cells #[.int .u8 t3.a, .int .u8 t3.b, .int .u8 t3.c, .int .u8 t3.d, .int .i64 t3.gl, .int .i64 t3.gr, .int .i64 t3.on] 26)
    have hbel13 := hbel12.alloc hbel12.size (.cells #[.int .u8 t3.a, .int .u8 t3.b, .int .u8 t3.c, .int .u8 t3.d, .int .i64 t3.gl, .int .i64 t3.gr, .int .i64 t3.on] 26)
    have hM := HM2.out _ (hG.below hbel13 hg)
    obtain ⟨a0, a1, a2, a3, a4, a5, a6⟩ := hX8.seven
    clear hb8 hbel11 hbel12 hX7 hU7
    go_wp2_with fail
    clear a0 a1 a2 a3 a4 a5 a6
    refine hM.mono ?_
    rintro e w9 ⟨rfl, hb9⟩
    have hbel14 := hbel13.trans (hb9.mono hbel13.size)
    have hX9 := (hX8.below hb9 hX8.lt).alloc (.cells #[.int .u8 t2.a, .int .u8 t2.b, .int .u8 t2.c, .int .u8 t2.d, .int .i64 t2.gl, .int .i64 t2.gr, .int .i64 t2.on] 26)
    have hU9 := (hU8.below hb9 hU8.lt).alloc (.cells #[.int .u8 t2.a, .int .u8 t2.b, .int .u8 t2.c, .int .u8 t2.d, .int .i64 t2.gl, .int .i64 t2.gr, .int .i64 t2.on] 26)
    have hbel15 := hbel14.alloc hbel14.size (.cells #[.int .u8 t2.a, .int .u8 t2.b, .int .u8 t2.c, .int .u8 t2.d, .int .i64 t2.gl, .int .i64 t2.gr, .int .i64 t2.on] 26)
    obtain ⟨a0, a1, a2, a3, a4, a5, a6⟩ := hX9.seven
    obtain ⟨u0, u1, u2, u3, u4, u5, u6⟩ := hU9.seven
    dsimp only at u0 u1 u2 u3 u4 u5 u6
    clear hM hb9 hbel13 hbel14 hX8 hU8 hX9 hU9
    have hE := eq_four s.a s.b s.c s.d
    go_wp2_with fail
    go_ret
    exact ⟨by simp, hbel15⟩
end Go.Proofs.YtmhmlfcepadabaaDoor
