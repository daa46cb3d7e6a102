/- Package pen: flags set, colours and what they are of, one number's colour, whether a pen may be. -/
import Derived.Test.YtlcnlfjjglcobaaDoorPartsL7
namespace Go.Proofs.YtlcnlfjjglcobaaDoor
open Go Go.RowKit
set_option linter.unusedVariables false
set_option linter.unusedSimpArgs false

theorem and_255' (r : Int) : bits .and .i64 r 255 = r % 256 := and_low r 8 (by decide)
theorem ret_pen {fn : Func} {p : Tmp} (h : fn.results = #[.cell p 23]) (q : Pn) (tmps : Array Value) (W : World) (g : Nat) (t : TypeId) (hp : tmps.getD p undef = .pointer (some ⟨g, 0, none⟩)) (hg : Box W g t #[.int .i64 q.fg, .int .i64 q.bg, .int .i64 q.fl]) :
    (results fn tmps).run Tryd.prog W = .ok (pnV q) W :=
  results_cell_row h tmps W g t #[.int .i64 q.fg, .int .i64 q.bg, .int .i64 q.fl] (0, 0) _ hp hg Tryd.underlying23 rfl (by kernel_rfl)
theorem with_c (f b : Int) (w : World) : Calls Tryd.prog 34 #[.int .i64 f, .int .i64 b] w fun e w' => e = .returned (.int .i64 (withC f b)) ∧ w = w' := by
  unfold withC
  by_cases h : bits .and .i64 b 264 = 0
  · have h1 : (bits .and .i64 b 264 != 0) = false := by rw [h]; rfl
    rw [if_pos h]
    clear h
    go_enter Tryd.func34, Tryd.ntmps34
    go_wp2
    go_ret
    exact ⟨rfl, rfl⟩
  · have h1 : (bits .and .i64 b 264 != 0) = true := bne_iff_ne.2 h
    rw [if_neg h]
    clear h
    go_enter Tryd.func34, Tryd.ntmps34
    go_wp2
    go_ret
    exact ⟨rfl, rfl⟩
theorem under_c (f s : Int) (w : World) : Calls Tryd.prog 23 #[.int .i64 f, .int .i64 s] w fun e w' => e = .returned (.int .i64 (underC f s)) ∧ w = w' := by
  unfold underC
  by_cases h0 : s = 0
  · subst h0
    rw [if_pos rfl]
    go_enter Tryd.func23, Tryd.ntmps23
    go_wp2
    go_ret
    exact ⟨rfl, rfl⟩
  · rw [if_neg h0]
    have h1 : (s == 0) = false := beq_eq_false_iff_ne.2 h0
    clear h0
    by_cases h2 : s = 2
    · subst h2
      rw [if_pos rfl]
      go_enter Tryd.func23, Tryd.ntmps23
      go_wp2_with fail
      refine (with_c f 256 w).mono ?_
      rintro e w' ⟨rfl, rfl⟩
      go_wp2
      go_ret
      exact ⟨rfl, rfl⟩
    · rw [if_neg h2]
      have h3 : (s == 2) = false := beq_eq_false_iff_ne.2 h2
      clear h2
      go_enter Tryd.func23, Tryd.ntmps23
      go_wp2_with fail
      refine (with_c f 8 w).mono ?_
      rintro e w' ⟨rfl, rfl⟩
      go_wp2
      go_ret
      exact ⟨rfl, rfl⟩
theorem octet_c (n : Int) (w : World) : Calls Tryd.prog 20 #[.int .i64 n] w fun e w' => e = .returned (.int .i64 (clampN n)) ∧ w = w' := by
  unfold clampN
  go_enter Tryd.func20, Tryd.ntmps20
  go_wp2
  all_goals
    go_ret
    exact ⟨ret_int (by omega), rfl⟩
theorem clamp_range (n : Int) : 0 ≤ clampN n ∧ clampN n ≤ 255 := by unfold clampN; omega
theorem rgb7_c : RGB7C := by
  intro r g b w hr hg hb
  unfold rgbN
  have h1 := clamp_range r
  have h2 := clamp_range g
  have h3 := clamp_range b
  have c1 := fun V : World => octet_c r V
  have c2 := fun V : World => octet_c g V
  have c3 := fun V : World => octet_c b V
  generalize clampN r = x at *
  generalize clampN g = y at *
  generalize clampN b = z at *
  obtain ⟨x0, x1⟩ := h1
  obtain ⟨y0, y1⟩ := h2
  obtain ⟨z0, z1⟩ := h3
  go_enter Tryd.func14, Tryd.ntmps14
  go_wp2_with fail
  refine (c1 w).mono ?_
  rintro e w' ⟨rfl, rfl⟩
  go_wp2_with fail
  refine (c2 w).mono ?_
  rintro e w' ⟨rfl, rfl⟩
  go_wp2_with fail
  refine (c3 w).mono ?_
  rintro e w' ⟨rfl, rfl⟩
  go_wp2
  go_ret
  exact ⟨rfl, Below.refl _ _⟩
theorem results_four {fn : Func} {t u v x : Tmp} (h : fn.results = #[.tmp t, .tmp u, .tmp v, .tmp x]) (tmps : Array Value) (P : Program) (w : World) :
    (results fn tmps).run P w = .ok (.tuple #[tmps.getD t undef, tmps.getD u undef, tmps.getD v undef, tmps.getD x undef]) w := by
  simp [results, h, go_sem]
theorem parts_s (c : Int) (w : World) (hc : I64 c) : Calls Tryd.prog 15 #[.int .i64 c] w fun e w' => e = .returned (.tuple #[.int .i64 (partsN c).1, .int .i64 (partsN c).2.1, .int .i64 (partsN c).2.2.1, .int .i64 (partsN c).2.2.2]) ∧ w = w' := by
  unfold I64 at hc
  obtain ⟨hc0, hc1⟩ := hc
  have a1 := and_255' c
  have a2 := and_255' (c / 65536)
  have a3 := and_255' (c / 256)
  unfold partsN
  by_cases h0 : c = 0
  · subst h0
    rw [if_pos rfl]
    go_enter Tryd.func15, Tryd.ntmps15
    go_wp2
    refine bodyPost_ret (results_four rfl _ _ _) rfl ?_
    exact ⟨rfl, rfl⟩
  · rw [if_neg h0]
    have z0 : (c == 0) = false := beq_eq_false_iff_ne.2 h0
    by_cases h1 : 1 ≤ c ∧ c ≤ 256
    · rw [if_pos h1]
      obtain ⟨k0, k1⟩ := h1
      go_enter Tryd.func15, Tryd.ntmps15
      go_wp2
      refine bodyPost_ret (results_four rfl _ _ _) rfl ?_
      exact ⟨rfl, rfl⟩
    · rw [if_neg h1]
      by_cases h2 : 16777216 ≤ c ∧ c < 33554432
      · rw [if_pos h2]
        obtain ⟨k0, k1⟩ := h2
        have k2 : ¬ c ≤ 256 := by omega
        go_enter Tryd.func15, Tryd.ntmps15
        go_wp2
        refine bodyPost_ret (results_four rfl _ _ _) rfl ?_
        exact ⟨rfl, rfl⟩
      · rw [if_neg h2]
        rcases (show c < 1 ∨ (256 < c ∧ (c < 16777216 ∨ 33554432 ≤ c)) by omega) with k | ⟨k, k | k⟩
        all_goals
          go_enter Tryd.func15, Tryd.ntmps15
          go_wp2
          refine bodyPost_ret (results_four rfl _ _ _) rfl ?_
          exact ⟨rfl, rfl⟩
theorem parts7_c : Parts7C := fun c w hc => (parts_s c w hc).mono fun _ _ ⟨he, hw⟩ => ⟨he, hw ▸ Below.refl _ _⟩
theorem isCol_c (c : Int) (hc : I64 c) (w : World) : Calls Tryd.prog 17 #[.int .i64 c] w fun e w' => e = .returned (.bool (decide (ColOk c))) ∧ w = w' := by
  have h := parts_s c w hc
  have e1 : decide (ColOk c) = ((partsN c).1 != 3) := by
    by_cases k : ColOk c
    · rw [decide_eq_true k]; exact (bne_iff_ne.2 ((parts_ok c).1 k)).symm
    · rw [decide_eq_false k]
      have : (partsN c).1 = 3 := by
        by_cases k2 : (partsN c).1 = 3
        · exact k2
        · exact absurd ((parts_ok c).2 k2) k
      rw [this]; rfl
  rw [e1]
  clear e1
  generalize (partsN c).1 = a at *
  generalize (partsN c).2.1 = b at *
  generalize (partsN c).2.2.1 = d at *
  generalize (partsN c).2.2.2 = f at *
  go_enter Tryd.func17, Tryd.ntmps17
  go_wp2_with fail
  refine h.mono ?_
  rintro e w' ⟨rfl, rfl⟩
  clear h
  go_wp2
  go_ret
  exact ⟨rfl, rfl⟩
theorem ground_c (n : Int) (w : World) : Calls Tryd.prog 35 #[.int .i64 n] w fun e w' => e = .returned (.bool (ground7B n)) ∧ w = w' := by
  rcases (show n < 40 ∨ (40 ≤ n ∧ n ≤ 49) ∨ (49 < n ∧ n < 100) ∨ (100 ≤ n ∧ n < 108) ∨ 108 ≤ n by omega) with k | ⟨k, k'⟩ | ⟨k, k'⟩ | ⟨k, k'⟩ | k
  · have e : ground7B n = false := by unfold ground7B; exact decide_eq_false (by omega)
    have z1 : ¬ 40 ≤ n := by omega
    have z2 : ¬ 100 ≤ n := by omega
    rw [e]; clear e
    go_enter Tryd.func35, Tryd.ntmps35
    go_wp2
    go_ret
    exact ⟨rfl, rfl⟩
  · have e : ground7B n = true := by unfold ground7B; exact decide_eq_true (by omega)
    rw [e]; clear e
    go_enter Tryd.func35, Tryd.ntmps35
    go_wp2
    go_ret
    exact ⟨rfl, rfl⟩
  · have e : ground7B n = false := by unfold ground7B; exact decide_eq_false (by omega)
    have z1 : ¬ n ≤ 49 := by omega
    have z2 : ¬ 100 ≤ n := by omega
    rw [e]; clear e
    go_enter Tryd.func35, Tryd.ntmps35
    go_wp2
    go_ret
    exact ⟨rfl, rfl⟩
  · have e : ground7B n = true := by unfold ground7B; exact decide_eq_true (by omega)
    have z1 : ¬ n ≤ 49 := by omega
    rw [e]; clear e
    go_enter Tryd.func35, Tryd.ntmps35
    go_wp2
    go_ret
    exact ⟨rfl, rfl⟩
  · have e : ground7B n = false := by unfold ground7B; exact decide_eq_false (by omega)
    have z1 : ¬ n ≤ 49 := by omega
    have z2 : ¬ n < 108 := by omega
    rw [e]; clear e
    go_enter Tryd.func35, Tryd.ntmps35
    go_wp2
    go_ret
    exact ⟨rfl, rfl⟩
theorem plain_cases (m : Int) : (30 ≤ m ∧ m < 38) ∨ (¬ (30 ≤ m ∧ m < 38) ∧ 90 ≤ m ∧ m < 98) ∨ m = 39 ∨ m < 30 ∨ m = 38 ∨ (39 < m ∧ m < 90) ∨ 98 ≤ m := by omega
def valC (m : Int) : Int × Bool := if 30 ≤ m ∧ m < 38 then (m - 29, true) else if 90 ≤ m ∧ m < 98 then (m - 81, true) else (0, decide (m = 39))
theorem plain_val (n : Int) : plainC n = valC (baseC n) := rfl
def PlainR (n : Int) (e : Ending) : Prop := e = .returned (.tuple #[.int .i64 (plainC n).1, .bool (plainC n).2])
theorem plainR_of {n m : Int} {a : Int} {b : Bool} (h : baseC n = m) (hv : valC m = (a, b)) : PlainR n (.returned (.tuple #[.int .i64 a, .bool b])) := by
  unfold PlainR
  rw [plain_val, h, hv]
theorem plain_c (n : Int) (hn : I64 n) (w : World) : Calls Tryd.prog 24 #[.int .i64 n] w fun e w' => PlainR n e ∧ w = w' := by
  unfold I64 at hn
  obtain ⟨hn0, hn1⟩ := hn
  have hg := fun V : World => ground_c n V
  cases hb : ground7B n with
  | true =>
    rw [hb] at hg
    have HB := Lib.hid (show baseC n = n - 10 by unfold baseC; rw [if_pos hb])
    unfold ground7B at hb
    rw [decide_eq_true_eq] at hb
    obtain ⟨m, rfl⟩ : ∃ m, n = m + 10 := ⟨n - 10, by omega⟩
    rw [show m + 10 - 10 = m from by omega] at HB
    have hm : 30 ≤ m ∧ m < 98 := by omega
    obtain ⟨hm0, hm1⟩ := hm
    have zm : wrap64 (m + 10 - 10) = m := by unfold wrap64; omega
    have zi : IntKind.i64.wrap (m + 10 - 10) = m := by rw [IntKind.wrap_i64]; omega
    have zs : m + 10 - 10 = m := by omega
    go_enter Tryd.func24, Tryd.ntmps24
    go_wp2_with fail
    refine (hg w).mono ?_
    rintro e w' ⟨rfl, rfl⟩
    clear hg
    rcases (show (30 ≤ m ∧ m < 38) ∨ (¬ m < 38 ∧ 90 ≤ m ∧ m < 98) ∨ m = 39 ∨ m = 38 by omega) with k | k | k | k
    · obtain ⟨k0, k1⟩ := k
      go_wp2
      go_ret2
      exact ⟨plainR_of HB.out (by unfold valC; rw [if_pos ⟨k0, k1⟩]; simp only [Prod.mk.injEq, and_true]; omega), rfl⟩
    · obtain ⟨k2, k0, k1⟩ := k
      go_wp2
      go_ret2
      exact ⟨plainR_of HB.out (by unfold valC; rw [if_neg (by omega), if_pos ⟨k0, k1⟩]; simp only [Prod.mk.injEq, and_true]; omega), rfl⟩
    · subst k
      go_wp2
      go_ret2
      exact ⟨plainR_of HB.out (by decide), rfl⟩
    · subst k
      go_wp2
      go_ret2
      exact ⟨plainR_of HB.out (by decide), rfl⟩
  | false =>
    rw [hb] at hg
    have HB := Lib.hid (show baseC n = n by unfold baseC; rw [if_neg (by rw [hb]; simp)])
    clear hb
    go_enter Tryd.func24, Tryd.ntmps24
    go_wp2_with fail
    refine (hg w).mono ?_
    rintro e w' ⟨rfl, rfl⟩
    clear hg
    rcases (show (30 ≤ n ∧ n < 38) ∨ (¬ n < 38 ∧ 90 ≤ n ∧ n < 98) ∨ n = 39 ∨ n < 30 ∨ ((¬ n = 39 ∧ ¬ n < 38) ∧ n < 90) ∨ (¬ n < 98) by omega) with k | k | k | k | k | k
    · obtain ⟨k0, k1⟩ := k
      go_wp2
      go_ret2
      exact ⟨plainR_of HB.out (by unfold valC; rw [if_pos ⟨k0, k1⟩]; simp only [Prod.mk.injEq, and_true]; omega), rfl⟩
    · obtain ⟨k2, k0, k1⟩ := k
      go_wp2
      go_ret2
      exact ⟨plainR_of HB.out (by unfold valC; rw [if_neg (by omega), if_pos ⟨k0, k1⟩]; simp only [Prod.mk.injEq, and_true]; omega), rfl⟩
    · subst k
      go_wp2
      go_ret2
      exact ⟨plainR_of HB.out (by decide), rfl⟩
    · have z1 : ¬ 30 ≤ n := by omega
      have z2 : ¬ 90 ≤ n := by omega
      have z3 : (n == 39) = false := beq_eq_false_iff_ne.2 (by omega)
      go_wp2
      go_ret2
      exact ⟨plainR_of HB.out (by unfold valC; rw [if_neg (by omega), if_neg (by omega), decide_eq_false (by omega)]), rfl⟩
    · obtain ⟨⟨k0, k1⟩, k2⟩ := k
      have z2 : ¬ 90 ≤ n := by omega
      have z3 : (n == 39) = false := beq_eq_false_iff_ne.2 (by omega)
      go_wp2
      go_ret2
      exact ⟨plainR_of HB.out (by unfold valC; rw [if_neg (by omega), if_neg (by omega), decide_eq_false (by omega)]), rfl⟩
    · have z1 : ¬ n < 38 := by omega
      have z3 : (n == 39) = false := beq_eq_false_iff_ne.2 (by omega)
      go_wp2
      go_ret2
      exact ⟨plainR_of HB.out (by unfold valC; rw [if_neg (by omega), if_neg (by omega), decide_eq_false (by omega)]), rfl⟩
theorem box_second (w : World) (o : Obj) (cs : Array Value) : Box ((w.alloc o).alloc (.cells cs 23)) (w.heap.size + 1) 23 cs := by
  have h := Box.new (w.alloc o) 23 cs
  simpa using h
theorem painted_c (p : Pn) (n c : Int) (w : World) : Calls Tryd.prog 25 #[pnV p, .int .i64 n, .int .i64 c] w fun e w' => e = .returned (pnV (paintC p n c)) ∧ Below w.heap.size w w' := by
  obtain ⟨a, b, f⟩ := p
  have v1 : pnV ⟨a, b, f⟩ = .agg #[.int .i64 a, .int .i64 b, .int .i64 f] := rfl
  have hg := fun V : World => ground_c n V
  have b1 : Below w.heap.size w (w.alloc (.cells #[.int .i64 a, .int .i64 b, .int .i64 f] 23)) := (Below.refl _ _).alloc (Nat.le_refl _) _
  rw [v1]
  unfold paintC
  cases hb : ground7B n with
  | true =>
    rw [hb] at hg
    rw [if_pos rfl]
    clear hb
    go_enter Tryd.func25, Tryd.ntmps25
    go_wp2_with fail
    refine (hg _).mono ?_
    rintro e w' ⟨rfl, rfl⟩
    go_wp2_with fail
    exact bodyPost_ret (ret_pen rfl ⟨a, c, f⟩ _ _ _ _ rfl (box_second w _ _)) rfl ⟨rfl, ((Below.refl _ _).alloc (Nat.le_refl _) _).alloc (by simp) _⟩
  | false =>
    rw [hb] at hg
    rw [if_neg (by simp)]
    clear hb
    go_enter Tryd.func25, Tryd.ntmps25
    go_wp2_with fail
    refine (hg _).mono ?_
    rintro e w' ⟨rfl, rfl⟩
    go_wp2_with fail
    exact bodyPost_ret (ret_pen rfl ⟨c, b, f⟩ _ _ _ _ rfl (box_second w _ _)) rfl ⟨rfl, ((Below.refl _ _).alloc (Nat.le_refl _) _).alloc (by simp) _⟩
theorem sane7_c : Sane7C := by
  intro p w hok
  obtain ⟨a, b, f⟩ := p
  have v1 : pnV ⟨a, b, f⟩ = .agg #[.int .i64 a, .int .i64 b, .int .i64 f] := rfl
  obtain ⟨i0, i1, i2⟩ := hok
  simp only at i0 i1 i2
  have b1 : Below w.heap.size w (w.alloc (.cells #[.int .i64 a, .int .i64 b, .int .i64 f] 23)) := (Below.refl _ _).alloc (Nat.le_refl _) _
  have c1 := isCol_c a i0 (w.alloc (.cells #[.int .i64 a, .int .i64 b, .int .i64 f] 23))
  have c2 := isCol_c b i1 (w.alloc (.cells #[.int .i64 a, .int .i64 b, .int .i64 f] 23))
  rw [v1]
  by_cases h1 : ColOk a
  · rw [decide_eq_true h1] at c1
    by_cases h2 : ColOk b
    · rw [decide_eq_true h2] at c2
      have e : decide (SaneN ⟨a, b, f⟩) = decide (0 ≤ f ∧ f ≤ 511) := by
        refine decide_eq_decide.2 ⟨fun h => h.2.2, fun h => ⟨h1, h2, h.1, h.2⟩⟩
      rw [e]
      clear e h1 h2
      rcases (show (0 ≤ f ∧ f ≤ 511) ∨ f < 0 ∨ (0 ≤ f ∧ 511 < f) by omega) with ⟨k0, k1⟩ | k0 | ⟨k0, k1⟩
      · rw [decide_eq_true ⟨k0, k1⟩]
        go_enter Tryd.func9, Tryd.ntmps9
        go_wp2_with fail
        refine c1.mono ?_
        rintro e w' ⟨rfl, rfl⟩
        go_wp2_with fail
        refine c2.mono ?_
        rintro e w' ⟨rfl, rfl⟩
        go_wp2
        go_ret
        exact ⟨rfl, b1⟩
      · rw [decide_eq_false (by omega)]
        have z0 : ¬ 0 ≤ f := by omega
        go_enter Tryd.func9, Tryd.ntmps9
        go_wp2_with fail
        refine c1.mono ?_
        rintro e w' ⟨rfl, rfl⟩
        go_wp2_with fail
        refine c2.mono ?_
        rintro e w' ⟨rfl, rfl⟩
        go_wp2
        go_ret
        exact ⟨rfl, b1⟩
      · rw [decide_eq_false (by omega)]
        have z0 : ¬ f ≤ 511 := by omega
        go_enter Tryd.func9, Tryd.ntmps9
        go_wp2_with fail
        refine c1.mono ?_
        rintro e w' ⟨rfl, rfl⟩
        go_wp2_with fail
        refine c2.mono ?_
        rintro e w' ⟨rfl, rfl⟩
        go_wp2
        go_ret
        exact ⟨ret_bool (decide_eq_false (by omega)), b1⟩
    · rw [decide_eq_false h2] at c2
      have e : decide (SaneN ⟨a, b, f⟩) = false := decide_eq_false fun h => h2 h.2.1
      rw [e]
      clear e h1 h2
      go_enter Tryd.func9, Tryd.ntmps9
      go_wp2_with fail
      refine c1.mono ?_
      rintro e w' ⟨rfl, rfl⟩
      go_wp2_with fail
      refine c2.mono ?_
      rintro e w' ⟨rfl, rfl⟩
      go_wp2
      go_ret
      exact ⟨rfl, b1⟩
  · rw [decide_eq_false h1] at c1
    have e : decide (SaneN ⟨a, b, f⟩) = false := decide_eq_false fun h => h1 h.1
    rw [e]
    clear e h1 c2
    go_enter Tryd.func9, Tryd.ntmps9
    go_wp2_with fail
    refine c1.mono ?_
    rintro e w' ⟨rfl, rfl⟩
    go_wp2
    go_ret
    exact ⟨rfl, b1⟩
end Go.Proofs.YtlcnlfjjglcobaaDoor
