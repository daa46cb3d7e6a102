/- Charset: a state, whether it may be, which place is used; by contracts. -/
import Derived.Test.YtmhmlfcepadabaaDoorChA
namespace Go.Proofs.YtmhmlfcepadabaaDoor
open Go Go.RowKit
set_option linter.unusedVariables false
set_option linter.unusedSimpArgs false

/-- A state: four final bytes, two places, and the place for the next letter alone. -/
structure St where
  a : Int
  b : Int
  c : Int
  d : Int
  gl : Int
  gr : Int
  on : Int
def St.cells (s : St) : Array Value := #[.int .u8 s.a, .int .u8 s.b, .int .u8 s.c, .int .u8 s.d, .int .i64 s.gl, .int .i64 s.gr, .int .i64 s.on]
def St.v (s : St) : Value := .agg s.cells
def newS : St := ⟨66, 66, 66, 66, 0, 2, 0⟩
def saneB (s : St) : Bool := setB s.a && (setB s.b && (setB s.c && (setB s.d && (placeB s.gl && (placeB s.gr && (decide (s.on = 0) || onceB s.on))))))
def leftF (s : St) : Int := if s.on = 0 then s.gl else s.on

theorem ret_st {fn : Func} {p : Tmp} (h : fn.results = #[.cell p 26]) (s : St) (tmps : Array Value) (W : World) (g : Nat) (t : TypeId) (hp : tmps.getD p undef = .pointer (some ⟨g, 0, none⟩)) (hg : Box W g t s.cells) :
    (results fn tmps).run Tryd.prog W = .ok s.v W :=
  results_cell_row h tmps W g t s.cells (0, 0) _ hp hg Tryd.underlying26 rfl (by kernel_rfl)
theorem new_c (w : World) : Calls Tryd.prog 12 #[] w fun e w' => e = .returned newS.v ∧ Below w.heap.size w w' := by
  go_enter Tryd.func12, Tryd.ntmps12
  go_wp2
  exact bodyPost_ret (ret_st rfl newS _ _ w.heap.size _ rfl (Box.new w _ newS.cells)) rfl ⟨rfl, (Below.refl _ _).alloc (Nat.le_refl _) _⟩
theorem left_c (s : St) (w : World) : Calls Tryd.prog 22 #[s.v] w fun e w' => e = .returned (.int .i64 (leftF s)) ∧ Below w.heap.size w w' := by
  unfold St.v St.cells
  by_cases h1 : s.on = 0
  · go_enter Tryd.func22, Tryd.ntmps22
    go_wp2
    go_ret
    exact ⟨by simp [leftF, h1], (Below.refl _ _).alloc (Nat.le_refl _) _⟩
  · have e1 : (s.on == 0) = false := beq_eq_false_iff_ne.2 h1
    go_enter Tryd.func22, Tryd.ntmps22
    go_wp2
    go_ret
    exact ⟨by simp [leftF, h1], (Below.refl _ _).alloc (Nat.le_refl _) _⟩
theorem sane_c (s : St) (w : World) : Calls Tryd.prog 8 #[s.v] w fun e w' => e = .returned (.bool (saneB s)) ∧ Below w.heap.size w w' := by
  unfold St.v St.cells
  have hal := (Below.refl w.heap.size w).alloc (Nat.le_refl _) (.cells #[.int .u8 s.a, .int .u8 s.b, .int .u8 s.c, .int .u8 s.d, .int .i64 s.gl, .int .i64 s.gr, .int .i64 s.on] 26)
  go_enter Tryd.func8, Tryd.ntmps8
  go_wp2_with fail
  go_loopw [7] (fun iv wr => ∃ k : Nat, k ≤ 4 ∧ iv = .int .i64 (k : Int) ∧ wr = w.alloc (.cells #[.int .u8 s.a, .int .u8 s.b, .int .u8 s.c, .int .u8 s.d, .int .i64 s.gl, .int .i64 s.gr, .int .i64 s.on] 26) ∧ Hid (∀ c ∈ ([s.a, s.b, s.c, s.d] : List Int).take k, setB c = true)) (fun iv _ => 4 - (intOf iv).toNat)
  case atStart => exact ⟨0, by omega, rfl, rfl, Lib.hid (by simp)⟩
  case round =>
    obtain ⟨k, hk, rfl, rfl, HA⟩ := hrel
    have step : ∀ (j : Nat) (c : Int), ([s.a, s.b, s.c, s.d] : List Int)[j]? = some c → (∀ c ∈ ([s.a, s.b, s.c, s.d] : List Int).take j, setB c = true) → setB c = true → Hid (∀ c ∈ ([s.a, s.b, s.c, s.d] : List Int).take (j + 1), setB c = true) := by
      intro j c hj h1 h2
      refine Lib.hid ?_
      rw [take_snoc hj]
      intro x hx
      rcases List.mem_append.1 hx with hx | hx
      · exact h1 x hx
      · simp at hx; subst hx; exact h2
    have fin : ∀ (j : Nat) (c : Int), ([s.a, s.b, s.c, s.d] : List Int)[j]? = some c → setB c = false → saneB s = false := by
      intro j c hj h1
      match j, hj with
      | 0, hj => simp at hj; subst hj; simp [saneB, h1]
      | 1, hj => simp at hj; subst hj; simp [saneB, h1]
      | 2, hj => simp at hj; subst hj; simp [saneB, h1]
      | 3, hj => simp at hj; subst hj; simp [saneB, h1]
      | j + 4, hj => simp at hj
    match k, hk with
    | 0, _ =>
      have hix : ∀ V, (Instr.index 22 (.agg #[.int .u8 s.a, .int .u8 s.b, .int .u8 s.c, .int .u8 s.d]) (.int .i64 0)).run Tryd.prog V = .ok (.int .u8 s.a) V := fun V => by kernel_rfl
      have st := step 0 s.a rfl HA.out
      have fi := fin 0 s.a rfl
      have HS := Lib.hid (And.intro st fi)
      clear step fin HA st fi
      go_wp2_with fail
      refine (isSet_c s.a _).mono ?_
      rintro e w1 ⟨rfl, rfl⟩
      cases hs : setB s.a with
      | true =>
        go_wp2_with fail
        exact ⟨⟨1, by omega, by first | trivial | rfl | go_num, by first | trivial | rfl, HS.out.1 hs⟩, by simp [intOf]⟩
      | false =>
        go_wp2_with fail
        go_ret
        exact ⟨by rw [HS.out.2 hs]; rfl, hal⟩
    | 1, _ =>
      have hix : ∀ V, (Instr.index 22 (.agg #[.int .u8 s.a, .int .u8 s.b, .int .u8 s.c, .int .u8 s.d]) (.int .i64 1)).run Tryd.prog V = .ok (.int .u8 s.b) V := fun V => by kernel_rfl
      have st := step 1 s.b rfl HA.out
      have fi := fin 1 s.b rfl
      have HS := Lib.hid (And.intro st fi)
      clear step fin HA st fi
      go_wp2_with fail
      refine (isSet_c s.b _).mono ?_
      rintro e w1 ⟨rfl, rfl⟩
      cases hs : setB s.b with
      | true =>
        go_wp2_with fail
        exact ⟨⟨2, by omega, by first | trivial | rfl | go_num, by first | trivial | rfl, HS.out.1 hs⟩, by simp [intOf]⟩
      | false =>
        go_wp2_with fail
        go_ret
        exact ⟨by rw [HS.out.2 hs]; rfl, hal⟩
    | 2, _ =>
      have hix : ∀ V, (Instr.index 22 (.agg #[.int .u8 s.a, .int .u8 s.b, .int .u8 s.c, .int .u8 s.d]) (.int .i64 2)).run Tryd.prog V = .ok (.int .u8 s.c) V := fun V => by kernel_rfl
      have st := step 2 s.c rfl HA.out
      have fi := fin 2 s.c rfl
      have HS := Lib.hid (And.intro st fi)
      clear step fin HA st fi
      go_wp2_with fail
      refine (isSet_c s.c _).mono ?_
      rintro e w1 ⟨rfl, rfl⟩
      cases hs : setB s.c with
      | true =>
        go_wp2_with fail
        exact ⟨⟨3, by omega, by first | trivial | rfl | go_num, by first | trivial | rfl, HS.out.1 hs⟩, by simp [intOf]⟩
      | false =>
        go_wp2_with fail
        go_ret
        exact ⟨by rw [HS.out.2 hs]; rfl, hal⟩
    | 3, _ =>
      have hix : ∀ V, (Instr.index 22 (.agg #[.int .u8 s.a, .int .u8 s.b, .int .u8 s.c, .int .u8 s.d]) (.int .i64 3)).run Tryd.prog V = .ok (.int .u8 s.d) V := fun V => by kernel_rfl
      have st := step 3 s.d rfl HA.out
      have fi := fin 3 s.d rfl
      have HS := Lib.hid (And.intro st fi)
      clear step fin HA st fi
      go_wp2_with fail
      refine (isSet_c s.d _).mono ?_
      rintro e w1 ⟨rfl, rfl⟩
      cases hs : setB s.d with
      | true =>
        go_wp2_with fail
        exact ⟨⟨4, by omega, by first | trivial | rfl | go_num, by first | trivial | rfl, HS.out.1 hs⟩, by simp [intOf]⟩
      | false =>
        go_wp2_with fail
        go_ret
        exact ⟨by rw [HS.out.2 hs]; rfl, hal⟩
    | 4, _ =>
      have hr : saneB s = (placeB s.gl && (placeB s.gr && (decide (s.on = 0) || onceB s.on))) := by
        have h := HA.out
        unfold saneB
        rw [h s.a (by simp), h s.b (by simp), h s.c (by simp), h s.d (by simp)]
        rfl
      have HR := Lib.hid hr
      clear step fin HA hr
      go_wp2_with fail
      refine (isPlace_c s.gl _).mono ?_
      rintro e w1 ⟨rfl, rfl⟩
      cases h1 : placeB s.gl with
      | false =>
        go_wp2_with fail
        go_ret
        exact ⟨by rw [HR.out, h1]; rfl, hal⟩
      | true =>
        go_wp2_with fail
        refine (isPlace_c s.gr _).mono ?_
        rintro e w1 ⟨rfl, rfl⟩
        cases h2 : placeB s.gr with
        | false =>
          go_wp2_with fail
          go_ret
          exact ⟨by rw [HR.out, h1, h2]; rfl, hal⟩
        | true =>
          by_cases h3 : s.on = 0
          · go_wp2_with fail
            go_ret
            exact ⟨by rw [HR.out, h1, h2, decide_eq_true h3]; rfl, (Below.refl _ _).alloc (Nat.le_refl _) _⟩
          · have e3 : (s.on == 0) = false := beq_eq_false_iff_ne.2 h3
            go_wp2_with fail
            refine (isOnce_c s.on _).mono ?_
            rintro e w1 ⟨rfl, rfl⟩
            go_wp2_with fail
            go_ret
            exact ⟨by rw [HR.out, h1, h2, decide_eq_false h3]; rfl, hal⟩
end Go.Proofs.YtmhmlfcepadabaaDoor
