/- Charset: what a letter stands for, Map, and the document's example; by contracts. -/
import Derived.Test.YtmhmlfcepadabaaDoorChC
import Derived.Laws.ResultCell
namespace Go.Proofs.YtmhmlfcepadabaaDoor
open Go Go.RowKit
set_option linter.unusedVariables false
set_option linter.unusedSimpArgs false

def getG (s : St) (n : Int) : Int := if n = 0 then s.a else if n = 1 then s.b else if n = 2 then s.c else s.d
def standsF (s : St) (r : Int) : Int := if 32 ≤ r ∧ r ≤ 127 then ofF (getG s (leftF s)) r else if 160 ≤ r ∧ r ≤ 255 then (if getG s s.gr = 66 then r else ofF (getG s s.gr) (r - 128)) else r
def mapS (s : St) (r : Int) : St := if saneB s then (if writtenB r then { s with on := 0 } else s) else newS
def mapF (s : St) (r : Int) : Int := if saneB s then standsF s r else r

theorem place_at {s : St} {n : Int} (h : placeB n = true) : ∃ k : Nat, k < 4 ∧ n = (k : Int) ∧ ∀ (w : World) (g : Nat) (t : TypeId), Box w g t s.cells → w.cell? ⟨g, k, none⟩ = some (.int .u8 (getG s n)) := by
  have hp : n = 0 ∨ n = 1 ∨ n = 2 ∨ n = 3 := by simp [placeB] at h; omega
  rcases hp with rfl | rfl | rfl | rfl
  · exact ⟨0, by omega, rfl, fun w g t h => h.cell 0⟩
  · exact ⟨1, by omega, rfl, fun w g t h => h.cell 1⟩
  · exact ⟨2, by omega, rfl, fun w g t h => h.cell 2⟩
  · exact ⟨3, by omega, rfl, fun w g t h => h.cell 3⟩
theorem sane_gr {s : St} (h : saneB s = true) : placeB s.gr = true := by simp [saneB] at h; exact h.2.2.2.2.2.1
theorem sane_left {s : St} (h : saneB s = true) : placeB (leftF s) = true := by
  simp [saneB] at h
  unfold leftF
  split
  · exact h.2.2.2.2.1
  · rename_i h0
    have := h.2.2.2.2.2.2
    simp [h0, onceB] at this
    simp [placeB]; omega
theorem stands_c (s : St) (r : Int) (w : World) (hs : saneB s = true) (hG : Gr w) : Calls Tryd.prog 19 #[s.v, .int .i64 r] w fun e w' => e = .returned (.int .i64 (standsF s r)) ∧ Below w.heap.size w w' := by
  have hL := left_c s
  have hg := hG.size
  rw [St.v_eq s] at hL ⊢
  have hA : Box (w.alloc (.cells #[.int .u8 s.a, .int .u8 s.b, .int .u8 s.c, .int .u8 s.d, .int .i64 s.gl, .int .i64 s.gr, .int .i64 s.on] 26)) w.heap.size 26 s.cells := Box.new w _ _
  have hbel := (Below.refl w.heap.size w).alloc (Nat.le_refl _) (.cells #[.int .u8 s.a, .int .u8 s.b, .int .u8 s.c, .int .u8 s.d, .int .i64 s.gl, .int .i64 s.gr, .int .i64 s.on] 26)
  have hGA := hG.below hbel hg
  by_cases h1 : 32 ≤ r
  · by_cases h2 : r ≤ 127
    · have hr : standsF s r = ofF (getG s (leftF s)) r := by unfold standsF; rw [if_pos ⟨h1, h2⟩]
      rw [hr]
      obtain ⟨k, hk, hn, hc⟩ := place_at (s := s) (sane_left hs)
      rw [hn] at hL hc ⊢
      generalize getG s (k : Int) = x at hc ⊢
      go_enter Tryd.func19, Tryd.ntmps19
      go_wp2_with fail
      refine (hL _).mono ?_
      rintro e w1 ⟨rfl, hb1⟩
      have c0 := hc _ _ _ (hA.below hb1 hA.lt)
      have hbel1 := hbel.trans (hb1.mono hbel.size)
      have hG1 := hG.below hbel1 hg
      clear hb1 hA hbel hGA hG hL hr hn hc
      have hO := of_c x r w1 hG1
      clear hG1
      go_wp2_with fail
      refine hO.mono ?_
      rintro e w2 ⟨rfl, rfl⟩
      go_wp2_with fail
      go_ret
      exact ⟨rfl, hbel1⟩
    · have hn1 : ¬ (32 ≤ r ∧ r ≤ 127) := fun h => h2 h.2
      by_cases h3 : 160 ≤ r
      · by_cases h4 : r ≤ 255
        · have hr : standsF s r = if getG s s.gr = 66 then r else ofF (getG s s.gr) (r - 128) := by unfold standsF; rw [if_neg hn1, if_pos ⟨h3, h4⟩]
          obtain ⟨k, hk, hn, hc⟩ := place_at (s := s) (sane_gr hs)
          have c0 := hc _ _ _ hA
          rw [hr]
          clear hL hr hc hn1 hA hs
          obtain ⟨sa, sb, sc, sd, sgl, sgr, son⟩ := s
          dsimp only at hn c0 hbel hGA ⊢
          subst hn
          generalize getG ⟨sa, sb, sc, sd, sgl, (k : Int), son⟩ (k : Int) = x at *
          by_cases h5 : x = 66
          · subst h5
            rw [if_pos rfl]
            go_enter Tryd.func19, Tryd.ntmps19
            go_wp2_with fail
            go_ret
            exact ⟨rfl, hbel⟩
          · have h5' : (x == 66) = false := beq_eq_false_iff_ne.2 h5
            rw [if_neg h5]
            have hO := of_c x (r - 128) _ hGA
            clear hGA hG
            go_enter Tryd.func19, Tryd.ntmps19
            go_wp2_with fail
            refine hO.mono ?_
            rintro e w2 ⟨rfl, rfl⟩
            go_wp2_with fail
            go_ret
            exact ⟨rfl, hbel⟩
        · have hr : standsF s r = r := by unfold standsF; rw [if_neg hn1, if_neg (fun h => h4 h.2)]
          rw [hr]
          clear hL hr hA hn1
          go_enter Tryd.func19, Tryd.ntmps19
          go_wp2_with fail
          go_ret
          exact ⟨rfl, hbel⟩
      · have hr : standsF s r = r := by unfold standsF; rw [if_neg hn1, if_neg (fun h => h3 h.1)]
        rw [hr]
        clear hL hr hA hn1
        go_enter Tryd.func19, Tryd.ntmps19
        go_wp2_with fail
        go_ret
        exact ⟨rfl, hbel⟩
  · have hr : standsF s r = r := by unfold standsF; rw [if_neg (fun h => h1 h.1), if_neg (fun h => h1 (by omega))]
    have h3 : ¬ 160 ≤ r := by omega
    rw [hr]
    clear hL hr hA
    go_enter Tryd.func19, Tryd.ntmps19
    go_wp2_with fail
    go_ret
    exact ⟨rfl, hbel⟩
/-- A state and a number: two results. -/
theorem ret_st2 {fn : Func} {p u : Tmp} (h : fn.results = #[.cell p 26, .tmp u]) (s : St) (tmps : Array Value) (W : World) (g : Nat) (t : TypeId) (x : Value) (hp : tmps.getD p undef = .pointer (some ⟨g, 0, none⟩)) (hx : tmps.getD u undef = x) (hg : Box W g t s.cells) :
    (results fn tmps).run Tryd.prog W = .ok (.tuple #[s.v, x]) W := by
  rw [results_cell_tmp h, hp, hx]
  have := run_loadVar_row (P := Tryd.prog) W g t 26 s.cells (0, 0) _ hg Tryd.underlying26 rfl (by kernel_rfl)
  simp [asAddr, Result.andThen, this]
  rfl
theorem map_c (s : St) (r : Int) (w : World) (hG : Gr w) : Calls Tryd.prog 10 #[s.v, .int .i64 r] w fun e w' => e = .returned (.tuple #[(mapS s r).v, .int .i64 (mapF s r)]) ∧ Below w.heap.size w w' := by
  have hC := sane_c s
  have hS := stands_c s r
  rw [St.v_eq s] at hC hS ⊢
  obtain ⟨hA, hB, hbel, hsz⟩ := two_rows w s.cells zeroC
  go_enter Tryd.func10, Tryd.ntmps10
  go_wp2_with fail
  refine (hC _).mono ?_
  rintro e w1 ⟨rfl, hb1⟩
  have hA1 : Box w1 w.heap.size 26 s.cells := hA.below hb1 hA.lt
  have hB1 : Box w1 (w.heap.size + 1) 26 zeroC := hB.below hb1 hsz
  have hbel1 : Below w.heap.size w w1 := hbel.trans (hb1.mono hbel.size)
  have hG1 := hG.below hbel1 hG.size
  clear hA hB hbel hb1 hsz hC
  cases hs : saneB s with
  | false =>
    have HS : Hid (mapS s r = newS ∧ mapF s r = r) := Lib.hid (by simp [mapS, mapF, hs])
    clear hS hG1
    go_wp2_with fail
    refine (new_c _).mono ?_
    rintro e w2 ⟨rfl, hb2⟩
    rw [newS_eq]
    have hB2 := hB1.below hb2 hB1.lt
    have hbel2 := hbel1.trans (hb2.mono hbel1.size)
    clear hb2
    obtain ⟨c0, c1, c2, c3, c4, c5, c6⟩ := hB2.cells7
    obtain ⟨f0, f1, f2, f3, f4, f5, f6⟩ := hB2.free7
    have hX := hB2.put7 hbel2 (by omega) (.int .u8 66) (.int .u8 66) (.int .u8 66) (.int .u8 66) (.int .i64 0) (.int .i64 2) (.int .i64 0)
    have HX := Lib.hid hX
    clear hX hB2
    go_wp2_with fail
    exact bodyPost_ret (ret_st2 rfl newS _ _ (w.heap.size + 1) _ _ rfl rfl HX.out.1) rfl ⟨by rw [HS.out.1, HS.out.2]; rfl, HX.out.2⟩
  | true =>
    have hS1 := hS w1 hs hG1
    have HF : Hid (mapF s r = standsF s r) := Lib.hid (by simp [mapF, hs])
    clear hS hG1
    obtain ⟨a0, a1, a2, a3, a4, a5, a6⟩ := hA1.seven
    go_wp2_with fail
    refine hS1.mono ?_
    rintro e w2 ⟨rfl, hb2⟩
    clear hS1 a0 a1 a2 a3 a4 a5 a6
    have hA2 : Box w2 w.heap.size 26 s.cells := hA1.below hb2 hA1.lt
    have hB2 : Box w2 (w.heap.size + 1) 26 zeroC := hB1.below hb2 hB1.lt
    have hbel2 := hbel1.trans (hb2.mono hbel1.size)
    clear hA1 hB1 hb2 hbel1
    go_wp2_with fail
    refine (isWritten_c r _).mono ?_
    rintro e w3 ⟨rfl, rfl⟩
    obtain ⟨a0, a1, a2, a3, a4, a5, a6⟩ := hA2.seven
    have ff := hA2.free 6
    obtain ⟨c0, c1, c2, c3, c4, c5, c6⟩ := hB2.cells7
    obtain ⟨f0, f1, f2, f3, f4, f5, f6⟩ := hB2.free7
    cases ho : writtenB r with
    | false =>
      have HM : Hid (mapS s r = s) := Lib.hid (by simp [mapS, hs, ho])
      have hX := hB2.put7 hbel2 (by omega) (.int .u8 s.a) (.int .u8 s.b) (.int .u8 s.c) (.int .u8 s.d) (.int .i64 s.gl) (.int .i64 s.gr) (.int .i64 s.on)
      have HX := Lib.hid hX
      clear hX hA2 hB2
      go_wp2_with fail
      exact bodyPost_ret (ret_st2 rfl s _ _ (w.heap.size + 1) _ _ rfl rfl HX.out.1) rfl ⟨by rw [HM.out, HF.out]; rfl, HX.out.2⟩
    | true =>
      have HM : Hid (mapS s r = { s with on := 0 }) := Lib.hid (by simp [mapS, hs, ho])
      have hb9 := hbel2.setCell (p := ⟨w.heap.size, 6, none⟩) (Nat.le_refl _) (.int .i64 0)
      have hX := (hB2.far (p := ⟨w.heap.size, 6, none⟩) (by simp) (.int .i64 0)).put7 hb9 (by omega) (.int .u8 s.a) (.int .u8 s.b) (.int .u8 s.c) (.int .u8 s.d) (.int .i64 s.gl) (.int .i64 s.gr) (.int .i64 0)
      have HX := Lib.hid hX
      clear hX hA2 hB2 hb9
      go_wp2_with fail
      exact bodyPost_ret (ret_st2 rfl { s with on := 0 } _ _ (w.heap.size + 1) _ _ rfl rfl HX.out.1) rfl ⟨by rw [HM.out, HF.out]; rfl, HX.out.2⟩
end Go.Proofs.YtmhmlfcepadabaaDoor
