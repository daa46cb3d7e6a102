/- Package pen: a colour by several numbers. -/
import Derived.Test.YtlcnlfjjglcobaaDoorPen7b
namespace Go.Proofs.YtlcnlfjjglcobaaDoor
open Go Go.RowKit
set_option linter.unusedVariables false
set_option linter.unusedSimpArgs false

theorem begin_none {l : List Int} {first : Int} {needs : Nat} (h : ¬ needs ≤ l.length) : beginB l first needs = false := by unfold beginB; rw [decide_eq_false h]; rfl
theorem begin_other {x : Int} {t : List Int} {first : Int} {needs : Nat} (h : ¬ x = first) : beginB (x :: t) first needs = false := by
  unfold beginB
  rw [show decide ((x :: t).getD 0 0 = first) = false from decide_eq_false h, Bool.false_and, Bool.and_false]
theorem begin_all {x : Int} {t : List Int} {needs : Nat} (h1 : needs ≤ (x :: t).length) : beginB (x :: t) x needs = ((x :: t).take needs).tail.all fun n => decide (n = clampN n) := by
  unfold beginB
  rw [decide_eq_true h1, show decide ((x :: t).getD 0 0 = x) = true from decide_eq_true rfl, Bool.true_and, Bool.true_and]
theorem tail_at {l : List Int} {needs k : Nat} (h : needs ≤ l.length) (hk : k + 1 < needs) : (l.take needs).tail[k]? = l[k + 1]? := by
  rw [List.getElem?_tail, List.getElem?_take, if_pos (by omega)]
set_option maxRecDepth 100000 in
set_option maxHeartbeats 4000000 in
theorem begin7_c (A : Option Addr) (c : Nat) (l : List Int) (first : Int) (needs : Nat) (w : World) (ok : ElOk w w.heap.size ⟨A, c, l⟩) (hn : 2 ≤ needs ∧ needs ≤ 4) :
    Calls Tryd.prog 38 #[.slice A l.length c, .int .i64 first, .int .i64 (needs : Int)] w fun e w' => e = .returned (.bool (beginB l first needs)) ∧ w = w' := by
  obtain ⟨hn2, hn4⟩ := hn
  have hcap := ok.cap
  have hmax := ok.max
  simp only at hcap hmax
  unfold maxLen at hmax
  by_cases h1 : needs ≤ l.length
  · obtain ⟨x, t, rfl⟩ : ∃ x t, l = x :: t := by
      cases l with
      | nil => simp at h1; omega
      | cons x t => exact ⟨x, t, rfl⟩
    · obtain ⟨b, o, ha, hb, hc⟩ := ok.rd (by simp)
      simp only at ha hc
      subst ha
      have hx := hc 0 x rfl
      unfold intV at hx
      simp only [Nat.add_zero] at hx
      have z0 : decide ((((x :: t).length : Nat) : Int) < (needs : Int)) = false := decide_eq_false (by omega)
      by_cases h2 : x = first
      · subst h2
        rw [begin_all h1]
        have hM : ∀ k, k + 1 < needs → ((x :: t).take needs).tail[k]? = (x :: t)[k + 1]? := fun k hk => tail_at h1 hk
        have hMl : ((x :: t).take needs).tail.length = needs - 1 := by simp only [List.length_tail, List.length_take]; omega
        have hcell : ∀ (k : Nat) (n : Int), k + 1 < needs → ((x :: t).take needs).tail[k]? = some n → w.cell? ⟨b, o + 1 + k, none⟩ = some (.int .i64 n) := by
          intro k n hk hkn
          rw [hM k hk] at hkn
          have := hc (k + 1) n hkn
          rw [show o + 1 + k = o + (k + 1) from by omega]
          exact this
        generalize hMM : ((x :: t).take needs).tail = M at *
        generalize hlen : (x :: t).length = len at *
        have HC := Lib.hid hcell
        have HM := Lib.hid hMl
        have zc : ¬ c = 1 := by omega
        have hlen1 : 2 ≤ len := by omega
        clear hc hM hcell hMl hMM ok hlen
        obtain ⟨m, rfl⟩ : ∃ m, needs = m + 1 := ⟨needs - 1, by omega⟩
        have z0 : decide ((len : Int) < (m : Int) + 1) = false := decide_eq_false (by omega)
        obtain ⟨r, hr⟩ : ∃ r, (M.all fun n => decide (n = clampN n)) = r := ⟨_, rfl⟩
        rw [hr]
        have HR := Lib.hid hr
        clear hr
        rw [show ((m + 1 : Nat) : Int) = (m : Int) + 1 from rfl]
        go_enter Tryd.func38, Tryd.ntmps38
        go_wp2_with fail
        go_loopw [24] (fun u wr => ∃ k : Nat, k ≤ m ∧ u = .int .i64 (k : Int) ∧ w = wr ∧ Hid (∀ n ∈ M.take k, n = clampN n)) (fun u _ => m - (intOf u).toNat)
        case atStart => exact ⟨0, Nat.zero_le _, rfl, rfl, Lib.hid (by simp)⟩
        case round =>
          obtain ⟨k, hk, rfl, rfl, HA⟩ := hrel
          by_cases hlt : k < m
          · obtain ⟨n, hkn⟩ : ∃ n, M[k]? = some n := ⟨_, List.getElem?_eq_getElem (by have := HM.out; omega)⟩
            have hcn := HC.out k n (by omega) hkn
            have z3 : (k : Int) < (m : Int) := by omega
            have ho := fun V : World => octet_c n V
            by_cases hcl : n = clampN n
            · rw [← hcl] at ho
              have z4 : (n != n) = false := bne_eq_false_iff_eq.2 rfl
              have HA' : Hid (∀ n ∈ M.take (k + 1), n = clampN n) := Lib.hid (by
                rw [take_snoc hkn]
                intro y hy
                rcases List.mem_append.1 hy with hy | hy
                · exact HA.out y hy
                · rw [List.mem_singleton] at hy; subst hy; exact hcl)
              clear hkn hcl
              go_wp2_with fail
              refine (ho w).mono ?_
              rintro e w' ⟨rfl, rfl⟩
              clear ho
              go_wp2_with fail
              exact ⟨⟨k + 1, by omega, by simp, by first | trivial | rfl, HA'⟩, by simp [intOf]; omega⟩
            · have hf : r = false := by
                rw [← HR.out]
                refine Bool.eq_false_iff.2 fun h => hcl ?_
                exact of_decide_eq_true (List.all_eq_true.1 h n (List.mem_of_getElem? hkn))
              subst hf
              have z4 : (n != clampN n) = true := bne_iff_ne.2 hcl
              generalize clampN n = cn at *
              clear hkn hcl HR
              go_wp2_with fail
              refine (ho w).mono ?_
              rintro e w' ⟨rfl, rfl⟩
              clear ho
              go_wp2_with fail
              go_ret
              exact ⟨rfl, rfl⟩
          · have hke : M.take k = M := List.take_of_length_le (by have := HM.out; omega)
            have hf : r = true := by
              rw [← HR.out, List.all_eq_true]
              intro n hn
              exact decide_eq_true (HA.out n (by rw [hke]; exact hn))
            subst hf
            have z3 : ¬ (k : Int) < (m : Int) := by omega
            clear hke HR
            go_wp2_with fail
            go_ret
            exact ⟨rfl, rfl⟩
      · rw [begin_other h2]
        have z1 : (x != first) = true := bne_iff_ne.2 h2
        have hlen0 : 0 < (x :: t).length := by simp
        generalize (x :: t).length = len at *
        clear hc ok
        go_enter Tryd.func38, Tryd.ntmps38
        go_wp2_with fail
        go_ret
        exact ⟨rfl, rfl⟩
  · rw [begin_none h1]
    have z0 : decide (((l.length : Nat) : Int) < (needs : Int)) = true := decide_eq_true (by omega)
    go_enter Tryd.func38, Tryd.ntmps38
    go_wp2_with fail
    go_ret
    exact ⟨rfl, rfl⟩
theorem begin7_len {l : List Int} {first : Int} {needs : Nat} (h : beginB l first needs = true) : needs ≤ l.length := by
  by_cases k : needs ≤ l.length
  · exact k
  · rw [begin_none k] at h; cases h
theorem rgb_s (r g b : Int) (w : World) : Calls Tryd.prog 14 #[.int .i64 r, .int .i64 g, .int .i64 b] w fun e w' => e = .returned (.int .i64 (rgbN r g b)) ∧ w = w' := by
  unfold rgbN
  have h1 := clamp_range r
  have h2 := clamp_range g
  have h3 := clamp_range b
  have c1 := fun V : World => octet_c r V
  have c2 := fun V : World => octet_c g V
  have c3 := fun V : World => octet_c b V
  generalize clampN r = x at *
  generalize clampN g = y at *
  generalize clampN b = z at *
  obtain ⟨x0, x1⟩ := h1
  obtain ⟨y0, y1⟩ := h2
  obtain ⟨z0, z1⟩ := h3
  go_enter Tryd.func14, Tryd.ntmps14
  go_wp2_with fail
  refine (c1 w).mono ?_
  rintro e w' ⟨rfl, rfl⟩
  go_wp2_with fail
  refine (c2 w).mono ?_
  rintro e w' ⟨rfl, rfl⟩
  go_wp2_with fail
  refine (c3 w).mono ?_
  rintro e w' ⟨rfl, rfl⟩
  go_wp2
  go_ret
  exact ⟨rfl, rfl⟩
def GivesC (l : List Int) (e : Ending) : Prop := e = .returned (.tuple #[.int .i64 (byC l).1, .int .i64 (byC l).2])
theorem by_low {l : List Int} (h : beginB l 5 2 = true) {v : Int} (hv : l.getD 1 0 + 1 = v) : GivesC l (.returned (.tuple #[.int .i64 v, .int .i64 2])) := by
  unfold GivesC byC; rw [if_pos h, hv]
theorem by_rgb {l : List Int} (h : beginB l 5 2 = false) (h2 : beginB l 2 4 = true) {v : Int} (hv : rgbN (l.getD 1 0) (l.getD 2 0) (l.getD 3 0) = v) : GivesC l (.returned (.tuple #[.int .i64 v, .int .i64 4])) := by
  unfold GivesC byC; rw [if_neg (by rw [h]; simp), if_pos h2, hv]
theorem by_none {l : List Int} (h : beginB l 5 2 = false) (h2 : beginB l 2 4 = false) : GivesC l (.returned (.tuple #[.int .i64 0, .int .i64 0])) := by
  unfold GivesC byC; rw [if_neg (by rw [h]; simp), if_neg (by rw [h2]; simp)]
theorem begin_mem {l : List Int} {first : Int} {needs k : Nat} (h : beginB l first needs = true) (hk : k + 1 < needs) : 0 ≤ l.getD (k + 1) 0 ∧ l.getD (k + 1) 0 ≤ 255 := by
  have hl := begin7_len h
  unfold beginB at h
  simp only [Bool.and_eq_true] at h
  have h3 := List.all_eq_true.1 h.2.2
  have hi : (l.take needs).tail[k]? = some (l.getD (k + 1) 0) := by
    rw [tail_at hl hk]
    rw [List.getElem?_eq_getElem (by omega)]
    simp [List.getD, List.getElem?_eq_getElem (show k + 1 < l.length by omega)]
  exact (clamp_iff _).1 (of_decide_eq_true (h3 _ (List.mem_of_getElem? hi)))
set_option maxRecDepth 100000 in
set_option maxHeartbeats 4000000 in
theorem by7_c (A : Option Addr) (c : Nat) (l : List Int) (w : World) (ok : ElOk w w.heap.size ⟨A, c, l⟩) :
    Calls Tryd.prog 31 #[.slice A l.length c] w fun e w' => GivesC l e ∧ Below w.heap.size w w' := by
  have b1 := begin7_c A c l 5 2 w ok ⟨by omega, by omega⟩
  have b2 := begin7_c A c l 2 4 w ok ⟨by omega, by omega⟩
  rw [show ((2 : Nat) : Int) = 2 from rfl] at b1
  rw [show ((4 : Nat) : Int) = 4 from rfl] at b2
  cases h1 : beginB l 5 2 with
  | true =>
    rw [h1] at b1
    have hl := begin7_len h1
    have hm := begin_mem (k := 0) h1 (by omega)
    obtain ⟨b, o, ha, hb, hc⟩ := ok.rd (by rintro rfl; simp at hl)
    simp only at ha hc
    subst ha
    have hx := hc 1 (l.getD 1 0) (by rw [List.getElem?_eq_getElem (by omega)]; simp [List.getD, List.getElem?_eq_getElem (show 1 < l.length by omega)])
    unfold intV at hx
    have HV := Lib.hid (fun v => by_low (v := v) h1)
    obtain ⟨hm0, hm1⟩ := hm
    simp only [Nat.zero_add] at hm0 hm1
    generalize l.getD 1 0 = x at *
    have hl2 : 1 < l.length := by omega
    generalize l.length = len at *
    clear h1 hc ok b2 hl
    go_enter Tryd.func31, Tryd.ntmps31
    go_wp2_with fail
    refine b1.mono ?_
    rintro e w' ⟨rfl, rfl⟩
    clear b1
    go_wp2_with fail
    go_ret2
    exact ⟨HV.out _ rfl, Below.refl _ _⟩
  | false =>
    rw [h1] at b1
    cases h2 : beginB l 2 4 with
    | true =>
      rw [h2] at b2
      have hl := begin7_len h2
      obtain ⟨b, o, ha, hb, hc⟩ := ok.rd (by rintro rfl; simp at hl)
      simp only at ha hc
      subst ha
      have hget : ∀ k, k < l.length → l[k]? = some (l.getD k 0) := fun k hk => by
        rw [List.getElem?_eq_getElem hk]; simp [List.getD, List.getElem?_eq_getElem hk]
      have hx := hc 1 (l.getD 1 0) (hget 1 (by omega))
      have hy := hc 2 (l.getD 2 0) (hget 2 (by omega))
      have hz := hc 3 (l.getD 3 0) (hget 3 (by omega))
      unfold intV at hx hy hz
      have HV := Lib.hid (fun v => by_rgb (v := v) h1 h2)
      generalize l.getD 1 0 = x at *
      generalize l.getD 2 0 = y at *
      generalize l.getD 3 0 = z at *
      have hl2 : 3 < l.length := by omega
      generalize l.length = len at *
      have hr := fun V : World => rgb_s x y z V
      generalize rgbN x y z = v at *
      have l1 : (1 : Int) < (len : Int) := by omega
      have l2 : (2 : Int) < (len : Int) := by omega
      have l3 : (3 : Int) < (len : Int) := by omega
      clear h1 h2 hc ok hl hget
      go_enter Tryd.func31, Tryd.ntmps31
      go_wp2_with fail
      refine b1.mono ?_
      rintro e w' ⟨rfl, rfl⟩
      clear b1
      go_wp2_with fail
      refine b2.mono ?_
      rintro e w' ⟨rfl, rfl⟩
      clear b2
      go_wp2_with fail
      have q1 := Ext.cell (w := w) (B := w.heap.size) hb hx
      have q2 := Ext.cell (w := w) (B := w.heap.size) hb hy
      have q3 := Ext.cell (w := w) (B := w.heap.size) hb hz
      clear hx hy hz
      refine region_plan [([0, 1, 2, 3, 4, 5, 6, 7, 8], [9]), ([10, 11], [])] (fun w' => ∃ u : Ext w w.heap.size, w' = u.val) (by kernel_rfl) (by kernel_rfl) (fun _ _ _ _ _ h => h) ⟨⟨_, (Below.refl _ _).drew⟩, rfl⟩ ?_
      simp only [wpPlan, sel, List.take_succ_cons, List.take_zero, List.drop_succ_cons, List.drop_zero, List.cons_append, List.nil_append]
      repeat (go_big_quiet_step (fail))
      refine wpQuiet_nil ?_
      unfold wpChain
      go_wp2_with fail
      refine (hr _).mono ?_
      rintro e w' ⟨rfl, rfl⟩
      go_wp2_with fail
      refine ⟨⟨⟨_, (Below.refl w.heap.size w).drew⟩, rfl⟩, ?_⟩
      unfold wpChain
      repeat (go_big_quiet_step (fail))
      refine wpQuiet_nil ?_
      unfold wpChain
      go_wp2_with fail
      go_ret2
      exact ⟨HV.out _ rfl, (Below.refl w.heap.size w).drew⟩
    | false =>
      rw [h2] at b2
      have HV := Lib.hid (by_none h1 h2)
      generalize l.length = len at *
      clear h1 h2 ok
      go_enter Tryd.func31, Tryd.ntmps31
      go_wp2_with fail
      refine b1.mono ?_
      rintro e w' ⟨rfl, rfl⟩
      clear b1
      go_wp2_with fail
      refine b2.mono ?_
      rintro e w' ⟨rfl, rfl⟩
      clear b2
      go_wp2_with fail
      go_ret2
      exact ⟨HV.out, Below.refl _ _⟩
end Go.Proofs.YtlcnlfjjglcobaaDoor
