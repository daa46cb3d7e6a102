/- mayBe and Sane: may a parameter, may parameters be? -/
import Derived.Test.YtiaippdaogmcmaaDoorPar05q
namespace Go.Proofs.YtiaippdaogmcmaaDoor
open Go Go.RowKit
set_option linter.unusedVariables false
set_option linter.unusedSimpArgs false

theorem oneOk_of {q : List Int} (h : ∀ (k : Nat) (x : Int), q[k]? = some x → NumOk x) : OneOk q ↔ (1 ≤ q.length ∧ q.length ≤ 6) := by
  unfold OneOk
  refine ⟨fun k => ⟨k.1, k.2.1⟩, fun k => ⟨k.1, k.2, fun n hn => ?_⟩⟩
  obtain ⟨j, hj⟩ := List.mem_iff_getElem?.1 hn
  exact h j n hj
set_option maxRecDepth 100000 in
set_option maxHeartbeats 2000000 in
theorem mayBe_c (e : El) (w : World) (ok : ElOk w w.heap.size e) : Calls Tryd.prog 36 #[.slice e.A e.q.length e.c] w fun r w' => r = .returned (.bool (decide (OneOk e.q))) ∧ Below w.heap.size w w' := by
  have hcap := ok.cap
  have hmax := ok.max
  unfold maxLen at hmax
  go_enter Tryd.func36, Tryd.ntmps36
  go_wp2_with fail
  go_loopw [7] (fun u7 wr => ∃ k : Nat, u7 = .int .i64 k ∧ k ≤ e.q.length ∧ (∀ (j : Nat) (x : Int), j < k → e.q[j]? = some x → NumOk x) ∧ Below w.heap.size w wr) (fun u7 _ => e.q.length - (intOf u7).toNat)
  case atStart => exact ⟨0, rfl, Nat.zero_le _, by omega, Below.refl _ _⟩
  case round =>
    obtain ⟨k, rfl, hk, hall, hbel⟩ := hrel
    by_cases hlt : k < e.q.length
    · obtain ⟨x, hx⟩ : ∃ x, e.q[k]? = some x := ⟨_, List.getElem?_eq_getElem hlt⟩
      obtain ⟨b, o, ha, hb, hc⟩ := (ok.rd.below hbel).at_ hx
      unfold intV at hc
      rw [ha]
      by_cases hn : NumOk x
      · unfold NumOk at hn
        obtain ⟨hn1, hn2⟩ := hn
        go_wp2_with fail
        go_roundw
        case rel => exact ⟨k + 1, by simp, by omega, fun j y hj hy => by
          by_cases hjk : j = k
          · subst hjk; rw [hx] at hy; injection hy with hy; subst hy; exact ⟨hn1, hn2⟩
          · exact hall j y (by omega) hy, hbel⟩
        case measure => simp [intOf]; omega
      · have hno : decide (OneOk e.q) = false := decide_eq_false fun h => hn (h.2.2 x (List.mem_of_getElem? hx))
        have HN := Lib.hid hno
        have hn' : x < -1 ∨ (¬ x < -1 ∧ x > 65535) := by unfold NumOk at hn; omega
        clear hall hn hno
        rcases hn' with hn' | ⟨hn1, hn2⟩
        · go_wp2_with fail
          go_ret
          exact ⟨ret_bool HN.out.symm, hbel⟩
        · go_wp2_with fail
          go_ret
          exact ⟨ret_bool HN.out.symm, hbel⟩
    · have hke : k = e.q.length := by omega
      have hone := oneOk_of (q := e.q) fun j x hj => hall j x (by have := (List.getElem?_eq_some_iff.1 hj).1; omega) hj
      have HN := Lib.hid (show decide (OneOk e.q) = decide (1 ≤ e.q.length ∧ e.q.length ≤ 6) from by simp only [hone])
      clear hone hall
      subst hke
      rcases (show e.q.length < 1 ∨ (1 ≤ e.q.length ∧ e.q.length ≤ 6) ∨ 6 < e.q.length from by omega) with h | ⟨h1, h2⟩ | h
      · go_wp2_with fail
        go_ret
        exact ⟨ret_bool (HN.out.trans (decide_eq_false (by omega))).symm, hbel⟩
      · go_wp2_with fail
        go_ret
        exact ⟨ret_bool (by rw [HN.out]; exact decide_eq_decide.2 (by omega)), hbel⟩
      · go_wp2_with fail
        go_ret
        exact ⟨ret_bool (by rw [HN.out]; exact decide_eq_decide.2 (by omega)), hbel⟩

theorem qs_mem {es : List El} {q : List Int} (h : q ∈ qs es) : ∃ e ∈ es, e.q = q := by
  unfold qs at h
  obtain ⟨e, he, rfl⟩ := List.mem_map.1 h
  exact ⟨e, he, rfl⟩
def Shut (es : List El) (o : Bool) : Prop := es = [] → o = false
theorem saneP_of {es : List El} {o : Bool} (h1 : es.length ≤ 16) (h2 : es = [] → o = false) (h3 : ∀ (k : Nat) (e : El), es[k]? = some e → OneOk e.q) : SaneP ⟨qs es, o⟩ := by
  refine ⟨by rw [qs_length]; exact h1, ?_, fun h => h2 (by unfold qs at h; simpa using h)⟩
  intro q hq
  obtain ⟨e, he, rfl⟩ := qs_mem hq
  obtain ⟨k, hk⟩ := List.mem_iff_getElem?.1 he
  exact h3 k e hk
set_option maxRecDepth 100000 in
set_option maxHeartbeats 4000000 in
theorem sane_c : SaneC := by
  intro A c es o w hin
  have hl := hin.len
  unfold maxLen at hl
  by_cases h16 : es.length > 16
  · rw [decide_eq_false (fun h : SaneP _ => by have := h.few; simp only [qs_length] at this; omega)]
    go_enter Tryd.func23, Tryd.ntmps23
    go_wp2_with fail
    go_ret
    exact ⟨rfl, (Below.refl _ _).alloc (Nat.le_refl _) _⟩
  · by_cases hz : es = [] ∧ o = true
    · obtain ⟨rfl, rfl⟩ := hz
      rw [decide_eq_false (fun h : SaneP _ => by have := h.shut rfl; simp at this)]
      simp only [List.length_nil]
      go_enter Tryd.func23, Tryd.ntmps23
      go_wp2_with fail
      go_ret
      exact ⟨rfl, (Below.refl _ _).alloc (Nat.le_refl _) _⟩
    · have hz' : ((es.length : Int) == 0) = false ∨ (((es.length : Int) == 0) = true ∧ o = false) := by
        by_cases he : es = []
        · right; subst he; simp at hz; simp [hz]
        · left; have : es.length ≠ 0 := by simpa using he
          exact beq_eq_false_iff_ne.2 (by omega)
      have hshut : es = [] → o = false := fun h => by
        cases o
        · rfl
        · exact absurd ⟨h, rfl⟩ hz
      clear hz
      have HS : Shut es o := hshut
      clear hshut
      have hnl : ¬ ((es.length : Int) > 16) := by omega
      have hbel0 : Below w.heap.size w (w.alloc (.cells #[.slice A es.length c, .bool o] 26)) := (Below.refl _ _).alloc (Nat.le_refl _) _
      have key : ∀ V, Below w.heap.size w V → InP V A c es := fun V hV => hin.on hV
      rcases hz' with hz | ⟨hz, rfl⟩
      all_goals
        go_enter Tryd.func23, Tryd.ntmps23
        go_wp2_with fail
        clear hz hnl
        go_loopw [22] (fun u22 wr => ∃ k : Nat, u22 = .int .i64 k ∧ k ≤ es.length ∧ Hid (∀ (j : Nat) (x : El), j < k → es[j]? = some x → OneOk x.q) ∧ Below w.heap.size w wr) (fun u22 _ => es.length - (intOf u22).toNat)
        case atStart => exact ⟨0, rfl, Nat.zero_le _, Lib.hid (by omega), hbel0⟩
        case round =>
          obtain ⟨k, rfl, hk, hall, hbel⟩ := hrel
          by_cases hlt : k < es.length
          · obtain ⟨x, hx⟩ : ∃ x, es[k]? = some x := ⟨_, List.getElem?_eq_getElem hlt⟩
            obtain ⟨b, o', rfl, hb, hc, ok⟩ := (key _ hbel).nest.at_ hx
            have hm := mayBe_c x wr ok
            by_cases hone : OneOk x.q
            · rw [decide_eq_true hone] at hm
              have HX := Lib.hid (And.intro hx hone)
              clear hx hone ok key
              go_wp2_with fail
              refine hm.mono ?_
              rintro e w1 ⟨rfl, hb1⟩
              have hbel1 := hbel.trans (hb1.mono hbel.size)
              clear hm hb1
              go_wp2_with fail
              go_roundw
              case rel => exact ⟨k + 1, by simp, by omega, Lib.hid (fun j y hj hy => by
                by_cases hjk : j = k
                · subst hjk; rw [HX.out.1] at hy; injection hy with hy; subst hy; exact HX.out.2
                · exact hall.out j y (by omega) hy), hbel1⟩
              case measure => simp [intOf]; omega
            · rw [decide_eq_false hone] at hm
              have HN := Lib.hid (fun oo : Bool => decide_eq_false (fun h : SaneP ⟨qs es, oo⟩ => hone (h.each x.q (by unfold qs; exact List.mem_map.2 ⟨x, List.mem_of_getElem? hx, rfl⟩))))
              clear hx hone ok key hall
              go_wp2_with fail
              refine hm.mono ?_
              rintro e w1 ⟨rfl, hb1⟩
              have hbel1 := hbel.trans (hb1.mono hbel.size)
              clear hm hb1
              go_wp2_with fail
              go_ret
              exact ⟨ret_bool (HN.out _).symm, hbel1⟩
          · have HN := Lib.hid (decide_eq_true (saneP_of (by omega) HS fun j x hj => hall.out j x (by have := (List.getElem?_eq_some_iff.1 hj).1; omega) hj))
            clear hall key
            go_wp2_with fail
            go_ret
            exact ⟨ret_bool HN.out.symm, hbel⟩
end Go.Proofs.YtiaippdaogmcmaaDoor
