/- Digit, Next, Sub, as the document says them. -/
import Derived.Test.YtiaippdaogmcmaaDoorP5Step
namespace Go.Proofs.YtiaippdaogmcmaaDoor
open Go Go.RowKit
set_option linter.unusedVariables false
set_option linter.unusedSimpArgs false

theorem InP.offNew {w : World} {A : Option Addr} {c : Nat} {es : List El} (h : InP w A c es) {X : Nat} (hX : w.heap.size ≤ X) : Off X A es := by
  refine ⟨fun hn a ha hb => ?_, fun e he hq a ha hb => ?_⟩
  · obtain ⟨b, o, e, hl, _⟩ := h.nest.1 hn
    rw [e] at ha; injection ha with ha
    have : b = X := by rw [← hb, ← ha]
    omega
  · obtain ⟨b, o, e', hl, _⟩ := (h.nest.2 e he).rd hq
    rw [e'] at ha; injection ha with ha
    have : b = X := by rw [← hb, ← ha]
    omega
/-- What a call told is stored where the result lies. -/
theorem put_gives {w W0 w1 : World} {g : Nat} {z0 z1 : Value} {A A4 : Option Addr} {es es4 : List El} {c c4 : Nat} (o4 : Bool) (hB1 : Box W0 g 26 #[z0, z1]) (hg : w.heap.size ≤ g) (hbel : Below w.heap.size w W0) (hin : InP w A c es)
    (hi : InP w1 A4 c4 es4) (hoff : ∀ X, X < W0.heap.size → Off X A es → Off X A4 es4) (hb : Below W0.heap.size W0 w1) :
    Box ((w1.setCell ⟨g, 0, none⟩ (.slice A4 es4.length c4)).setCell ⟨g, 1, none⟩ (.bool o4)) g 26 #[.slice A4 es4.length c4, .bool o4] ∧ InP ((w1.setCell ⟨g, 0, none⟩ (.slice A4 es4.length c4)).setCell ⟨g, 1, none⟩ (.bool o4)) A4 c4 es4 ∧
    (∀ X, X < w.heap.size → Off X A es → Off X A4 es4) ∧ Below w.heap.size w ((w1.setCell ⟨g, 0, none⟩ (.slice A4 es4.length c4)).setCell ⟨g, 1, none⟩ (.bool o4)) := by
  have hput := (hB1.below hb hB1.lt).put2 (hbel.trans (hb.mono hbel.size)) hg (.slice A4 es4.length c4) (.bool o4)
  have ho := hoff g hB1.lt (hin.offNew hg)
  exact ⟨hput.1, (hi.off ho ⟨g, 0, none⟩ rfl _).off ho ⟨g, 1, none⟩ rfl _, fun X hX hO => hoff X (Nat.lt_of_lt_of_le hX hbel.size) hO, hput.2⟩
theorem two_lists (w : World) (a b z0 z1 : Value) : Box ((w.alloc (.cells #[a, b] 26)).alloc (.cells #[z0, z1] 26)) w.heap.size 26 #[a, b] ∧ Box ((w.alloc (.cells #[a, b] 26)).alloc (.cells #[z0, z1] 26)) (w.heap.size + 1) 26 #[z0, z1] ∧ Below w.heap.size w ((w.alloc (.cells #[a, b] 26)).alloc (.cells #[z0, z1] 26)) :=
  ⟨(Box.new w _ _).alloc _, by have := Box.new (w.alloc (.cells #[a, b] 26)) 26 #[z0, z1]; simpa using this, ((Below.refl _ _).alloc (Nat.le_refl _) _).alloc (by simp) _⟩
set_option maxRecDepth 100000 in
set_option maxHeartbeats 4000000 in
theorem step_bad (A : Option Addr) (c : Nat) (es : List El) (o : Bool) (x : Int) (w : World) (hin : InP w A c es) (hs : ¬ SaneP ⟨qs es, o⟩) :
    Calls Tryd.prog 69 #[.agg #[.slice A es.length c, .bool o], .int .u8 x] w (GivesQ zeroP A es w) := by
  obtain ⟨hB0, hB1, hbel0⟩ := two_lists w (.slice A es.length c) (.bool o) (.slice none 0 0) (.bool false)
  have a0 := hB0.cell 0
  have a1 := hB0.cell 1
  have hsn := sane_c A c es o _ (hin.on hbel0)
  rw [decide_eq_false hs] at hsn
  have HI := Lib.hid hin
  have HB := Lib.hid (And.intro hB1 hbel0)
  clear hs hin hB0 hB1 hbel0
  go_enter Tryd.func69, Tryd.ntmps69
  go_wp2_with fail
  refine hsn.mono ?_
  rintro e w1 ⟨rfl, hb1⟩
  have hres := HB.out.1.below hb1 HB.out.1.lt
  have r0 := hres.cell 0
  have r1 := hres.cell 1
  have f0 := hres.free 0
  have f1 := hres.free 1
  have hp := put_gives (A := A) (es := es) (A4 := none) (es4 := []) (c4 := 0) false HB.out.1 (Nat.le_succ _) HB.out.2 HI.out ⟨Nest.nil, Nat.le_refl _, by decide⟩ (fun _ _ _ => Off.nil) hb1
  have HX := Lib.hid hp
  clear hp hb1 hres hsn a0 a1 HB
  go_wp2_with fail
  exact bodyPost_ret (ret_list rfl (.slice none 0 0) (.bool false) _ _ (w.heap.size + 1) _ rfl HX.out.1) rfl ⟨none, 0, [], rfl, HX.out.2.1, rfl, HX.out.2.2.1, HX.out.2.2.2⟩
/-- A step. -/
theorem step_any (A : Option Addr) (c : Nat) (es : List El) (o : Bool) (k : Nat) (w : World) (hin : InP w A c es) (r : Par → Par)
    (h : (isDig k ∧ r = rDigit k) ∨ (k = 59 ∧ r = rNext) ∨ (k = 58 ∧ r = rSub)) :
    Calls Tryd.prog 69 #[.agg #[.slice A es.length c, .bool o], .int .u8 (k : Int)] w (GivesQ (if SaneP ⟨qs es, o⟩ then r ⟨qs es, o⟩ else zeroP) A es w) := by
  by_cases hs : SaneP ⟨qs es, o⟩
  · rw [if_pos hs]
    rcases h with ⟨h, rfl⟩ | ⟨rfl, rfl⟩ | ⟨rfl, rfl⟩
    · exact step_dig A c es o k h w hin hs
    · exact step_next A c es o w hin hs
    · exact step_sub A c es o w hin hs
  · rw [if_neg hs]
    exact step_bad A c es o _ w hin hs
set_option maxRecDepth 100000 in
set_option maxHeartbeats 4000000 in
theorem next_c : NextC := by
  intro A c es o w hin
  obtain ⟨hB0, hB1, hbel0⟩ := two_lists w (.slice A es.length c) (.bool o) (.slice none 0 0) (.bool false)
  have a0 := hB0.cell 0
  have a1 := hB0.cell 1
  have hst : Calls Tryd.prog 69 #[.agg #[.slice A es.length c, .bool o], .int .u8 59] _ (GivesQ (nextP ⟨qs es, o⟩) A es _) := step_any A c es o 59 _ (hin.on hbel0) rNext (.inr (.inl ⟨rfl, rfl⟩))
  have HI := Lib.hid hin
  have HB := Lib.hid (And.intro hB1 hbel0)
  clear hin hB0 hB1 hbel0
  generalize nextP ⟨qs es, o⟩ = p at *
  go_enter Tryd.func60, Tryd.ntmps60
  go_wp2_with fail
  refine hst.mono ?_
  rintro e w1 ⟨A4, c4, es4, rfl, hi4, hq4, hoff4, hb4⟩
  have hres := HB.out.1.below hb4 HB.out.1.lt
  have r0 := hres.cell 0
  have r1 := hres.cell 1
  have f0 := hres.free 0
  have f1 := hres.free 1
  have hp := put_gives (A := A) (es := es) p.o HB.out.1 (Nat.le_succ _) HB.out.2 HI.out hi4 hoff4 hb4
  have HX := Lib.hid (And.intro hp hq4)
  clear hp hb4 hi4 hq4 hoff4 hres hst a0 a1 HB
  go_wp2_with fail
  exact bodyPost_ret (ret_list rfl (.slice A4 es4.length c4) (.bool p.o) _ _ (w.heap.size + 1) _ rfl HX.out.1.1) rfl ⟨A4, c4, es4, rfl, HX.out.1.2.1, HX.out.2, HX.out.1.2.2.1, HX.out.1.2.2.2⟩
set_option maxRecDepth 100000 in
set_option maxHeartbeats 4000000 in
theorem sub_c : SubC := by
  intro A c es o w hin
  obtain ⟨hB0, hB1, hbel0⟩ := two_lists w (.slice A es.length c) (.bool o) (.slice none 0 0) (.bool false)
  have a0 := hB0.cell 0
  have a1 := hB0.cell 1
  have hst : Calls Tryd.prog 69 #[.agg #[.slice A es.length c, .bool o], .int .u8 58] _ (GivesQ (subP ⟨qs es, o⟩) A es _) := step_any A c es o 58 _ (hin.on hbel0) rSub (.inr (.inr ⟨rfl, rfl⟩))
  have HI := Lib.hid hin
  have HB := Lib.hid (And.intro hB1 hbel0)
  clear hin hB0 hB1 hbel0
  generalize subP ⟨qs es, o⟩ = p at *
  go_enter Tryd.func61, Tryd.ntmps61
  go_wp2_with fail
  refine hst.mono ?_
  rintro e w1 ⟨A4, c4, es4, rfl, hi4, hq4, hoff4, hb4⟩
  have hres := HB.out.1.below hb4 HB.out.1.lt
  have r0 := hres.cell 0
  have r1 := hres.cell 1
  have f0 := hres.free 0
  have f1 := hres.free 1
  have hp := put_gives (A := A) (es := es) p.o HB.out.1 (Nat.le_succ _) HB.out.2 HI.out hi4 hoff4 hb4
  have HX := Lib.hid (And.intro hp hq4)
  clear hp hb4 hi4 hq4 hoff4 hres hst a0 a1 HB
  go_wp2_with fail
  exact bodyPost_ret (ret_list rfl (.slice A4 es4.length c4) (.bool p.o) _ _ (w.heap.size + 1) _ rfl HX.out.1.1) rfl ⟨A4, c4, es4, rfl, HX.out.1.2.1, HX.out.2, HX.out.1.2.2.1, HX.out.1.2.2.2⟩
set_option maxRecDepth 100000 in
set_option maxHeartbeats 4000000 in
theorem digit_c : DigitC := by
  intro A c es o k w hk hin
  obtain ⟨hB0, hB1, hbel0⟩ := two_lists w (.slice A es.length c) (.bool o) (.slice none 0 0) (.bool false)
  have a0 := hB0.cell 0
  have a1 := hB0.cell 1
  have hd := isDigit_c k hk ((w.alloc (.cells #[.slice A es.length c, .bool o] 26)).alloc (.cells #[.slice none 0 0, .bool false] 26))
  by_cases hdig : isDig k
  · rw [decide_eq_true hdig] at hd
    have hst : Calls Tryd.prog 69 #[.agg #[.slice A es.length c, .bool o], .int .u8 (k : Int)] ((w.alloc (.cells #[.slice A es.length c, .bool o] 26)).alloc (.cells #[.slice none 0 0, .bool false] 26)) (GivesQ (digitP k ⟨qs es, o⟩) A es ((w.alloc (.cells #[.slice A es.length c, .bool o] 26)).alloc (.cells #[.slice none 0 0, .bool false] 26))) := by
      have := step_any A c es o k _ (hin.on hbel0) (rDigit k) (.inl ⟨hdig, rfl⟩)
      unfold digitP
      simpa only [if_pos hdig] using this
    have HI := Lib.hid hin
    have HB := Lib.hid (And.intro hB1 hbel0)
    clear hin hB0 hB1 hbel0 hdig
    generalize digitP k ⟨qs es, o⟩ = p at *
    go_enter Tryd.func62, Tryd.ntmps62
    go_wp2_with fail
    refine hd.mono ?_
    rintro e w1 ⟨rfl, rfl⟩
    clear hd
    go_wp2_with fail
    refine hst.mono ?_
    rintro e w1 ⟨A4, c4, es4, rfl, hi4, hq4, hoff4, hb4⟩
    have hres := HB.out.1.below hb4 HB.out.1.lt
    have r0 := hres.cell 0
    have r1 := hres.cell 1
    have f0 := hres.free 0
    have f1 := hres.free 1
    have hp := put_gives (A := A) (es := es) p.o HB.out.1 (Nat.le_succ _) HB.out.2 HI.out hi4 hoff4 hb4
    have HX := Lib.hid (And.intro hp hq4)
    clear hp hb4 hi4 hq4 hoff4 hres hst a0 a1 HB
    go_wp2_with fail
    exact bodyPost_ret (ret_list rfl (.slice A4 es4.length c4) (.bool p.o) _ _ (w.heap.size + 1) _ rfl HX.out.1.1) rfl ⟨A4, c4, es4, rfl, HX.out.1.2.1, HX.out.2, HX.out.1.2.2.1, HX.out.1.2.2.2⟩
  · rw [decide_eq_false hdig] at hd
    have hsn := sane_c A c es o _ (hin.on hbel0)
    by_cases hs : SaneP ⟨qs es, o⟩
    · rw [decide_eq_true hs] at hsn
      have hP : digitP k ⟨qs es, o⟩ = ⟨qs es, o⟩ := by unfold digitP; rw [if_pos hs, if_neg hdig]
      rw [hP]
      have HI := Lib.hid hin
      have HB := Lib.hid (And.intro hB1 hbel0)
      have HB0 := Lib.hid hB0
      clear hin hB0 hB1 hbel0 hdig hs hP
      go_enter Tryd.func62, Tryd.ntmps62
      go_wp2_with fail
      refine hd.mono ?_
      rintro e w1 ⟨rfl, rfl⟩
      clear hd
      go_wp2_with fail
      refine hsn.mono ?_
      rintro e w1 ⟨rfl, hb1⟩
      have hres := HB.out.1.below hb1 HB.out.1.lt
      have hpar := HB0.out.below hb1 HB0.out.lt
      have b0 := hpar.cell 0
      have b1 := hpar.cell 1
      have r0 := hres.cell 0
      have r1 := hres.cell 1
      have f0 := hres.free 0
      have f1 := hres.free 1
      have hp := put_gives (A := A) (es := es) o HB.out.1 (Nat.le_succ _) HB.out.2 HI.out ((HI.out.on HB.out.2).on hb1) (fun _ _ h => h) hb1
      have HX := Lib.hid hp
      clear hp hb1 hres hpar hsn a0 a1 HB HB0
      go_wp2_with fail
      exact bodyPost_ret (ret_list rfl (.slice A es.length c) (.bool o) _ _ (w.heap.size + 1) _ rfl HX.out.1) rfl ⟨A, c, es, rfl, HX.out.2.1, rfl, HX.out.2.2.1, HX.out.2.2.2⟩
    · rw [decide_eq_false hs] at hsn
      have hP : digitP k ⟨qs es, o⟩ = zeroP := by unfold digitP; rw [if_neg hs]
      rw [hP]
      have HI := Lib.hid hin
      have HB := Lib.hid (And.intro hB1 hbel0)
      clear hin hB0 hB1 hbel0 hdig hs hP
      go_enter Tryd.func62, Tryd.ntmps62
      go_wp2_with fail
      refine hd.mono ?_
      rintro e w1 ⟨rfl, rfl⟩
      clear hd
      go_wp2_with fail
      refine hsn.mono ?_
      rintro e w1 ⟨rfl, hb1⟩
      have hres := HB.out.1.below hb1 HB.out.1.lt
      have r0 := hres.cell 0
      have r1 := hres.cell 1
      have f0 := hres.free 0
      have f1 := hres.free 1
      have hp := put_gives (A := A) (es := es) (A4 := none) (es4 := []) (c4 := 0) false HB.out.1 (Nat.le_succ _) HB.out.2 HI.out ⟨Nest.nil, Nat.le_refl _, by decide⟩ (fun _ _ _ => Off.nil) hb1
      have HX := Lib.hid hp
      clear hp hb1 hres hsn a0 a1 HB
      go_wp2_with fail
      exact bodyPost_ret (ret_list rfl (.slice none 0 0) (.bool false) _ _ (w.heap.size + 1) _ rfl HX.out.1) rfl ⟨none, 0, [], rfl, HX.out.2.1, rfl, HX.out.2.2.1, HX.out.2.2.2⟩
end Go.Proofs.YtiaippdaogmcmaaDoor
