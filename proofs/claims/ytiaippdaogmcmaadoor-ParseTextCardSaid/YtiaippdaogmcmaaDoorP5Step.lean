/- A step. -/
import Derived.Test.YtiaippdaogmcmaaDoorP5By
import Derived.Test.YtiaippdaogmcmaaDoorP5Own
import Derived.Test.YtiaippdaogmcmaaDoorP5Sane
namespace Go.Proofs.YtiaippdaogmcmaaDoor
open Go Go.RowKit
set_option linter.unusedVariables false
set_option linter.unusedSimpArgs false

/-- The maker's variable, laid with what it owns. -/
theorem Mk.of_own {w : World} {base : Nat} {A : Option Addr} {c : Nat} {es : List El} (h : OwnP w base A c es) (hb : base ≤ w.heap.size) (o : Bool) :
    Mk (w.alloc (.cells #[.slice A es.length c, .bool o] 60)) base w.heap.size A c es o :=
  ⟨hb, Box.new w 60 _, h.own.alloc _, fun e he => (h.els e he).alloc _, h.apart⟩
set_option maxRecDepth 100000 in
set_option maxHeartbeats 4000000 in
theorem step_dig (A : Option Addr) (c : Nat) (es : List El) (o : Bool) (k : Nat) (hk : isDig k) (w : World) (hin : InP w A c es) (hs : SaneP ⟨qs es, o⟩) :
    Calls Tryd.prog 69 #[.agg #[.slice A es.length c, .bool o], .int .u8 (k : Int)] w (GivesQ (rDigit k ⟨qs es, o⟩) A es w) := by
  have hB0 : Box ((w.alloc (.cells #[.slice A es.length c, .bool o] 26)).alloc (.cells #[.slice none 0 0, .bool false] 26)) w.heap.size 26 #[.slice A es.length c, .bool o] := (Box.new w _ _).alloc _
  have hB1 : Box ((w.alloc (.cells #[.slice A es.length c, .bool o] 26)).alloc (.cells #[.slice none 0 0, .bool false] 26)) (w.heap.size + 1) 26 #[.slice none 0 0, .bool false] := by
    have := Box.new (w.alloc (.cells #[.slice A es.length c, .bool o] 26)) 26 #[.slice none 0 0, .bool false]
    simpa using this
  have hbel0 : Below w.heap.size w ((w.alloc (.cells #[.slice A es.length c, .bool o] 26)).alloc (.cells #[.slice none 0 0, .bool false] 26)) := ((Below.refl _ _).alloc (Nat.le_refl _) _).alloc (by simp) _
  have hsz0 : w.heap.size + 2 ≤ ((w.alloc (.cells #[.slice A es.length c, .bool o] 26)).alloc (.cells #[.slice none 0 0, .bool false] 26)).heap.size := by simp
  have a0 := hB0.cell 0
  have a1 := hB0.cell 1
  have hsn := sane_c A c es o _ (hin.on hbel0)
  rw [decide_eq_true hs] at hsn
  have HS := Lib.hid hs
  have HI := Lib.hid hin
  have HB := Lib.hid (And.intro hB0 (And.intro hB1 (And.intro hbel0 hsz0)))
  clear hs hin hB0 hB1 hbel0 hsz0
  generalize hp : rDigit k ⟨qs es, o⟩ = p
  have HP := Lib.hid hp
  clear hp
  go_enter Tryd.func69, Tryd.ntmps69
  go_wp2_with fail
  refine hsn.mono ?_
  rintro e w1 ⟨rfl, hb1⟩
  obtain ⟨hB0, hB1, hbel0, hsz0⟩ := HB.out
  have hB0' := hB0.below hb1 hB0.lt
  have hB1' := hB1.below hb1 hB1.lt
  have hbel1 := hbel0.trans (hb1.mono hbel0.size)
  have hsz1 : w.heap.size + 2 ≤ w1.heap.size := Nat.le_trans hsz0 hb1.size
  have hin1 := HI.out.on hbel1
  have hown := own_c A c es o w1 hin1 HS.out
  have b0 := hB0'.cell 0
  have b1 := hB0'.cell 1
  have HB1 := Lib.hid (And.intro hB1' hbel1)
  clear hB0 hB1 hbel0 hsz0 hb1 hsn a0 a1 HB hB0' hB1' hbel1 hin1
  go_wp2_with fail
  refine hown.mono ?_
  rintro e w2 ⟨A2, c2, es2, rfl, hO, hq2, hb2⟩
  have hmk := Mk.of_own hO hb2.size o
  have hbk : Below w1.heap.size w1 (w2.alloc (.cells #[.slice A2 es2.length c2, .bool o] 60)) := hb2.alloc hb2.size _
  have hbox := Box.new w2 60 #[.slice none 0 0, .bool false]
  have k0 := hbox.cell 0
  have k1 := (hbox.set_ 0 (.slice A2 es2.length c2)).cell 1
  have k2 := hbox.free 0
  have k3 := (hbox.set_ 0 (.slice A2 es2.length c2)).free 1
  have k4 := hbox.cell 1
  have k5 := hbox.free 1
  have hG : w1.heap.size ≤ w2.heap.size := hb2.size
  have HM := Lib.hid (And.intro hmk hbk)
  have HQ := Lib.hid hq2
  clear hmk hbk hbox hO hq2 hb2 hown b0 b1
  go_upto_region 4 with fail
  obtain ⟨hmk, hbk⟩ := HM.out
  clear k0 k1 k2 k3 k4 k5 HM
  generalize w2.alloc (.cells #[.slice A2 es2.length c2, .bool o] 60) = W at *
  have hby : Calls Tryd.prog 24 #[.pointer (some ⟨w2.heap.size, 0, none⟩), .int .u8 (k : Int)] W fun e w' => e = .returned (byV w2.heap.size k) ∧ w' = W := by_c w2.heap.size k (by unfold isDig at hk; omega) W
  have ev : byV w2.heap.size k = .func (.func 38) #[.pointer (some ⟨w2.heap.size, 0, none⟩)] #[] := by unfold byV; rw [if_pos hk]
  rw [ev] at hby
  have hm := digit_m W w1.heap.size w2.heap.size A2 c2 es2 o k hk hmk (by rw [HQ.out]; exact HS.out)
  rw [HQ.out, HP.out] at hm
  have HK := Lib.hid (And.intro hmk hbk)
  clear hmk hbk ev
  go_wp2_with fail
  refine hby.mono ?_
  rintro e w3 ⟨rfl, rfl⟩
  clear hby
  go_wp2_with fail
  refine hm.mono ?_
  rintro e w4 ⟨rfl, A4, c4, es4, hm4, hq4, hb4⟩
  have hbel4 : Below w1.heap.size w1 w4 := HK.out.2.trans hb4
  have hX : w.heap.size + 1 < w1.heap.size := by omega
  have hres := HB1.out.1.below hbel4 hX
  have r0 := hres.cell 0
  have r1 := hres.cell 1
  have f0 := hres.free 0
  have f1 := hres.free 1
  have m0 := hm4.box.cell 0
  have m1 := hm4.box.cell 1
  have hbelw : Below w.heap.size w w4 := HB1.out.2.trans (hbel4.mono HB1.out.2.size)
  have hput := hres.put2 hbelw (by omega : w.heap.size ≤ w.heap.size + 1) (.slice A4 es4.length c4) (.bool p.o)
  have hoff := hm4.offX (w.heap.size + 1) hX
  have hin4 := (hm4.in_.off hoff ⟨w.heap.size + 1, 0, none⟩ rfl (.slice A4 es4.length c4)).off hoff ⟨w.heap.size + 1, 1, none⟩ rfl (.bool p.o)
  have hofx : ∀ X, X < w.heap.size → Off X A es → Off X A4 es4 := fun X hX' _ => hm4.offX X (by omega)
  have HX := Lib.hid (And.intro hput (And.intro hin4 (And.intro hofx hq4)))
  clear hput hin4 hofx hm4 hb4 hbel4 hbelw hoff hres hm HK HB1
  go_wp2_with fail
  exact bodyPost_ret (ret_list rfl (.slice A4 es4.length c4) (.bool p.o) _ _ (w.heap.size + 1) _ rfl HX.out.1.1) rfl ⟨A4, c4, es4, rfl, HX.out.2.1, HX.out.2.2.2, HX.out.2.2.1, HX.out.1.2⟩
set_option maxRecDepth 100000 in
set_option maxHeartbeats 4000000 in
theorem step_next (A : Option Addr) (c : Nat) (es : List El) (o : Bool) (w : World) (hin : InP w A c es) (hs : SaneP ⟨qs es, o⟩) :
    Calls Tryd.prog 69 #[.agg #[.slice A es.length c, .bool o], .int .u8 59] w (GivesQ (rNext ⟨qs es, o⟩) A es w) := by
  have hB0 : Box ((w.alloc (.cells #[.slice A es.length c, .bool o] 26)).alloc (.cells #[.slice none 0 0, .bool false] 26)) w.heap.size 26 #[.slice A es.length c, .bool o] := (Box.new w _ _).alloc _
  have hB1 : Box ((w.alloc (.cells #[.slice A es.length c, .bool o] 26)).alloc (.cells #[.slice none 0 0, .bool false] 26)) (w.heap.size + 1) 26 #[.slice none 0 0, .bool false] := by
    have := Box.new (w.alloc (.cells #[.slice A es.length c, .bool o] 26)) 26 #[.slice none 0 0, .bool false]
    simpa using this
  have hbel0 : Below w.heap.size w ((w.alloc (.cells #[.slice A es.length c, .bool o] 26)).alloc (.cells #[.slice none 0 0, .bool false] 26)) := ((Below.refl _ _).alloc (Nat.le_refl _) _).alloc (by simp) _
  have hsz0 : w.heap.size + 2 ≤ ((w.alloc (.cells #[.slice A es.length c, .bool o] 26)).alloc (.cells #[.slice none 0 0, .bool false] 26)).heap.size := by simp
  have a0 := hB0.cell 0
  have a1 := hB0.cell 1
  have hsn := sane_c A c es o _ (hin.on hbel0)
  rw [decide_eq_true hs] at hsn
  have HS := Lib.hid hs
  have HI := Lib.hid hin
  have HB := Lib.hid (And.intro hB0 (And.intro hB1 (And.intro hbel0 hsz0)))
  clear hs hin hB0 hB1 hbel0 hsz0
  generalize hp : rNext ⟨qs es, o⟩ = p
  have HP := Lib.hid hp
  clear hp
  go_enter Tryd.func69, Tryd.ntmps69
  go_wp2_with fail
  refine hsn.mono ?_
  rintro e w1 ⟨rfl, hb1⟩
  obtain ⟨hB0, hB1, hbel0, hsz0⟩ := HB.out
  have hB0' := hB0.below hb1 hB0.lt
  have hB1' := hB1.below hb1 hB1.lt
  have hbel1 := hbel0.trans (hb1.mono hbel0.size)
  have hsz1 : w.heap.size + 2 ≤ w1.heap.size := Nat.le_trans hsz0 hb1.size
  have hin1 := HI.out.on hbel1
  have hown := own_c A c es o w1 hin1 HS.out
  have b0 := hB0'.cell 0
  have b1 := hB0'.cell 1
  have HB1 := Lib.hid (And.intro hB1' hbel1)
  clear hB0 hB1 hbel0 hsz0 hb1 hsn a0 a1 HB hB0' hB1' hbel1 hin1
  go_wp2_with fail
  refine hown.mono ?_
  rintro e w2 ⟨A2, c2, es2, rfl, hO, hq2, hb2⟩
  have hmk := Mk.of_own hO hb2.size o
  have hbk : Below w1.heap.size w1 (w2.alloc (.cells #[.slice A2 es2.length c2, .bool o] 60)) := hb2.alloc hb2.size _
  have hbox := Box.new w2 60 #[.slice none 0 0, .bool false]
  have k0 := hbox.cell 0
  have k1 := (hbox.set_ 0 (.slice A2 es2.length c2)).cell 1
  have k2 := hbox.free 0
  have k3 := (hbox.set_ 0 (.slice A2 es2.length c2)).free 1
  have k4 := hbox.cell 1
  have k5 := hbox.free 1
  have hG : w1.heap.size ≤ w2.heap.size := hb2.size
  have HM := Lib.hid (And.intro hmk hbk)
  have HQ := Lib.hid hq2
  clear hmk hbk hbox hO hq2 hb2 hown b0 b1
  go_upto_region 4 with fail
  obtain ⟨hmk, hbk⟩ := HM.out
  clear k0 k1 k2 k3 k4 k5 HM
  generalize w2.alloc (.cells #[.slice A2 es2.length c2, .bool o] 60) = W at *
  have hby : Calls Tryd.prog 24 #[.pointer (some ⟨w2.heap.size, 0, none⟩), .int .u8 59] W fun e w' => e = .returned (byV w2.heap.size 59) ∧ w' = W := by_c w2.heap.size 59 (by decide) W
  have ev : byV w2.heap.size 59 = .func (.func 39) #[.pointer (some ⟨w2.heap.size, 0, none⟩)] #[] := by unfold byV; rfl
  rw [ev] at hby
  have hm := next_m W w1.heap.size w2.heap.size A2 c2 es2 o 59 hmk (by have := HS.out.few; rw [← HQ.out] at this; simpa [qs_length] using this)
  rw [HQ.out, HP.out] at hm
  have HK := Lib.hid (And.intro hmk hbk)
  clear hmk hbk ev
  go_wp2_with fail
  refine hby.mono ?_
  rintro e w3 ⟨rfl, rfl⟩
  clear hby
  go_wp2_with fail
  refine hm.mono ?_
  rintro e w4 ⟨rfl, A4, c4, es4, hm4, hq4, hb4⟩
  have hbel4 : Below w1.heap.size w1 w4 := HK.out.2.trans hb4
  have hX : w.heap.size + 1 < w1.heap.size := by omega
  have hres := HB1.out.1.below hbel4 hX
  have r0 := hres.cell 0
  have r1 := hres.cell 1
  have f0 := hres.free 0
  have f1 := hres.free 1
  have m0 := hm4.box.cell 0
  have m1 := hm4.box.cell 1
  have hbelw : Below w.heap.size w w4 := HB1.out.2.trans (hbel4.mono HB1.out.2.size)
  have hput := hres.put2 hbelw (by omega : w.heap.size ≤ w.heap.size + 1) (.slice A4 es4.length c4) (.bool p.o)
  have hoff := hm4.offX (w.heap.size + 1) hX
  have hin4 := (hm4.in_.off hoff ⟨w.heap.size + 1, 0, none⟩ rfl (.slice A4 es4.length c4)).off hoff ⟨w.heap.size + 1, 1, none⟩ rfl (.bool p.o)
  have hofx : ∀ X, X < w.heap.size → Off X A es → Off X A4 es4 := fun X hX' _ => hm4.offX X (by omega)
  have HX := Lib.hid (And.intro hput (And.intro hin4 (And.intro hofx hq4)))
  clear hput hin4 hofx hm4 hb4 hbel4 hbelw hoff hres hm HK HB1
  go_wp2_with fail
  exact bodyPost_ret (ret_list rfl (.slice A4 es4.length c4) (.bool p.o) _ _ (w.heap.size + 1) _ rfl HX.out.1.1) rfl ⟨A4, c4, es4, rfl, HX.out.2.1, HX.out.2.2.2, HX.out.2.2.1, HX.out.1.2⟩
set_option maxRecDepth 100000 in
set_option maxHeartbeats 4000000 in
theorem step_sub (A : Option Addr) (c : Nat) (es : List El) (o : Bool) (w : World) (hin : InP w A c es) (hs : SaneP ⟨qs es, o⟩) :
    Calls Tryd.prog 69 #[.agg #[.slice A es.length c, .bool o], .int .u8 58] w (GivesQ (rSub ⟨qs es, o⟩) A es w) := by
  have hB0 : Box ((w.alloc (.cells #[.slice A es.length c, .bool o] 26)).alloc (.cells #[.slice none 0 0, .bool false] 26)) w.heap.size 26 #[.slice A es.length c, .bool o] := (Box.new w _ _).alloc _
  have hB1 : Box ((w.alloc (.cells #[.slice A es.length c, .bool o] 26)).alloc (.cells #[.slice none 0 0, .bool false] 26)) (w.heap.size + 1) 26 #[.slice none 0 0, .bool false] := by
    have := Box.new (w.alloc (.cells #[.slice A es.length c, .bool o] 26)) 26 #[.slice none 0 0, .bool false]
    simpa using this
  have hbel0 : Below w.heap.size w ((w.alloc (.cells #[.slice A es.length c, .bool o] 26)).alloc (.cells #[.slice none 0 0, .bool false] 26)) := ((Below.refl _ _).alloc (Nat.le_refl _) _).alloc (by simp) _
  have hsz0 : w.heap.size + 2 ≤ ((w.alloc (.cells #[.slice A es.length c, .bool o] 26)).alloc (.cells #[.slice none 0 0, .bool false] 26)).heap.size := by simp
  have a0 := hB0.cell 0
  have a1 := hB0.cell 1
  have hsn := sane_c A c es o _ (hin.on hbel0)
  rw [decide_eq_true hs] at hsn
  have HS := Lib.hid hs
  have HI := Lib.hid hin
  have HB := Lib.hid (And.intro hB0 (And.intro hB1 (And.intro hbel0 hsz0)))
  clear hs hin hB0 hB1 hbel0 hsz0
  generalize hp : rSub ⟨qs es, o⟩ = p
  have HP := Lib.hid hp
  clear hp
  go_enter Tryd.func69, Tryd.ntmps69
  go_wp2_with fail
  refine hsn.mono ?_
  rintro e w1 ⟨rfl, hb1⟩
  obtain ⟨hB0, hB1, hbel0, hsz0⟩ := HB.out
  have hB0' := hB0.below hb1 hB0.lt
  have hB1' := hB1.below hb1 hB1.lt
  have hbel1 := hbel0.trans (hb1.mono hbel0.size)
  have hsz1 : w.heap.size + 2 ≤ w1.heap.size := Nat.le_trans hsz0 hb1.size
  have hin1 := HI.out.on hbel1
  have hown := own_c A c es o w1 hin1 HS.out
  have b0 := hB0'.cell 0
  have b1 := hB0'.cell 1
  have HB1 := Lib.hid (And.intro hB1' hbel1)
  clear hB0 hB1 hbel0 hsz0 hb1 hsn a0 a1 HB hB0' hB1' hbel1 hin1
  go_wp2_with fail
  refine hown.mono ?_
  rintro e w2 ⟨A2, c2, es2, rfl, hO, hq2, hb2⟩
  have hmk := Mk.of_own hO hb2.size o
  have hbk : Below w1.heap.size w1 (w2.alloc (.cells #[.slice A2 es2.length c2, .bool o] 60)) := hb2.alloc hb2.size _
  have hbox := Box.new w2 60 #[.slice none 0 0, .bool false]
  have k0 := hbox.cell 0
  have k1 := (hbox.set_ 0 (.slice A2 es2.length c2)).cell 1
  have k2 := hbox.free 0
  have k3 := (hbox.set_ 0 (.slice A2 es2.length c2)).free 1
  have k4 := hbox.cell 1
  have k5 := hbox.free 1
  have hG : w1.heap.size ≤ w2.heap.size := hb2.size
  have HM := Lib.hid (And.intro hmk hbk)
  have HQ := Lib.hid hq2
  clear hmk hbk hbox hO hq2 hb2 hown b0 b1
  go_upto_region 4 with fail
  obtain ⟨hmk, hbk⟩ := HM.out
  clear k0 k1 k2 k3 k4 k5 HM
  generalize w2.alloc (.cells #[.slice A2 es2.length c2, .bool o] 60) = W at *
  have hby : Calls Tryd.prog 24 #[.pointer (some ⟨w2.heap.size, 0, none⟩), .int .u8 58] W fun e w' => e = .returned (byV w2.heap.size 58) ∧ w' = W := by_c w2.heap.size 58 (by decide) W
  have ev : byV w2.heap.size 58 = .func (.func 40) #[.pointer (some ⟨w2.heap.size, 0, none⟩)] #[] := by unfold byV; rfl
  rw [ev] at hby
  have hm := sub_m W w1.heap.size w2.heap.size A2 c2 es2 o 58 hmk (by rw [HQ.out]; exact HS.out)
  rw [HQ.out, HP.out] at hm
  have HK := Lib.hid (And.intro hmk hbk)
  clear hmk hbk ev
  go_wp2_with fail
  refine hby.mono ?_
  rintro e w3 ⟨rfl, rfl⟩
  clear hby
  go_wp2_with fail
  refine hm.mono ?_
  rintro e w4 ⟨rfl, A4, c4, es4, hm4, hq4, hb4⟩
  have hbel4 : Below w1.heap.size w1 w4 := HK.out.2.trans hb4
  have hX : w.heap.size + 1 < w1.heap.size := by omega
  have hres := HB1.out.1.below hbel4 hX
  have r0 := hres.cell 0
  have r1 := hres.cell 1
  have f0 := hres.free 0
  have f1 := hres.free 1
  have m0 := hm4.box.cell 0
  have m1 := hm4.box.cell 1
  have hbelw : Below w.heap.size w w4 := HB1.out.2.trans (hbel4.mono HB1.out.2.size)
  have hput := hres.put2 hbelw (by omega : w.heap.size ≤ w.heap.size + 1) (.slice A4 es4.length c4) (.bool p.o)
  have hoff := hm4.offX (w.heap.size + 1) hX
  have hin4 := (hm4.in_.off hoff ⟨w.heap.size + 1, 0, none⟩ rfl (.slice A4 es4.length c4)).off hoff ⟨w.heap.size + 1, 1, none⟩ rfl (.bool p.o)
  have hofx : ∀ X, X < w.heap.size → Off X A es → Off X A4 es4 := fun X hX' _ => hm4.offX X (by omega)
  have HX := Lib.hid (And.intro hput (And.intro hin4 (And.intro hofx hq4)))
  clear hput hin4 hofx hm4 hb4 hbel4 hbelw hoff hres hm HK HB1
  go_wp2_with fail
  exact bodyPost_ret (ret_list rfl (.slice A4 es4.length c4) (.bool p.o) _ _ (w.heap.size + 1) _ rfl HX.out.1.1) rfl ⟨A4, c4, es4, rfl, HX.out.2.1, HX.out.2.2.2, HX.out.2.2.1, HX.out.1.2⟩
end Go.Proofs.YtiaippdaogmcmaaDoor
