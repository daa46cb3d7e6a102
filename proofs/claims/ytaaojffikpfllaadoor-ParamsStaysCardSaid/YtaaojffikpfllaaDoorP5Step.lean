/- What a byte does (a method value), and a step. -/
import Derived.Test.YtaaojffikpfllaaDoorP5Own
import Derived.Test.YtaaojffikpfllaaDoorP5Sane
namespace Go.Proofs.YtaaojffikpfllaaDoor
open Go Go.RowKit
set_option linter.unusedVariables false
set_option linter.unusedSimpArgs false

set_option maxRecDepth 100000 in
theorem isDigit_c (k : Nat) (hk : k < 256) (w : World) : Calls Tryd.prog 23 #[.int .u8 (k : Int)] w fun e w' => e = .returned (.bool (decide (isDig k))) ∧ w' = w := by
  have h : k < 48 ∨ (48 ≤ k ∧ k ≤ 57) ∨ 57 < k := by omega
  rcases h with h | ⟨h1, h2⟩ | h
  · have e : decide (isDig k) = false := decide_eq_false (by unfold isDig; omega)
    rw [e]
    clear e
    go_enter Tryd.func23, Tryd.ntmps23
    go_wp2_with fail
    go_ret
    exact ⟨rfl, rfl⟩
  · have e : decide (isDig k) = true := decide_eq_true ⟨h1, h2⟩
    rw [e]
    clear e
    go_enter Tryd.func23, Tryd.ntmps23
    go_wp2_with fail
    go_ret
    exact ⟨ret_bool (decide_eq_true (by omega)), rfl⟩
  · have e : decide (isDig k) = false := decide_eq_false (by unfold isDig; omega)
    rw [e]
    clear e
    go_enter Tryd.func23, Tryd.ntmps23
    go_wp2_with fail
    go_ret
    exact ⟨ret_bool (decide_eq_false (by omega)), rfl⟩
/-- What a byte does. -/
def byV (G k : Nat) : Value := if isDig k then .func (.func 25) #[.pointer (some ⟨G, 0, none⟩)] #[] else if k = 59 then .func (.func 26) #[.pointer (some ⟨G, 0, none⟩)] #[] else if k = 58 then .func (.func 27) #[.pointer (some ⟨G, 0, none⟩)] #[] else .nilFunc
set_option maxRecDepth 100000 in
theorem by_c (G k : Nat) (hk : k < 256) (w : World) : Calls Tryd.prog 17 #[.pointer (some ⟨G, 0, none⟩), .int .u8 (k : Int)] w fun e w' => e = .returned (byV G k) ∧ w' = w := by
  have hd := isDigit_c k hk w
  have hmf : ∀ (fn : Fn) (first cap : Array Value) (w : World), (Instr.makeFunc fn first cap).run Tryd.prog w = .ok (.func fn first cap) w := fun _ _ _ _ => rfl
  unfold byV
  by_cases h1 : isDig k
  · rw [if_pos h1]
    rw [decide_eq_true h1] at hd
    clear h1
    go_enter Tryd.func17, Tryd.ntmps17
    go_wp2_with fail
    refine hd.mono ?_
    rintro e w1 ⟨rfl, rfl⟩
    clear hd
    go_wp2_with fail
    go_ret
    exact ⟨rfl, rfl⟩
  · rw [if_neg h1]
    rw [decide_eq_false h1] at hd
    clear h1
    by_cases h2 : k = 59
    · rw [if_pos h2]
      have e2 : ((k : Int) == 59) = true := beq_iff_eq.2 (by omega)
      clear h2
      go_enter Tryd.func17, Tryd.ntmps17
      go_wp2_with fail
      refine hd.mono ?_
      rintro e w1 ⟨rfl, rfl⟩
      clear hd
      go_wp2_with fail
      go_ret
      exact ⟨rfl, rfl⟩
    · rw [if_neg h2]
      have e2 : ((k : Int) == 59) = false := beq_eq_false_iff_ne.2 (by omega)
      by_cases h3 : k = 58
      · rw [if_pos h3]
        have e3 : ((k : Int) == 58) = true := beq_iff_eq.2 (by omega)
        clear h2 h3
        go_enter Tryd.func17, Tryd.ntmps17
        go_wp2_with fail
        refine hd.mono ?_
        rintro e w1 ⟨rfl, rfl⟩
        clear hd
        go_wp2_with fail
        go_ret
        exact ⟨rfl, rfl⟩
      · rw [if_neg h3]
        have e3 : ((k : Int) == 58) = false := beq_eq_false_iff_ne.2 (by omega)
        clear h2 h3
        go_enter Tryd.func17, Tryd.ntmps17
        go_wp2_with fail
        refine hd.mono ?_
        rintro e w1 ⟨rfl, rfl⟩
        clear hd
        go_wp2_with fail
        go_ret
        exact ⟨rfl, rfl⟩
/-- The maker's variable, laid with what it owns. -/
theorem Mk.of_own {w : World} {base : Nat} {A : Option Addr} {c : Nat} {es : List El} (h : OwnP w base A c es) (hb : base ≤ w.heap.size) (o : Bool) :
    Mk (w.alloc (.cells #[.slice A es.length c, .bool o] 42)) base w.heap.size A c es o :=
  ⟨hb, Box.new w 42 _, h.own.alloc _, fun e he => (h.els e he).alloc _, h.apart⟩
set_option maxRecDepth 100000 in
set_option maxHeartbeats 4000000 in
theorem step_dig (A : Option Addr) (c : Nat) (es : List El) (o : Bool) (k : Nat) (hk : isDig k) (w : World) (hin : InP w A c es) (hs : SaneP ⟨qs es, o⟩) :
    Calls Tryd.prog 24 #[.agg #[.slice A es.length c, .bool o], .int .u8 (k : Int)] w (GivesQ (rDigit k ⟨qs es, o⟩) A es w) := by
  have hB0 : Box ((w.alloc (.cells #[.slice A es.length c, .bool o] 32)).alloc (.cells #[.slice none 0 0, .bool false] 32)) w.heap.size 32 #[.slice A es.length c, .bool o] := (Box.new w _ _).alloc _
  have hB1 : Box ((w.alloc (.cells #[.slice A es.length c, .bool o] 32)).alloc (.cells #[.slice none 0 0, .bool false] 32)) (w.heap.size + 1) 32 #[.slice none 0 0, .bool false] := by
    have := Box.new (w.alloc (.cells #[.slice A es.length c, .bool o] 32)) 32 #[.slice none 0 0, .bool false]
    simpa using this
  have hbel0 : Below w.heap.size w ((w.alloc (.cells #[.slice A es.length c, .bool o] 32)).alloc (.cells #[.slice none 0 0, .bool false] 32)) := ((Below.refl _ _).alloc (Nat.le_refl _) _).alloc (by simp) _
  have hsz0 : w.heap.size + 2 ≤ ((w.alloc (.cells #[.slice A es.length c, .bool o] 32)).alloc (.cells #[.slice none 0 0, .bool false] 32)).heap.size := by simp
  have a0 := hB0.cell 0
  have a1 := hB0.cell 1
  have hsn := sane_c A c es o _ (hin.on hbel0)
  rw [decide_eq_true hs] at hsn
  have HS := Lib.hid hs
  have HI := Lib.hid hin
  have HB := Lib.hid (And.intro hB0 (And.intro hB1 (And.intro hbel0 hsz0)))
  clear hs hin hB0 hB1 hbel0 hsz0
  generalize hp : rDigit k ⟨qs es, o⟩ = p
  have HP := Lib.hid hp
  clear hp
  go_enter Tryd.func24, Tryd.ntmps24
  go_wp2_with fail
  refine hsn.mono ?_
  rintro e w1 ⟨rfl, hb1⟩
  obtain ⟨hB0, hB1, hbel0, hsz0⟩ := HB.out
  have hB0' := hB0.below hb1 hB0.lt
  have hB1' := hB1.below hb1 hB1.lt
  have hbel1 := hbel0.trans (hb1.mono hbel0.size)
  have hsz1 : w.heap.size + 2 ≤ w1.heap.size := Nat.le_trans hsz0 hb1.size
  have hin1 := HI.out.on hbel1
  have hown := own_c A c es o w1 hin1 HS.out
  have b0 := hB0'.cell 0
  have b1 := hB0'.cell 1
  have HB1 := Lib.hid (And.intro hB1' hbel1)
  clear hB0 hB1 hbel0 hsz0 hb1 hsn a0 a1 HB hB0' hB1' hbel1 hin1
  go_wp2_with fail
  refine hown.mono ?_
  rintro e w2 ⟨A2, c2, es2, rfl, hO, hq2, hb2⟩
  have hmk := Mk.of_own hO hb2.size o
  have hbk : Below w1.heap.size w1 (w2.alloc (.cells #[.slice A2 es2.length c2, .bool o] 42)) := hb2.alloc hb2.size _
  have hbox := Box.new w2 42 #[.slice none 0 0, .bool false]
  have k0 := hbox.cell 0
  have k1 := (hbox.set_ 0 (.slice A2 es2.length c2)).cell 1
  have k2 := hbox.free 0
  have k3 := (hbox.set_ 0 (.slice A2 es2.length c2)).free 1
  have k4 := hbox.cell 1
  have k5 := hbox.free 1
  have hG : w1.heap.size ≤ w2.heap.size := hb2.size
  have HM := Lib.hid (And.intro hmk hbk)
  have HQ := Lib.hid hq2
  clear hmk hbk hbox hO hq2 hb2 hown b0 b1
  go_upto_region 4 with fail
  obtain ⟨hmk, hbk⟩ := HM.out
  clear k0 k1 k2 k3 k4 k5 HM
  generalize w2.alloc (.cells #[.slice A2 es2.length c2, .bool o] 42) = W at *
  have hby : Calls Tryd.prog 17 #[.pointer (some ⟨w2.heap.size, 0, none⟩), .int .u8 (k : Int)] W fun e w' => e = .returned (byV w2.heap.size k) ∧ w' = W := by_c w2.heap.size k (by unfold isDig at hk; omega) W
  have ev : byV w2.heap.size k = .func (.func 25) #[.pointer (some ⟨w2.heap.size, 0, none⟩)] #[] := by unfold byV; rw [if_pos hk]
  rw [ev] at hby
  have hm := digit_m W w1.heap.size w2.heap.size A2 c2 es2 o k hk hmk (by rw [HQ.out]; exact HS.out)
  rw [HQ.out, HP.out] at hm
  have HK := Lib.hid (And.intro hmk hbk)
  clear hmk hbk ev
  go_wp2_with fail
  refine hby.mono ?_
  rintro e w3 ⟨rfl, rfl⟩
  clear hby
  go_wp2_with fail
  refine hm.mono ?_
  rintro e w4 ⟨rfl, A4, c4, es4, hm4, hq4, hb4⟩
  have hbel4 : Below w1.heap.size w1 w4 := HK.out.2.trans hb4
  have hX : w.heap.size + 1 < w1.heap.size := by omega
  have hres := HB1.out.1.below hbel4 hX
  have r0 := hres.cell 0
  have r1 := hres.cell 1
  have f0 := hres.free 0
  have f1 := hres.free 1
  have m0 := hm4.box.cell 0
  have m1 := hm4.box.cell 1
  have hbelw : Below w.heap.size w w4 := HB1.out.2.trans (hbel4.mono HB1.out.2.size)
  have hput := hres.put2 hbelw (by omega : w.heap.size ≤ w.heap.size + 1) (.slice A4 es4.length c4) (.bool p.o)
  have hoff := hm4.offX (w.heap.size + 1) hX
  have hin4 := (hm4.in_.off hoff ⟨w.heap.size + 1, 0, none⟩ rfl (.slice A4 es4.length c4)).off hoff ⟨w.heap.size + 1, 1, none⟩ rfl (.bool p.o)
  have hofx : ∀ X, X < w.heap.size → Off X A es → Off X A4 es4 := fun X hX' _ => hm4.offX X (by omega)
  have HX := Lib.hid (And.intro hput (And.intro hin4 (And.intro hofx hq4)))
  clear hput hin4 hofx hm4 hb4 hbel4 hbelw hoff hres hm HK HB1
  go_wp2_with fail
  exact bodyPost_ret (ret_list rfl (.slice A4 es4.length c4) (.bool p.o) _ _ (w.heap.size + 1) _ rfl HX.out.1.1) rfl ⟨A4, c4, es4, rfl, HX.out.2.1, HX.out.2.2.2, HX.out.2.2.1, HX.out.1.2⟩
set_option maxRecDepth 100000 in
set_option maxHeartbeats 4000000 in
theorem step_next (A : Option Addr) (c : Nat) (es : List El) (o : Bool) (w : World) (hin : InP w A c es) (hs : SaneP ⟨qs es, o⟩) :
    Calls Tryd.prog 24 #[.agg #[.slice A es.length c, .bool o], .int .u8 59] w (GivesQ (rNext ⟨qs es, o⟩) A es w) := by
  have hB0 : Box ((w.alloc (.cells #[.slice A es.length c, .bool o] 32)).alloc (.cells #[.slice none 0 0, .bool false] 32)) w.heap.size 32 #[.slice A es.length c, .bool o] := (Box.new w _ _).alloc _
  have hB1 : Box ((w.alloc (.cells #[.slice A es.length c, .bool o] 32)).alloc (.cells #[.slice none 0 0, .bool false] 32)) (w.heap.size + 1) 32 #[.slice none 0 0, .bool false] := by
    have := Box.new (w.alloc (.cells #[.slice A es.length c, .bool o] 32)) 32 #[.slice none 0 0, .bool false]
    simpa using this
  have hbel0 : Below w.heap.size w ((w.alloc (.cells #[.slice A es.length c, .bool o] 32)).alloc (.cells #[.slice none 0 0, .bool false] 32)) := ((Below.refl _ _).alloc (Nat.le_refl _) _).alloc (by simp) _
  have hsz0 : w.heap.size + 2 ≤ ((w.alloc (.cells #[.slice A es.length c, .bool o] 32)).alloc (.cells #[.slice none 0 0, .bool false] 32)).heap.size := by simp
  have a0 := hB0.cell 0
  have a1 := hB0.cell 1
  have hsn := sane_c A c es o _ (hin.on hbel0)
  rw [decide_eq_true hs] at hsn
  have HS := Lib.hid hs
  have HI := Lib.hid hin
  have HB := Lib.hid (And.intro hB0 (And.intro hB1 (And.intro hbel0 hsz0)))
  clear hs hin hB0 hB1 hbel0 hsz0
  generalize hp : rNext ⟨qs es, o⟩ = p
  have HP := Lib.hid hp
  clear hp
  go_enter Tryd.func24, Tryd.ntmps24
  go_wp2_with fail
  refine hsn.mono ?_
  rintro e w1 ⟨rfl, hb1⟩
  obtain ⟨hB0, hB1, hbel0, hsz0⟩ := HB.out
  have hB0' := hB0.below hb1 hB0.lt
  have hB1' := hB1.below hb1 hB1.lt
  have hbel1 := hbel0.trans (hb1.mono hbel0.size)
  have hsz1 : w.heap.size + 2 ≤ w1.heap.size := Nat.le_trans hsz0 hb1.size
  have hin1 := HI.out.on hbel1
  have hown := own_c A c es o w1 hin1 HS.out
  have b0 := hB0'.cell 0
  have b1 := hB0'.cell 1
  have HB1 := Lib.hid (And.intro hB1' hbel1)
  clear hB0 hB1 hbel0 hsz0 hb1 hsn a0 a1 HB hB0' hB1' hbel1 hin1
  go_wp2_with fail
  refine hown.mono ?_
  rintro e w2 ⟨A2, c2, es2, rfl, hO, hq2, hb2⟩
  have hmk := Mk.of_own hO hb2.size o
  have hbk : Below w1.heap.size w1 (w2.alloc (.cells #[.slice A2 es2.length c2, .bool o] 42)) := hb2.alloc hb2.size _
  have hbox := Box.new w2 42 #[.slice none 0 0, .bool false]
  have k0 := hbox.cell 0
  have k1 := (hbox.set_ 0 (.slice A2 es2.length c2)).cell 1
  have k2 := hbox.free 0
  have k3 := (hbox.set_ 0 (.slice A2 es2.length c2)).free 1
  have k4 := hbox.cell 1
  have k5 := hbox.free 1
  have hG : w1.heap.size ≤ w2.heap.size := hb2.size
  have HM := Lib.hid (And.intro hmk hbk)
  have HQ := Lib.hid hq2
  clear hmk hbk hbox hO hq2 hb2 hown b0 b1
  go_upto_region 4 with fail
  obtain ⟨hmk, hbk⟩ := HM.out
  clear k0 k1 k2 k3 k4 k5 HM
  generalize w2.alloc (.cells #[.slice A2 es2.length c2, .bool o] 42) = W at *
  have hby : Calls Tryd.prog 17 #[.pointer (some ⟨w2.heap.size, 0, none⟩), .int .u8 59] W fun e w' => e = .returned (byV w2.heap.size 59) ∧ w' = W := by_c w2.heap.size 59 (by decide) W
  have ev : byV w2.heap.size 59 = .func (.func 26) #[.pointer (some ⟨w2.heap.size, 0, none⟩)] #[] := by unfold byV; rfl
  rw [ev] at hby
  have hm := next_m W w1.heap.size w2.heap.size A2 c2 es2 o 59 hmk (by have := HS.out.few; rw [← HQ.out] at this; simpa [qs_length] using this)
  rw [HQ.out, HP.out] at hm
  have HK := Lib.hid (And.intro hmk hbk)
  clear hmk hbk ev
  go_wp2_with fail
  refine hby.mono ?_
  rintro e w3 ⟨rfl, rfl⟩
  clear hby
  go_wp2_with fail
  refine hm.mono ?_
  rintro e w4 ⟨rfl, A4, c4, es4, hm4, hq4, hb4⟩
  have hbel4 : Below w1.heap.size w1 w4 := HK.out.2.trans hb4
  have hX : w.heap.size + 1 < w1.heap.size := by omega
  have hres := HB1.out.1.below hbel4 hX
  have r0 := hres.cell 0
  have r1 := hres.cell 1
  have f0 := hres.free 0
  have f1 := hres.free 1
  have m0 := hm4.box.cell 0
  have m1 := hm4.box.cell 1
  have hbelw : Below w.heap.size w w4 := HB1.out.2.trans (hbel4.mono HB1.out.2.size)
  have hput := hres.put2 hbelw (by omega : w.heap.size ≤ w.heap.size + 1) (.slice A4 es4.length c4) (.bool p.o)
  have hoff := hm4.offX (w.heap.size + 1) hX
  have hin4 := (hm4.in_.off hoff ⟨w.heap.size + 1, 0, none⟩ rfl (.slice A4 es4.length c4)).off hoff ⟨w.heap.size + 1, 1, none⟩ rfl (.bool p.o)
  have hofx : ∀ X, X < w.heap.size → Off X A es → Off X A4 es4 := fun X hX' _ => hm4.offX X (by omega)
  have HX := Lib.hid (And.intro hput (And.intro hin4 (And.intro hofx hq4)))
  clear hput hin4 hofx hm4 hb4 hbel4 hbelw hoff hres hm HK HB1
  go_wp2_with fail
  exact bodyPost_ret (ret_list rfl (.slice A4 es4.length c4) (.bool p.o) _ _ (w.heap.size + 1) _ rfl HX.out.1.1) rfl ⟨A4, c4, es4, rfl, HX.out.2.1, HX.out.2.2.2, HX.out.2.2.1, HX.out.1.2⟩
set_option maxRecDepth 100000 in
set_option maxHeartbeats 4000000 in
theorem step_sub (A : Option Addr) (c : Nat) (es : List El) (o : Bool) (w : World) (hin : InP w A c es) (hs : SaneP ⟨qs es, o⟩) :
    Calls Tryd.prog 24 #[.agg #[.slice A es.length c, .bool o], .int .u8 58] w (GivesQ (rSub ⟨qs es, o⟩) A es w) := by
  have hB0 : Box ((w.alloc (.cells #[.slice A es.length c, .bool o] 32)).alloc (.cells #[.slice none 0 0, .bool false] 32)) w.heap.size 32 #[.slice A es.length c, .bool o] := (Box.new w _ _).alloc _
  have hB1 : Box ((w.alloc (.cells #[.slice A es.length c, .bool o] 32)).alloc (.cells #[.slice none 0 0, .bool false] 32)) (w.heap.size + 1) 32 #[.slice none 0 0, .bool false] := by
    have := Box.new (w.alloc (.cells #[.slice A es.length c, .bool o] 32)) 32 #[.slice none 0 0, .bool false]
    simpa using this
  have hbel0 : Below w.heap.size w ((w.alloc (.cells #[.slice A es.length c, .bool o] 32)).alloc (.cells #[.slice none 0 0, .bool false] 32)) := ((Below.refl _ _).alloc (Nat.le_refl _) _).alloc (by simp) _
  have hsz0 : w.heap.size + 2 ≤ ((w.alloc (.cells #[.slice A es.length c, .bool o] 32)).alloc (.cells #[.slice none 0 0, .bool false] 32)).heap.size := by simp
  have a0 := hB0.cell 0
  have a1 := hB0.cell 1
  have hsn := sane_c A c es o _ (hin.on hbel0)
  rw [decide_eq_true hs] at hsn
  have HS := Lib.hid hs
  have HI := Lib.hid hin
  have HB := Lib.hid (And.intro hB0 (And.intro hB1 (And.intro hbel0 hsz0)))
  clear hs hin hB0 hB1 hbel0 hsz0
  generalize hp : rSub ⟨qs es, o⟩ = p
  have HP := Lib.hid hp
  clear hp
  go_enter Tryd.func24, Tryd.ntmps24
  go_wp2_with fail
  refine hsn.mono ?_
  rintro e w1 ⟨rfl, hb1⟩
  obtain ⟨hB0, hB1, hbel0, hsz0⟩ := HB.out
  have hB0' := hB0.below hb1 hB0.lt
  have hB1' := hB1.below hb1 hB1.lt
  have hbel1 := hbel0.trans (hb1.mono hbel0.size)
  have hsz1 : w.heap.size + 2 ≤ w1.heap.size := Nat.le_trans hsz0 hb1.size
  have hin1 := HI.out.on hbel1
  have hown := own_c A c es o w1 hin1 HS.out
  have b0 := hB0'.cell 0
  have b1 := hB0'.cell 1
  have HB1 := Lib.hid (And.intro hB1' hbel1)
  clear hB0 hB1 hbel0 hsz0 hb1 hsn a0 a1 HB hB0' hB1' hbel1 hin1
  go_wp2_with fail
  refine hown.mono ?_
  rintro e w2 ⟨A2, c2, es2, rfl, hO, hq2, hb2⟩
  have hmk := Mk.of_own hO hb2.size o
  have hbk : Below w1.heap.size w1 (w2.alloc (.cells #[.slice A2 es2.length c2, .bool o] 42)) := hb2.alloc hb2.size _
  have hbox := Box.new w2 42 #[.slice none 0 0, .bool false]
  have k0 := hbox.cell 0
  have k1 := (hbox.set_ 0 (.slice A2 es2.length c2)).cell 1
  have k2 := hbox.free 0
  have k3 := (hbox.set_ 0 (.slice A2 es2.length c2)).free 1
  have k4 := hbox.cell 1
  have k5 := hbox.free 1
  have hG : w1.heap.size ≤ w2.heap.size := hb2.size
  have HM := Lib.hid (And.intro hmk hbk)
  have HQ := Lib.hid hq2
  clear hmk hbk hbox hO hq2 hb2 hown b0 b1
  go_upto_region 4 with fail
  obtain ⟨hmk, hbk⟩ := HM.out
  clear k0 k1 k2 k3 k4 k5 HM
  generalize w2.alloc (.cells #[.slice A2 es2.length c2, .bool o] 42) = W at *
  have hby : Calls Tryd.prog 17 #[.pointer (some ⟨w2.heap.size, 0, none⟩), .int .u8 58] W fun e w' => e = .returned (byV w2.heap.size 58) ∧ w' = W := by_c w2.heap.size 58 (by decide) W
  have ev : byV w2.heap.size 58 = .func (.func 27) #[.pointer (some ⟨w2.heap.size, 0, none⟩)] #[] := by unfold byV; rfl
  rw [ev] at hby
  have hm := sub_m W w1.heap.size w2.heap.size A2 c2 es2 o 58 hmk (by rw [HQ.out]; exact HS.out)
  rw [HQ.out, HP.out] at hm
  have HK := Lib.hid (And.intro hmk hbk)
  clear hmk hbk ev
  go_wp2_with fail
  refine hby.mono ?_
  rintro e w3 ⟨rfl, rfl⟩
  clear hby
  go_wp2_with fail
  refine hm.mono ?_
  rintro e w4 ⟨rfl, A4, c4, es4, hm4, hq4, hb4⟩
  have hbel4 : Below w1.heap.size w1 w4 := HK.out.2.trans hb4
  have hX : w.heap.size + 1 < w1.heap.size := by omega
  have hres := HB1.out.1.below hbel4 hX
  have r0 := hres.cell 0
  have r1 := hres.cell 1
  have f0 := hres.free 0
  have f1 := hres.free 1
  have m0 := hm4.box.cell 0
  have m1 := hm4.box.cell 1
  have hbelw : Below w.heap.size w w4 := HB1.out.2.trans (hbel4.mono HB1.out.2.size)
  have hput := hres.put2 hbelw (by omega : w.heap.size ≤ w.heap.size + 1) (.slice A4 es4.length c4) (.bool p.o)
  have hoff := hm4.offX (w.heap.size + 1) hX
  have hin4 := (hm4.in_.off hoff ⟨w.heap.size + 1, 0, none⟩ rfl (.slice A4 es4.length c4)).off hoff ⟨w.heap.size + 1, 1, none⟩ rfl (.bool p.o)
  have hofx : ∀ X, X < w.heap.size → Off X A es → Off X A4 es4 := fun X hX' _ => hm4.offX X (by omega)
  have HX := Lib.hid (And.intro hput (And.intro hin4 (And.intro hofx hq4)))
  clear hput hin4 hofx hm4 hb4 hbel4 hbelw hoff hres hm HK HB1
  go_wp2_with fail
  exact bodyPost_ret (ret_list rfl (.slice A4 es4.length c4) (.bool p.o) _ _ (w.heap.size + 1) _ rfl HX.out.1.1) rfl ⟨A4, c4, es4, rfl, HX.out.2.1, HX.out.2.2.2, HX.out.2.2.1, HX.out.1.2⟩
end Go.Proofs.YtaaojffikpfllaaDoor
