/- Package parse: escape sequences and control sequences. Package parse: control sequences. -/
import Derived.Test.YtiaippdaogmcmaaDoorPar6b
namespace Go.Proofs.YtiaippdaogmcmaaDoor
open Go Go.RowKit
set_option linter.unusedVariables false
set_option linter.unusedSimpArgs false

/-- An action that is told, or nothing. -/
theorem gives_none {x : S6} {A0 : Option Addr} {es0 : List El} {W w' : World} {A : Option Addr} {c : Nat} {es : List El} {e : Ending} (he : e = .returned (.tuple #[stV x A es.length c, .slice none 0 0])) (hS : InS w' A c es x)
    (hF : ∀ X, X < W.heap.size → Off X A0 es0 → Off X A es) (hb : Below W.heap.size W w') : GivesS (x, []) A0 es0 W e w' :=
  ⟨A, c, es, none, 0, [], he, hS, InA.nil (by decide), rfl, fun X hX => ⟨(fun a ha => by cases ha), fun ho => ⟨hF X hX ho, by simp⟩⟩, hb⟩
theorem gives_one {x : S6} {A0 : Option Addr} {es0 : List El} {W w' : World} {a : AcE} {g : Nat} {e : Ending} (he : e = .returned (.tuple #[stV x none 0 0, .slice (some ⟨g, 0, none⟩) 1 1])) (hg : W.heap.size ≤ g) (hI : InA w' (some ⟨g, 0, none⟩) 1 [a])
    (hS : InS w' none 0 [] x) (hF : ∀ X, X < W.heap.size → Off X A0 es0 → Off X a.A a.es) (hb : Below W.heap.size W w') : GivesS (x, [a.plain]) A0 es0 W e w' :=
  ⟨none, 0, [], some ⟨g, 0, none⟩, 1, [a], he, hS, hI, rfl, fun X hX => ⟨(fun b hb2 _ hX2 => by injection hb2 with hb2; subst hb2; simp at hX2; omega), fun ho => ⟨Off.nil, fun y hy => by simp at hy; subst hy; exact hF X hX ho⟩⟩, hb⟩
/-- What ESC and one of 48 to 126 begin. -/
def escN (k : Nat) : S6 := if k = 91 then begunS 3 else if k = 93 then begunS 7 else if k = 80 then begunS 8 else if k = 88 ∨ k = 94 ∨ k = 95 then kindS k else zeroS
theorem open_esc {k : Nat} (hk : 48 ≤ k ∧ k ≤ 126) : openS ((k : Int) + 64) = escN k := by
  unfold openS escN
  by_cases h1 : k = 91
  · subst h1; rfl
  by_cases h2 : k = 93
  · subst h2; rfl
  by_cases h3 : k = 80
  · subst h3; rfl
  by_cases h4 : k = 88
  · subst h4; rfl
  by_cases h5 : k = 94
  · subst h5; rfl
  by_cases h6 : k = 95
  · subst h6; rfl
  rw [if_neg (by omega), if_neg (by omega), if_neg (by omega), if_neg (by omega), if_neg (by omega), if_neg (by omega), if_neg h1, if_neg h2, if_neg h3, if_neg (by omega)]
theorem escN_par (k : Nat) : (escN k).par = zeroP := by
  unfold escN
  repeat' split
  all_goals rfl
theorem escN_is {s : S6} {k : Nat} (hk : 48 ≤ k) (h1 : s.at_ = 1) (hn : (escN k).at_ ≠ 0) : escS s (k : Int) = (escN k, []) := by
  unfold escN at hn ⊢
  unfold escS
  rw [if_neg (by omega)]
  by_cases e1 : k = 91
  · subst e1; rw [if_pos ⟨h1, rfl⟩]; rfl
  by_cases e2 : k = 93
  · subst e2; rw [if_neg (by omega), if_pos ⟨h1, rfl⟩]; rfl
  by_cases e3 : k = 80
  · subst e3; rw [if_neg (by omega), if_neg (by omega), if_pos ⟨h1, rfl⟩]; rfl
  rw [if_neg e1, if_neg e2, if_neg e3] at hn ⊢
  by_cases e4 : k = 88 ∨ k = 94 ∨ k = 95
  · rw [if_neg (by omega), if_neg (by omega), if_neg (by omega), if_pos ⟨h1, by omega⟩, if_pos e4]; rfl
  · rw [if_neg e4] at hn; exact absurd rfl hn
theorem escN_no {s : S6} {k : Nat} (hk : 48 ≤ k) (hn : s.at_ ≠ 1 ∨ (escN k).at_ = 0) : escS s (k : Int) = (zeroS, if s.over then [] else [⟨3, 0, k, s.inter, [], []⟩]) := by
  unfold escS
  rw [if_neg (by omega)]
  have hh : s.at_ = 1 → ¬ (k = 91 ∨ k = 93 ∨ k = 80 ∨ k = 88 ∨ k = 94 ∨ k = 95) := by
    intro h1 h
    rcases hn with hn | hn
    · exact hn h1
    · unfold escN at hn
      rcases h with rfl | rfl | rfl | rfl | rfl | rfl <;> simp [begunS, kindS] at hn
  rw [if_neg (by rintro ⟨h1, h2⟩; exact hh h1 (by omega)), if_neg (by rintro ⟨h1, h2⟩; exact hh h1 (by omega)), if_neg (by rintro ⟨h1, h2⟩; exact hh h1 (by omega)), if_neg (by rintro ⟨h1, h2⟩; exact hh h1 (by omega))]
  rfl
set_option maxRecDepth 100000 in
set_option maxHeartbeats 2000000 in
theorem inEscape_coll (s : S6) (A : Option Addr) (c k : Nat) (es : List El) (w : World) (hk : 32 ≤ k ∧ k ≤ 47) (hs : s.inter.length ≤ 2) (hS : InS w A c es s) :
    Calls Tryd.prog 44 #[stV s A es.length c, .int .u8 (k : Int)] w (GivesS (collectS s (k : Int) 2, []) A es w) := by
  have HH := Lib.hid (two_sts w 28 s A es.length c)
  have HS := Lib.hid hS
  have hp : (collC s k 2).par = s.par := by unfold collC; split <;> rfl
  have HP := Lib.hid hp
  rw [← collC_eq hs]
  have hcl := fun V => collected_c s A es.length c k 2 (by omega) hs V
  have hmi : ∀ V, Calls Tryd.prog 34 #[.int .u8 (k : Int)] V fun e w' => e = .returned (.bool true) ∧ w' = V := fun V => by
    have h := isInter_c k (by omega) V
    rw [show midB k = true from decide_eq_true hk] at h
    exact h
  clear hS hs hk hp
  generalize collC s k 2 = y at *
  simp only [stV_eq s]
  go_enter Tryd.func44, Tryd.ntmps44
  go_upto_region 1 with fail
  obtain ⟨hA, hB, hbel, hsz⟩ := HH.out
  clear HH
  generalize (w.alloc (.cells #[.int .i64 s.at_, .string (strS s.inter), .bool s.over, .slice A es.length c, .bool s.par.o, .string (strS s.text), .int .u8 (s.kind : Int)] 28)).alloc (.cells #[.int .i64 0, .string ⟨#[]⟩, .bool false, .slice none 0 0, .bool false, .string ⟨#[]⟩, .int .u8 0] 28) = W at *
  obtain ⟨a0, a1, a2, a3, a4, a5, a6⟩ := hA.st'
  have HB := Lib.hid (And.intro hA (And.intro hB hbel))
  clear hA hB hbel
  simp only [stV_eq] at hcl
  go_wp2_with fail
  refine (hmi _).mono ?_
  rintro e w1 ⟨rfl, rfl⟩
  clear hmi
  go_wp2_with fail
  refine (hcl _).mono ?_
  rintro e w2 ⟨rfl, hb2⟩
  have hR := HB.out.2.1.below hb2 HB.out.2.1.lt
  have hbl := HB.out.2.2.trans (hb2.mono HB.out.2.2.size)
  obtain ⟨c0, c1, c2, c3, c4, c5, c6⟩ := hR.cells7s
  obtain ⟨f0, f1, f2, f3, f4, f5, f6⟩ := hR.free7s
  have hX := hR.sto7 hbl (by omega : w.heap.size ≤ w.heap.size + 1) (.int .i64 y.at_) (.string (strS y.inter)) (.bool y.over) (.slice A es.length c) (.bool y.par.o) (.string (strS y.text)) (.int .u8 (y.kind : Int))
  have HX := Lib.hid hX
  clear hX hR hbl hb2 hcl HB a0 a1 a2 a3 a4 a5 a6
  go_wp2_with fail
  exact bodyPost_ret (ret_s2 rfl y A es.length c _ _ (w.heap.size + 1) _ _ rfl rfl HX.out.1) rfl (gives_none rfl ⟨HS.out.inp.on HX.out.2, by rw [HP.out]; exact HS.out.reads⟩ (fun X hX h => h) HX.out.2)
set_option maxRecDepth 100000 in
set_option maxHeartbeats 2000000 in
theorem inEscape_begin (s : S6) (A : Option Addr) (c k : Nat) (es : List El) (w : World) (hk : 48 ≤ k ∧ k ≤ 126) (h1 : s.at_ = 1) (hn : (escN k).at_ ≠ 0) (hS : InS w A c es s) :
    Calls Tryd.prog 44 #[stV s A es.length c, .int .u8 (k : Int)] w (GivesS (escN k, []) A es w) := by
  have HH := Lib.hid (two_sts w 28 s A es.length c)
  have HP := Lib.hid (escN_par k)
  have hop := fun V => opened_c ((k : Int) + 64) V
  rw [open_esc hk] at hop
  have hmi : ∀ V, Calls Tryd.prog 34 #[.int .u8 (k : Int)] V fun e w' => e = .returned (.bool false) ∧ w' = V := fun V => by
    have h := isInter_c k (by omega) V
    rw [show midB k = false from decide_eq_false (by omega)] at h
    exact h
  have e1 : (s.at_ == 1) = true := beq_iff_eq.2 h1
  have z0 : (0 : Int) ≤ k := by omega
  have z1 : (k : Int) ≤ 126 := by omega
  clear hS hk h1
  generalize escN k = y at *
  have e2 : (y.at_ == 0) = false := beq_eq_false_iff_ne.2 hn
  clear hn
  simp only [stV_eq s]
  go_enter Tryd.func44, Tryd.ntmps44
  go_upto_region 1 with fail
  obtain ⟨hA, hB, hbel, hsz⟩ := HH.out
  clear HH
  generalize (w.alloc (.cells #[.int .i64 s.at_, .string (strS s.inter), .bool s.over, .slice A es.length c, .bool s.par.o, .string (strS s.text), .int .u8 (s.kind : Int)] 28)).alloc (.cells #[.int .i64 0, .string ⟨#[]⟩, .bool false, .slice none 0 0, .bool false, .string ⟨#[]⟩, .int .u8 0] 28) = W at *
  obtain ⟨a0, a1, a2, a3, a4, a5, a6⟩ := hA.st'
  have HB := Lib.hid (And.intro hA (And.intro hB hbel))
  clear hA hB hbel
  simp only [stV_eq] at hop
  go_wp2_with fail
  refine (hmi _).mono ?_
  rintro e w1 ⟨rfl, rfl⟩
  clear hmi
  go_wp2_with fail
  refine (hop _).mono ?_
  rintro e w2 ⟨rfl, hb2⟩
  have hR2 := HB.out.2.1.below hb2 HB.out.2.1.lt
  have hbl := HB.out.2.2.trans (hb2.mono HB.out.2.2.size)
  have hX := hR2.sto7 hbl (by omega : w.heap.size ≤ w.heap.size + 1) (.int .i64 y.at_) (.string (strS y.inter)) (.bool y.over) (.slice none 0 0) (.bool y.par.o) (.string (strS y.text)) (.int .u8 (y.kind : Int))
  have hY := And.intro (hX.1.alloc (.cells (stCells y none 0 0) 28)) (hX.2.alloc hX.2.size (.cells (stCells y none 0 0) 28))
  have hlt := hR2.lt
  obtain ⟨c0, c1, c2, c3, c4, c5, c6⟩ := hR2.cells7s
  obtain ⟨f0, f1, f2, f3, f4, f5, f6⟩ := hR2.free7s
  have HX := Lib.hid hY
  clear hX hY hbl hb2 hop HB hR2 a0 a1 a2 a3 a4 a5 a6
  go_wp2_with fail
  exact bodyPost_ret (ret_s2 rfl y none 0 0 _ _ (w.heap.size + 1) _ _ rfl rfl HX.out.1) rfl (gives_none (es := []) rfl ⟨⟨Nest.nil, Nat.le_refl _, by decide⟩, by rw [HP.out]; rfl⟩ (fun X hX h => Off.nil) HX.out.2)
set_option maxRecDepth 100000 in
set_option maxHeartbeats 2000000 in
theorem inEscape_end_true_1 (s : S6) (A : Option Addr) (c k : Nat) (es : List El) (w : World) (hk : 48 ≤ k ∧ k ≤ 126) (h1 : s.at_ = 1) (hn : (escN k).at_ = 0) (ho : s.over = true) :
    Calls Tryd.prog 44 #[stV s A es.length c, .int .u8 (k : Int)] w (GivesS (zeroS, []) A es w) := by
  have HH := Lib.hid (two_sts w 28 s A es.length c)
  have hop := fun V => opened_c ((k : Int) + 64) V
  rw [open_esc hk] at hop
  have hmi : ∀ V, Calls Tryd.prog 34 #[.int .u8 (k : Int)] V fun e w' => e = .returned (.bool false) ∧ w' = V := fun V => by
    have h := isInter_c k (by omega) V
    rw [show midB k = false from decide_eq_false (by omega)] at h
    exact h
  have hfn : ∀ V, Calls Tryd.prog 53 #[stV s A es.length c, .agg #[.int .i64 3, .int .i64 0, .int .u8 (k : Int), .string (strS s.inter), .slice none 0 0, .string ⟨#[]⟩]] V fun x w' => x = .returned (.tuple #[stV zeroS none 0 0, .slice none 0 0]) ∧ Below V.heap.size V w' := fun V => finished_no s A es.length c ⟨3, 0, k, s.inter, none, 0, [], []⟩ V ho
  have e1 : (s.at_ == 1) = true := beq_iff_eq.2 h1
  have z0 : (0 : Int) ≤ k := by omega
  have z1 : (k : Int) ≤ 126 := by omega
  clear hk h1 ho
  generalize escN k = y at *
  have e2 : (y.at_ == 0) = true := beq_iff_eq.2 hn
  clear hn
  simp only [stV_eq s]
  go_enter Tryd.func44, Tryd.ntmps44
  go_upto_region 1 with fail
  obtain ⟨hA, hB, hbel, hsz⟩ := HH.out
  clear HH
  generalize (w.alloc (.cells #[.int .i64 s.at_, .string (strS s.inter), .bool s.over, .slice A es.length c, .bool s.par.o, .string (strS s.text), .int .u8 (s.kind : Int)] 28)).alloc (.cells #[.int .i64 0, .string ⟨#[]⟩, .bool false, .slice none 0 0, .bool false, .string ⟨#[]⟩, .int .u8 0] 28) = W at *
  obtain ⟨a0, a1, a2, a3, a4, a5, a6⟩ := hA.st'
  have HB := Lib.hid (And.intro hA (And.intro hB hbel))
  clear hA hB hbel
  simp only [stV_eq s] at hfn
  simp only [stV_eq] at hop
  go_wp2_with fail
  refine (hmi _).mono ?_
  rintro e w1 ⟨rfl, rfl⟩
  clear hmi
  go_wp2_with fail
  refine (hop _).mono ?_
  rintro e w2 ⟨rfl, hb2⟩
  have hal : Below w1.heap.size w1 (w2.alloc (.cells #[.int .i64 y.at_, .string (strS y.inter), .bool y.over, .slice none 0 0, .bool y.par.o, .string (strS y.text), .int .u8 (y.kind : Int)] 28)) := hb2.alloc hb2.size _
  have hB3 := And.intro (HB.out.1.below hal HB.out.1.lt) (And.intro (HB.out.2.1.below hal HB.out.2.1.lt) (HB.out.2.2.trans (hal.mono HB.out.2.2.size)))
  have hA2 := HB.out.1.below hb2 HB.out.1.lt
  have hlt2 := hA2.lt
  have HB := Lib.hid hB3
  clear hB3 hal hb2 hop a0 a1 a2 a3 a4 a5 a6
  obtain ⟨a0, a1, a2, a3, a4, a5, a6⟩ := hA2.st'
  clear hA2
  go_wp2_with fail
  refine (hfn _).mono ?_
  rintro e w8 ⟨rfl, hb8⟩
  have hR := HB.out.2.1.below hb8 HB.out.2.1.lt
  have hbl := HB.out.2.2.trans (hb8.mono HB.out.2.2.size)
  have hX := hR.sto7 hbl (by omega : w.heap.size ≤ w.heap.size + 1) (.int .i64 0) (.string ⟨#[]⟩) (.bool false) (.slice none 0 0) (.bool false) (.string ⟨#[]⟩) (.int .u8 0)
  obtain ⟨c0, c1, c2, c3, c4, c5, c6⟩ := hR.cells7s
  obtain ⟨f0, f1, f2, f3, f4, f5, f6⟩ := hR.free7s
  have HX := Lib.hid hX
  clear hX hR hbl hb8 hfn HB a0 a1 a2 a3 a4 a5 a6
  simp only [stV_eq]
  go_wp2_with fail
  exact bodyPost_ret (ret_s2 rfl zeroS none 0 0 _ _ (w.heap.size + 1) _ _ rfl rfl HX.out.1) rfl (gives_none (es := []) rfl (InS.zero _) (fun X hX h => Off.nil) HX.out.2)
set_option maxRecDepth 100000 in
set_option maxHeartbeats 2000000 in
theorem inEscape_end_true_2 (s : S6) (A : Option Addr) (c k : Nat) (es : List El) (w : World) (hk : 48 ≤ k ∧ k ≤ 126) (h1 : s.at_ ≠ 1) (ho : s.over = true) :
    Calls Tryd.prog 44 #[stV s A es.length c, .int .u8 (k : Int)] w (GivesS (zeroS, []) A es w) := by
  have HH := Lib.hid (two_sts w 28 s A es.length c)
  have hmi : ∀ V, Calls Tryd.prog 34 #[.int .u8 (k : Int)] V fun e w' => e = .returned (.bool false) ∧ w' = V := fun V => by
    have h := isInter_c k (by omega) V
    rw [show midB k = false from decide_eq_false (by omega)] at h
    exact h
  have hfn : ∀ V, Calls Tryd.prog 53 #[stV s A es.length c, .agg #[.int .i64 3, .int .i64 0, .int .u8 (k : Int), .string (strS s.inter), .slice none 0 0, .string ⟨#[]⟩]] V fun x w' => x = .returned (.tuple #[stV zeroS none 0 0, .slice none 0 0]) ∧ Below V.heap.size V w' := fun V => finished_no s A es.length c ⟨3, 0, k, s.inter, none, 0, [], []⟩ V ho
  have e1 : (s.at_ == 1) = false := beq_eq_false_iff_ne.2 h1
  clear hk h1 ho
  simp only [stV_eq s]
  go_enter Tryd.func44, Tryd.ntmps44
  go_upto_region 1 with fail
  obtain ⟨hA, hB, hbel, hsz⟩ := HH.out
  clear HH
  generalize (w.alloc (.cells #[.int .i64 s.at_, .string (strS s.inter), .bool s.over, .slice A es.length c, .bool s.par.o, .string (strS s.text), .int .u8 (s.kind : Int)] 28)).alloc (.cells #[.int .i64 0, .string ⟨#[]⟩, .bool false, .slice none 0 0, .bool false, .string ⟨#[]⟩, .int .u8 0] 28) = W at *
  obtain ⟨a0, a1, a2, a3, a4, a5, a6⟩ := hA.st'
  have HB := Lib.hid (And.intro hA (And.intro hB hbel))
  clear hA hB hbel
  simp only [stV_eq s] at hfn
  go_wp2_with fail
  refine (hmi _).mono ?_
  rintro e w1 ⟨rfl, rfl⟩
  clear hmi
  go_wp2_with fail
  refine (hfn _).mono ?_
  rintro e w8 ⟨rfl, hb8⟩
  have hR := HB.out.2.1.below hb8 HB.out.2.1.lt
  have hbl := HB.out.2.2.trans (hb8.mono HB.out.2.2.size)
  have hX := hR.sto7 hbl (by omega : w.heap.size ≤ w.heap.size + 1) (.int .i64 0) (.string ⟨#[]⟩) (.bool false) (.slice none 0 0) (.bool false) (.string ⟨#[]⟩) (.int .u8 0)
  obtain ⟨c0, c1, c2, c3, c4, c5, c6⟩ := hR.cells7s
  obtain ⟨f0, f1, f2, f3, f4, f5, f6⟩ := hR.free7s
  have HX := Lib.hid hX
  clear hX hR hbl hb8 hfn HB a0 a1 a2 a3 a4 a5 a6
  simp only [stV_eq]
  go_wp2_with fail
  exact bodyPost_ret (ret_s2 rfl zeroS none 0 0 _ _ (w.heap.size + 1) _ _ rfl rfl HX.out.1) rfl (gives_none (es := []) rfl (InS.zero _) (fun X hX h => Off.nil) HX.out.2)
set_option maxRecDepth 100000 in
set_option maxHeartbeats 2000000 in
theorem inEscape_end_false_1 (s : S6) (A : Option Addr) (c k : Nat) (es : List El) (w : World) (hk : 48 ≤ k ∧ k ≤ 126) (h1 : s.at_ = 1) (hn : (escN k).at_ = 0) (ho : s.over = false) :
    Calls Tryd.prog 44 #[stV s A es.length c, .int .u8 (k : Int)] w (GivesS (zeroS, [(⟨3, 0, k, s.inter, [], []⟩ : A6)]) A es w) := by
  have HH := Lib.hid (two_sts w 28 s A es.length c)
  have hop := fun V => opened_c ((k : Int) + 64) V
  rw [open_esc hk] at hop
  have hmi : ∀ V, Calls Tryd.prog 34 #[.int .u8 (k : Int)] V fun e w' => e = .returned (.bool false) ∧ w' = V := fun V => by
    have h := isInter_c k (by omega) V
    rw [show midB k = false from decide_eq_false (by omega)] at h
    exact h
  have hf1 : ∀ V, Calls Tryd.prog 53 #[stV s A es.length c, .agg #[.int .i64 3, .int .i64 0, .int .u8 (k : Int), .string (strS s.inter), .slice none 0 0, .string ⟨#[]⟩]] V (Tell1 ⟨3, 0, k, s.inter, none, 0, [], []⟩ V) := fun V => finished_one s A es.length c ⟨3, 0, k, s.inter, none, 0, [], []⟩ V ⟨Nest.nil, Nat.le_refl _, Nat.zero_le _⟩ ho
  have e1 : (s.at_ == 1) = true := beq_iff_eq.2 h1
  have z0 : (0 : Int) ≤ k := by omega
  have z1 : (k : Int) ≤ 126 := by omega
  clear hk h1 ho
  generalize escN k = y at *
  have e2 : (y.at_ == 0) = true := beq_iff_eq.2 hn
  clear hn
  simp only [stV_eq s]
  go_enter Tryd.func44, Tryd.ntmps44
  go_upto_region 1 with fail
  obtain ⟨hA, hB, hbel, hsz⟩ := HH.out
  clear HH
  generalize (w.alloc (.cells #[.int .i64 s.at_, .string (strS s.inter), .bool s.over, .slice A es.length c, .bool s.par.o, .string (strS s.text), .int .u8 (s.kind : Int)] 28)).alloc (.cells #[.int .i64 0, .string ⟨#[]⟩, .bool false, .slice none 0 0, .bool false, .string ⟨#[]⟩, .int .u8 0] 28) = W at *
  obtain ⟨a0, a1, a2, a3, a4, a5, a6⟩ := hA.st'
  have HB := Lib.hid (And.intro hA (And.intro hB hbel))
  clear hA hB hbel
  simp only [stV_eq s] at hf1
  simp only [stV_eq] at hop
  go_wp2_with fail
  refine (hmi _).mono ?_
  rintro e w1 ⟨rfl, rfl⟩
  clear hmi
  go_wp2_with fail
  refine (hop _).mono ?_
  rintro e w2 ⟨rfl, hb2⟩
  have hal : Below w1.heap.size w1 (w2.alloc (.cells #[.int .i64 y.at_, .string (strS y.inter), .bool y.over, .slice none 0 0, .bool y.par.o, .string (strS y.text), .int .u8 (y.kind : Int)] 28)) := hb2.alloc hb2.size _
  have hB3 := And.intro (HB.out.1.below hal HB.out.1.lt) (And.intro (HB.out.2.1.below hal HB.out.2.1.lt) (HB.out.2.2.trans (hal.mono HB.out.2.2.size)))
  have hA2 := HB.out.1.below hb2 HB.out.1.lt
  have hlt2 := hA2.lt
  have HB := Lib.hid hB3
  clear hB3 hal hb2 hop a0 a1 a2 a3 a4 a5 a6
  obtain ⟨a0, a1, a2, a3, a4, a5, a6⟩ := hA2.st'
  clear hA2
  go_wp2_with fail
  refine (hf1 _).mono ?_
  rintro e w8 ⟨g, hg, rfl, hI, hb8⟩
  have hlt := HB.out.2.1.lt
  have hR := HB.out.2.1.below hb8 HB.out.2.1.lt
  have hbl := HB.out.2.2.trans (hb8.mono HB.out.2.2.size)
  have hX := hR.sto7 hbl (by omega : w.heap.size ≤ w.heap.size + 1) (.int .i64 0) (.string ⟨#[]⟩) (.bool false) (.slice none 0 0) (.bool false) (.string ⟨#[]⟩) (.int .u8 0)
  have hJ := hI.set7 (X := w.heap.size + 1) (by intro a ha _ hb; injection ha with ha; subst ha; simp at hb; omega) (by intro x hx; simp at hx; subst hx; exact Off.nil) (.int .i64 0) (.string ⟨#[]⟩) (.bool false) (.slice none 0 0) (.bool false) (.string ⟨#[]⟩) (.int .u8 0)
  obtain ⟨c0, c1, c2, c3, c4, c5, c6⟩ := hR.cells7s
  obtain ⟨f0, f1, f2, f3, f4, f5, f6⟩ := hR.free7s
  have hgw : w.heap.size ≤ g := Nat.le_trans HB.out.2.2.size hg
  have HX := Lib.hid (And.intro hX (And.intro hJ hgw))
  clear hX hR hbl hb8 hf1 HB a0 a1 a2 a3 a4 a5 a6 hI hJ hgw hlt hg
  simp only [stV_eq]
  go_wp2_with fail
  exact bodyPost_ret (ret_s2 rfl zeroS none 0 0 _ _ (w.heap.size + 1) _ _ rfl rfl HX.out.1.1) rfl (gives_one (a := ⟨3, 0, k, s.inter, none, 0, [], []⟩) rfl HX.out.2.2 HX.out.2.1 (InS.zero _) (fun X hX h => Off.nil) HX.out.1.2)
set_option maxRecDepth 100000 in
set_option maxHeartbeats 2000000 in
theorem inEscape_end_false_2 (s : S6) (A : Option Addr) (c k : Nat) (es : List El) (w : World) (hk : 48 ≤ k ∧ k ≤ 126) (h1 : s.at_ ≠ 1) (ho : s.over = false) :
    Calls Tryd.prog 44 #[stV s A es.length c, .int .u8 (k : Int)] w (GivesS (zeroS, [(⟨3, 0, k, s.inter, [], []⟩ : A6)]) A es w) := by
  have HH := Lib.hid (two_sts w 28 s A es.length c)
  have hmi : ∀ V, Calls Tryd.prog 34 #[.int .u8 (k : Int)] V fun e w' => e = .returned (.bool false) ∧ w' = V := fun V => by
    have h := isInter_c k (by omega) V
    rw [show midB k = false from decide_eq_false (by omega)] at h
    exact h
  have hf1 : ∀ V, Calls Tryd.prog 53 #[stV s A es.length c, .agg #[.int .i64 3, .int .i64 0, .int .u8 (k : Int), .string (strS s.inter), .slice none 0 0, .string ⟨#[]⟩]] V (Tell1 ⟨3, 0, k, s.inter, none, 0, [], []⟩ V) := fun V => finished_one s A es.length c ⟨3, 0, k, s.inter, none, 0, [], []⟩ V ⟨Nest.nil, Nat.le_refl _, Nat.zero_le _⟩ ho
  have e1 : (s.at_ == 1) = false := beq_eq_false_iff_ne.2 h1
  clear hk h1 ho
  simp only [stV_eq s]
  go_enter Tryd.func44, Tryd.ntmps44
  go_upto_region 1 with fail
  obtain ⟨hA, hB, hbel, hsz⟩ := HH.out
  clear HH
  generalize (w.alloc (.cells #[.int .i64 s.at_, .string (strS s.inter), .bool s.over, .slice A es.length c, .bool s.par.o, .string (strS s.text), .int .u8 (s.kind : Int)] 28)).alloc (.cells #[.int .i64 0, .string ⟨#[]⟩, .bool false, .slice none 0 0, .bool false, .string ⟨#[]⟩, .int .u8 0] 28) = W at *
  obtain ⟨a0, a1, a2, a3, a4, a5, a6⟩ := hA.st'
  have HB := Lib.hid (And.intro hA (And.intro hB hbel))
  clear hA hB hbel
  simp only [stV_eq s] at hf1
  go_wp2_with fail
  refine (hmi _).mono ?_
  rintro e w1 ⟨rfl, rfl⟩
  clear hmi
  go_wp2_with fail
  refine (hf1 _).mono ?_
  rintro e w8 ⟨g, hg, rfl, hI, hb8⟩
  have hlt := HB.out.2.1.lt
  have hR := HB.out.2.1.below hb8 HB.out.2.1.lt
  have hbl := HB.out.2.2.trans (hb8.mono HB.out.2.2.size)
  have hX := hR.sto7 hbl (by omega : w.heap.size ≤ w.heap.size + 1) (.int .i64 0) (.string ⟨#[]⟩) (.bool false) (.slice none 0 0) (.bool false) (.string ⟨#[]⟩) (.int .u8 0)
  have hJ := hI.set7 (X := w.heap.size + 1) (by intro a ha _ hb; injection ha with ha; subst ha; simp at hb; omega) (by intro x hx; simp at hx; subst hx; exact Off.nil) (.int .i64 0) (.string ⟨#[]⟩) (.bool false) (.slice none 0 0) (.bool false) (.string ⟨#[]⟩) (.int .u8 0)
  obtain ⟨c0, c1, c2, c3, c4, c5, c6⟩ := hR.cells7s
  obtain ⟨f0, f1, f2, f3, f4, f5, f6⟩ := hR.free7s
  have hgw : w.heap.size ≤ g := Nat.le_trans HB.out.2.2.size hg
  have HX := Lib.hid (And.intro hX (And.intro hJ hgw))
  clear hX hR hbl hb8 hf1 HB a0 a1 a2 a3 a4 a5 a6 hI hJ hgw hlt hg
  simp only [stV_eq]
  go_wp2_with fail
  exact bodyPost_ret (ret_s2 rfl zeroS none 0 0 _ _ (w.heap.size + 1) _ _ rfl rfl HX.out.1.1) rfl (gives_one (a := ⟨3, 0, k, s.inter, none, 0, [], []⟩) rfl HX.out.2.2 HX.out.2.1 (InS.zero _) (fun X hX h => Off.nil) HX.out.1.2)
/-- An escape sequence. -/
theorem inEscape_c (s : S6) (A : Option Addr) (c k : Nat) (es : List El) (w : World) (hk : 32 ≤ k ∧ k ≤ 126) (hs : SaneS s) (hS : InS w A c es s) :
    Calls Tryd.prog 44 #[stV s A es.length c, .int .u8 (k : Int)] w (GivesS (escS s (k : Int)) A es w) := by
  by_cases h0 : k ≤ 47
  · have e : escS s (k : Int) = (collectS s (k : Int) 2, []) := by unfold escS; rw [if_pos (by omega)]
    rw [e]
    exact inEscape_coll s A c k es w ⟨hk.1, h0⟩ hs.short hS
  · have hk' : 48 ≤ k ∧ k ≤ 126 := by omega
    by_cases h1 : s.at_ = 1
    · by_cases hn : (escN k).at_ = 0
      · rw [escN_no hk'.1 (.inr hn)]
        cases ho : s.over with
        | true => exact inEscape_end_true_1 s A c k es w hk' h1 hn ho
        | false => exact inEscape_end_false_1 s A c k es w hk' h1 hn ho
      · rw [escN_is hk'.1 h1 hn]
        exact inEscape_begin s A c k es w hk' h1 hn hS
    · rw [escN_no hk'.1 (.inl h1)]
      cases ho : s.over with
      | true => exact inEscape_end_true_2 s A c k es w hk' h1 ho
      | false => exact inEscape_end_false_2 s A c k es w hk' h1 ho
end Go.Proofs.YtiaippdaogmcmaaDoor

namespace Go.Proofs.YtiaippdaogmcmaaDoor
open Go Go.RowKit
set_option linter.unusedVariables false
set_option linter.unusedSimpArgs false

set_option maxRecDepth 100000 in
set_option maxHeartbeats 2000000 in
theorem inCsi_coll (s : S6) (A : Option Addr) (c k : Nat) (es : List El) (w : World) (hk : 32 ≤ k ∧ k ≤ 47) (hs : s.inter.length ≤ 2) (hS : InS w A c es s) :
    Calls Tryd.prog 46 #[stV s A es.length c, .int .u8 (k : Int)] w (GivesS (collectS s (k : Int) 5, []) A es w) := by
  have HH := Lib.hid (two_sts w 28 s A es.length c)
  have HS := Lib.hid hS
  have hp : (collC s k 5).par = s.par := by unfold collC; split <;> rfl
  have HP := Lib.hid hp
  rw [← collC_eq hs]
  have hcl := fun V => collected_c s A es.length c k 5 (by omega) hs V
  have hmi : ∀ V, Calls Tryd.prog 34 #[.int .u8 (k : Int)] V fun e w' => e = .returned (.bool true) ∧ w' = V := fun V => by
    have h := isInter_c k (by omega) V
    rw [show midB k = true from decide_eq_true (by omega)] at h
    exact h
  clear hS hs hk hp
  generalize collC s k 5 = y at *
  simp only [stV_eq s]
  go_enter Tryd.func46, Tryd.ntmps46
  go_upto_region 1 with fail
  obtain ⟨hA, hB, hbel, hsz⟩ := HH.out
  clear HH
  generalize (w.alloc (.cells #[.int .i64 s.at_, .string (strS s.inter), .bool s.over, .slice A es.length c, .bool s.par.o, .string (strS s.text), .int .u8 (s.kind : Int)] 28)).alloc (.cells #[.int .i64 0, .string ⟨#[]⟩, .bool false, .slice none 0 0, .bool false, .string ⟨#[]⟩, .int .u8 0] 28) = W at *
  obtain ⟨a0, a1, a2, a3, a4, a5, a6⟩ := hA.st'
  have HB := Lib.hid (And.intro hA (And.intro hB hbel))
  clear hA hB hbel
  simp only [stV_eq] at hcl
  go_wp2_with fail
  refine (hmi _).mono ?_
  rintro e w1 ⟨rfl, rfl⟩
  clear hmi
  go_wp2_with fail
  refine (hcl _).mono ?_
  rintro e w2 ⟨rfl, hb2⟩
  have hR := HB.out.2.1.below hb2 HB.out.2.1.lt
  have hbl := HB.out.2.2.trans (hb2.mono HB.out.2.2.size)
  obtain ⟨c0, c1, c2, c3, c4, c5, c6⟩ := hR.cells7s
  obtain ⟨f0, f1, f2, f3, f4, f5, f6⟩ := hR.free7s
  have hX := hR.sto7 hbl (by omega : w.heap.size ≤ w.heap.size + 1) (.int .i64 y.at_) (.string (strS y.inter)) (.bool y.over) (.slice A es.length c) (.bool y.par.o) (.string (strS y.text)) (.int .u8 (y.kind : Int))
  have HX := Lib.hid hX
  clear hX hR hbl hb2 hcl HB a0 a1 a2 a3 a4 a5 a6
  go_wp2_with fail
  exact bodyPost_ret (ret_s2 rfl y A es.length c _ _ (w.heap.size + 1) _ _ rfl rfl HX.out.1) rfl (gives_none rfl ⟨HS.out.inp.on HX.out.2, by rw [HP.out]; exact HS.out.reads⟩ (fun X hX h => h) HX.out.2)
set_option maxRecDepth 100000 in
set_option maxHeartbeats 2000000 in
theorem inCsi_sign (s : S6) (A : Option Addr) (c k : Nat) (es : List El) (w : World) (hk : 60 ≤ k ∧ k ≤ 63) (h3 : s.at_ = 3) (hs : s.inter.length ≤ 2) (hS : InS w A c es s) :
    Calls Tryd.prog 46 #[stV s A es.length c, .int .u8 (k : Int)] w (GivesS (collectS s (k : Int) 4, []) A es w) := by
  have HH := Lib.hid (two_sts w 28 s A es.length c)
  have HS := Lib.hid hS
  have hp : (collC s k 4).par = s.par := by unfold collC; split <;> rfl
  have HP := Lib.hid hp
  rw [← collC_eq hs]
  have hcl := fun V => collected_c s A es.length c k 4 (by omega) hs V
  have hmi : ∀ V, Calls Tryd.prog 34 #[.int .u8 (k : Int)] V fun e w' => e = .returned (.bool false) ∧ w' = V := fun V => by
    have h := isInter_c k (by omega) V
    rw [show midB k = false from decide_eq_false (by omega)] at h
    exact h
  have hpr : ∀ V, Calls Tryd.prog 35 #[.int .u8 (k : Int)] V fun e w' => e = .returned (.bool true) ∧ w' = V := fun V => by
    have h := isPrivate_c k (by omega) V
    rw [show signB k = true from decide_eq_true (by omega)] at h
    exact h
  have e3 : (s.at_ == 3) = true := beq_iff_eq.2 h3
  have z6 : ¬ (k : Int) ≥ 64 := by omega
  clear h3
  clear hS hs hk hp
  generalize collC s k 4 = y at *
  simp only [stV_eq s]
  go_enter Tryd.func46, Tryd.ntmps46
  go_upto_region 1 with fail
  obtain ⟨hA, hB, hbel, hsz⟩ := HH.out
  clear HH
  generalize (w.alloc (.cells #[.int .i64 s.at_, .string (strS s.inter), .bool s.over, .slice A es.length c, .bool s.par.o, .string (strS s.text), .int .u8 (s.kind : Int)] 28)).alloc (.cells #[.int .i64 0, .string ⟨#[]⟩, .bool false, .slice none 0 0, .bool false, .string ⟨#[]⟩, .int .u8 0] 28) = W at *
  obtain ⟨a0, a1, a2, a3, a4, a5, a6⟩ := hA.st'
  have HB := Lib.hid (And.intro hA (And.intro hB hbel))
  clear hA hB hbel
  simp only [stV_eq] at hcl
  go_wp2_with fail
  refine (hmi _).mono ?_
  rintro e w1 ⟨rfl, rfl⟩
  clear hmi
  go_wp2_with fail
  refine (hpr _).mono ?_
  rintro e w1 ⟨rfl, rfl⟩
  clear hpr
  go_wp2_with fail
  refine (hcl _).mono ?_
  rintro e w2 ⟨rfl, hb2⟩
  have hR := HB.out.2.1.below hb2 HB.out.2.1.lt
  have hbl := HB.out.2.2.trans (hb2.mono HB.out.2.2.size)
  obtain ⟨c0, c1, c2, c3, c4, c5, c6⟩ := hR.cells7s
  obtain ⟨f0, f1, f2, f3, f4, f5, f6⟩ := hR.free7s
  have hX := hR.sto7 hbl (by omega : w.heap.size ≤ w.heap.size + 1) (.int .i64 y.at_) (.string (strS y.inter)) (.bool y.over) (.slice A es.length c) (.bool y.par.o) (.string (strS y.text)) (.int .u8 (y.kind : Int))
  have HX := Lib.hid hX
  clear hX hR hbl hb2 hcl HB a0 a1 a2 a3 a4 a5 a6
  go_wp2_with fail
  exact bodyPost_ret (ret_s2 rfl y A es.length c _ _ (w.heap.size + 1) _ _ rfl rfl HX.out.1) rfl (gives_none rfl ⟨HS.out.inp.on HX.out.2, by rw [HP.out]; exact HS.out.reads⟩ (fun X hX h => h) HX.out.2)
set_option maxRecDepth 100000 in
set_option maxHeartbeats 2000000 in
theorem inCsi_end_true (s : S6) (A : Option Addr) (c k : Nat) (es : List El) (w : World) (hk : 64 ≤ k ∧ k ≤ 126) (ho : s.over = true) (hS : InS w A c es s) :
    Calls Tryd.prog 46 #[stV s A es.length c, .int .u8 (k : Int)] w (GivesS (zeroS, []) A es w) := by
  have HH := Lib.hid (two_sts w 28 s A es.length c)
  have HS := Lib.hid hS
  have hmi : ∀ V, Calls Tryd.prog 34 #[.int .u8 (k : Int)] V fun e w' => e = .returned (.bool false) ∧ w' = V := fun V => by
    have h := isInter_c k (by omega) V
    rw [show midB k = false from decide_eq_false (by omega)] at h
    exact h
  have hfn : ∀ V, Calls Tryd.prog 53 #[stV s A es.length c, .agg #[.int .i64 4, .int .i64 0, .int .u8 (k : Int), .string (strS s.inter), .slice A es.length c, .string ⟨#[]⟩]] V fun x w' => x = .returned (.tuple #[stV zeroS none 0 0, .slice none 0 0]) ∧ Below V.heap.size V w' := fun V => finished_no s A es.length c ⟨4, 0, k, s.inter, A, c, es, []⟩ V ho
  have z6 : (k : Int) ≥ 64 := by omega
  clear hS hk ho
  simp only [stV_eq s]
  go_enter Tryd.func46, Tryd.ntmps46
  go_upto_region 1 with fail
  obtain ⟨hA, hB, hbel, hsz⟩ := HH.out
  clear HH
  generalize (w.alloc (.cells #[.int .i64 s.at_, .string (strS s.inter), .bool s.over, .slice A es.length c, .bool s.par.o, .string (strS s.text), .int .u8 (s.kind : Int)] 28)).alloc (.cells #[.int .i64 0, .string ⟨#[]⟩, .bool false, .slice none 0 0, .bool false, .string ⟨#[]⟩, .int .u8 0] 28) = W at *
  obtain ⟨a0, a1, a2, a3, a4, a5, a6⟩ := hA.st'
  have HB := Lib.hid (And.intro hA (And.intro hB hbel))
  clear hA hB hbel
  simp only [stV_eq s] at hfn
  go_wp2_with fail
  refine (hmi _).mono ?_
  rintro e w1 ⟨rfl, rfl⟩
  clear hmi
  go_wp2_with fail
  refine (hfn _).mono ?_
  rintro e w8 ⟨rfl, hb8⟩
  have hR := HB.out.2.1.below hb8 HB.out.2.1.lt
  have hbl := HB.out.2.2.trans (hb8.mono HB.out.2.2.size)
  have hX := hR.sto7 hbl (by omega : w.heap.size ≤ w.heap.size + 1) (.int .i64 0) (.string ⟨#[]⟩) (.bool false) (.slice none 0 0) (.bool false) (.string ⟨#[]⟩) (.int .u8 0)
  obtain ⟨c0, c1, c2, c3, c4, c5, c6⟩ := hR.cells7s
  obtain ⟨f0, f1, f2, f3, f4, f5, f6⟩ := hR.free7s
  have HX := Lib.hid hX
  clear hX hR hbl hb8 hfn HB a0 a1 a2 a3 a4 a5 a6
  simp only [stV_eq]
  go_wp2_with fail
  exact bodyPost_ret (ret_s2 rfl zeroS none 0 0 _ _ (w.heap.size + 1) _ _ rfl rfl HX.out.1) rfl (gives_none (es := []) rfl (InS.zero _) (fun X hX h => Off.nil) HX.out.2)
set_option maxRecDepth 100000 in
set_option maxHeartbeats 2000000 in
theorem inCsi_end_false (s : S6) (A : Option Addr) (c k : Nat) (es : List El) (w : World) (hk : 64 ≤ k ∧ k ≤ 126) (ho : s.over = false) (hS : InS w A c es s) :
    Calls Tryd.prog 46 #[stV s A es.length c, .int .u8 (k : Int)] w (GivesS (zeroS, [(⟨4, 0, k, s.inter, s.par.l, []⟩ : A6)]) A es w) := by
  have HH := Lib.hid (two_sts w 28 s A es.length c)
  have HS := Lib.hid hS
  have hpl : (⟨4, 0, k, s.inter, s.par.l, []⟩ : A6) = AcE.plain ⟨4, 0, k, s.inter, A, c, es, []⟩ := by unfold AcE.plain; rw [hS.reads]
  rw [hpl]
  clear hpl
  have hmi : ∀ V, Calls Tryd.prog 34 #[.int .u8 (k : Int)] V fun e w' => e = .returned (.bool false) ∧ w' = V := fun V => by
    have h := isInter_c k (by omega) V
    rw [show midB k = false from decide_eq_false (by omega)] at h
    exact h
  have hf1 : ∀ V, InP V A c es → Calls Tryd.prog 53 #[stV s A es.length c, .agg #[.int .i64 4, .int .i64 0, .int .u8 (k : Int), .string (strS s.inter), .slice A es.length c, .string ⟨#[]⟩]] V (Tell1 ⟨4, 0, k, s.inter, A, c, es, []⟩ V) := fun V hV => finished_one s A es.length c ⟨4, 0, k, s.inter, A, c, es, []⟩ V hV ho
  have z6 : (k : Int) ≥ 64 := by omega
  clear hS hk ho
  simp only [stV_eq s]
  go_enter Tryd.func46, Tryd.ntmps46
  go_upto_region 1 with fail
  obtain ⟨hA, hB, hbel, hsz⟩ := HH.out
  clear HH
  generalize (w.alloc (.cells #[.int .i64 s.at_, .string (strS s.inter), .bool s.over, .slice A es.length c, .bool s.par.o, .string (strS s.text), .int .u8 (s.kind : Int)] 28)).alloc (.cells #[.int .i64 0, .string ⟨#[]⟩, .bool false, .slice none 0 0, .bool false, .string ⟨#[]⟩, .int .u8 0] 28) = W at *
  obtain ⟨a0, a1, a2, a3, a4, a5, a6⟩ := hA.st'
  have HB := Lib.hid (And.intro hA (And.intro hB hbel))
  clear hA hB hbel
  simp only [stV_eq s] at hf1
  go_wp2_with fail
  refine (hmi _).mono ?_
  rintro e w1 ⟨rfl, rfl⟩
  clear hmi
  go_wp2_with fail
  refine (hf1 _ (HS.out.inp.on HB.out.2.2)).mono ?_
  rintro e w8 ⟨g, hg, rfl, hI, hb8⟩
  have hlt := HB.out.2.1.lt
  have hR := HB.out.2.1.below hb8 HB.out.2.1.lt
  have hbl := HB.out.2.2.trans (hb8.mono HB.out.2.2.size)
  have hX := hR.sto7 hbl (by omega : w.heap.size ≤ w.heap.size + 1) (.int .i64 0) (.string ⟨#[]⟩) (.bool false) (.slice none 0 0) (.bool false) (.string ⟨#[]⟩) (.int .u8 0)
  have hJ := hI.set7 (X := w.heap.size + 1) (by intro a ha _ hb; injection ha with ha; subst ha; simp at hb; omega) (by intro x hx; simp at hx; subst hx; exact HS.out.inp.offNew (by omega)) (.int .i64 0) (.string ⟨#[]⟩) (.bool false) (.slice none 0 0) (.bool false) (.string ⟨#[]⟩) (.int .u8 0)
  obtain ⟨c0, c1, c2, c3, c4, c5, c6⟩ := hR.cells7s
  obtain ⟨f0, f1, f2, f3, f4, f5, f6⟩ := hR.free7s
  have hgw : w.heap.size ≤ g := Nat.le_trans HB.out.2.2.size hg
  have HX := Lib.hid (And.intro hX (And.intro hJ hgw))
  clear hX hR hbl hb8 hf1 HB a0 a1 a2 a3 a4 a5 a6 hI hJ hgw hlt hg
  simp only [stV_eq]
  go_wp2_with fail
  exact bodyPost_ret (ret_s2 rfl zeroS none 0 0 _ _ (w.heap.size + 1) _ _ rfl rfl HX.out.1.1) rfl (gives_one (a := ⟨4, 0, k, s.inter, A, c, es, []⟩) rfl HX.out.2.2 HX.out.2.1 (InS.zero _) (fun X hX h => h) HX.out.1.2)
set_option maxRecDepth 100000 in
set_option maxHeartbeats 2000000 in
theorem inCsi_skip5 (s : S6) (A : Option Addr) (c k : Nat) (es : List El) (w : World) (hk : 48 ≤ k ∧ k ≤ 63) (h5 : s.at_ = 5) (hS : InS w A c es s) :
    Calls Tryd.prog 46 #[stV s A es.length c, .int .u8 (k : Int)] w (GivesS ({ s with at_ := 6 }, []) A es w) := by
  have HH := Lib.hid (two_sts w 28 s A es.length c)
  have HS := Lib.hid hS
  have hmi : ∀ V, Calls Tryd.prog 34 #[.int .u8 (k : Int)] V fun e w' => e = .returned (.bool false) ∧ w' = V := fun V => by
    have h := isInter_c k (by omega) V
    rw [show midB k = false from decide_eq_false (by omega)] at h
    exact h
  have e3 : (s.at_ == 3) = false := beq_eq_false_iff_ne.2 (by omega)
  have e5 : (s.at_ == 5) = true := beq_iff_eq.2 h5
  clear h5
  have z6 : ¬ (k : Int) ≥ 64 := by omega
  clear hS hk
  simp only [stV_eq s]
  go_enter Tryd.func46, Tryd.ntmps46
  go_upto_region 1 with fail
  obtain ⟨hA, hB, hbel, hsz⟩ := HH.out
  clear HH
  generalize (w.alloc (.cells #[.int .i64 s.at_, .string (strS s.inter), .bool s.over, .slice A es.length c, .bool s.par.o, .string (strS s.text), .int .u8 (s.kind : Int)] 28)).alloc (.cells #[.int .i64 0, .string ⟨#[]⟩, .bool false, .slice none 0 0, .bool false, .string ⟨#[]⟩, .int .u8 0] 28) = W at *
  obtain ⟨a0, a1, a2, a3, a4, a5, a6⟩ := hA.st'
  have HB := Lib.hid (And.intro hA (And.intro hB hbel))
  clear hA hB hbel
  have fa0 := HB.out.1.free 0
  obtain ⟨c0, c1, c2, c3, c4, c5, c6⟩ := HB.out.2.1.cells7s
  obtain ⟨f0, f1, f2, f3, f4, f5, f6⟩ := HB.out.2.1.free7s
  have hb9 := HB.out.2.2.setCell (p := ⟨w.heap.size, 0, none⟩) (Nat.le_refl _) (.int .i64 6)
  have hX := (HB.out.2.1.far (p := ⟨w.heap.size, 0, none⟩) (by simp) (.int .i64 6)).sto7 hb9 (by omega) (.int .i64 6) (.string (strS s.inter)) (.bool s.over) (.slice A es.length c) (.bool s.par.o) (.string (strS s.text)) (.int .u8 (s.kind : Int))
  have HX := Lib.hid hX
  clear hX hb9 HB
  go_wp2_with fail
  refine (hmi _).mono ?_
  rintro e w1 ⟨rfl, rfl⟩
  clear hmi
  go_wp2_with fail
  exact bodyPost_ret (ret_s2 rfl { s with at_ := 6 } A es.length c _ _ (w.heap.size + 1) _ _ rfl rfl HX.out.1) rfl (gives_none rfl ⟨HS.out.inp.on HX.out.2, HS.out.reads⟩ (fun X hX h => h) HX.out.2)
set_option maxRecDepth 100000 in
set_option maxHeartbeats 2000000 in
theorem inCsi_skips (s : S6) (A : Option Addr) (c k : Nat) (es : List El) (w : World) (hk : 60 ≤ k ∧ k ≤ 63) (h3 : s.at_ ≠ 3) (h5 : s.at_ ≠ 5) (hS : InS w A c es s) :
    Calls Tryd.prog 46 #[stV s A es.length c, .int .u8 (k : Int)] w (GivesS ({ s with at_ := 6 }, []) A es w) := by
  have HH := Lib.hid (two_sts w 28 s A es.length c)
  have HS := Lib.hid hS
  have hmi : ∀ V, Calls Tryd.prog 34 #[.int .u8 (k : Int)] V fun e w' => e = .returned (.bool false) ∧ w' = V := fun V => by
    have h := isInter_c k (by omega) V
    rw [show midB k = false from decide_eq_false (by omega)] at h
    exact h
  have hpr : ∀ V, Calls Tryd.prog 35 #[.int .u8 (k : Int)] V fun e w' => e = .returned (.bool true) ∧ w' = V := fun V => by
    have h := isPrivate_c k (by omega) V
    rw [show signB k = true from decide_eq_true (by omega)] at h
    exact h
  have e3 : (s.at_ == 3) = false := beq_eq_false_iff_ne.2 h3
  have e5 : (s.at_ == 5) = false := beq_eq_false_iff_ne.2 h5
  clear h3 h5
  have z6 : ¬ (k : Int) ≥ 64 := by omega
  clear hS hk
  simp only [stV_eq s]
  go_enter Tryd.func46, Tryd.ntmps46
  go_upto_region 1 with fail
  obtain ⟨hA, hB, hbel, hsz⟩ := HH.out
  clear HH
  generalize (w.alloc (.cells #[.int .i64 s.at_, .string (strS s.inter), .bool s.over, .slice A es.length c, .bool s.par.o, .string (strS s.text), .int .u8 (s.kind : Int)] 28)).alloc (.cells #[.int .i64 0, .string ⟨#[]⟩, .bool false, .slice none 0 0, .bool false, .string ⟨#[]⟩, .int .u8 0] 28) = W at *
  obtain ⟨a0, a1, a2, a3, a4, a5, a6⟩ := hA.st'
  have HB := Lib.hid (And.intro hA (And.intro hB hbel))
  clear hA hB hbel
  have fa0 := HB.out.1.free 0
  obtain ⟨c0, c1, c2, c3, c4, c5, c6⟩ := HB.out.2.1.cells7s
  obtain ⟨f0, f1, f2, f3, f4, f5, f6⟩ := HB.out.2.1.free7s
  have hb9 := HB.out.2.2.setCell (p := ⟨w.heap.size, 0, none⟩) (Nat.le_refl _) (.int .i64 6)
  have hX := (HB.out.2.1.far (p := ⟨w.heap.size, 0, none⟩) (by simp) (.int .i64 6)).sto7 hb9 (by omega) (.int .i64 6) (.string (strS s.inter)) (.bool s.over) (.slice A es.length c) (.bool s.par.o) (.string (strS s.text)) (.int .u8 (s.kind : Int))
  have HX := Lib.hid hX
  clear hX hb9 HB
  go_wp2_with fail
  refine (hmi _).mono ?_
  rintro e w1 ⟨rfl, rfl⟩
  clear hmi
  go_wp2_with fail
  refine (hpr _).mono ?_
  rintro e w1 ⟨rfl, rfl⟩
  clear hpr
  go_wp2_with fail
  exact bodyPost_ret (ret_s2 rfl { s with at_ := 6 } A es.length c _ _ (w.heap.size + 1) _ _ rfl rfl HX.out.1) rfl (gives_none rfl ⟨HS.out.inp.on HX.out.2, HS.out.reads⟩ (fun X hX h => h) HX.out.2)
set_option maxRecDepth 100000 in
set_option maxHeartbeats 2000000 in
theorem inCsi_num3 (s : S6) (A : Option Addr) (c k : Nat) (es : List El) (w : World) (hk : 48 ≤ k ∧ k ≤ 59) (h3 : s.at_ = 3) (hS : InS w A c es s) :
    Calls Tryd.prog 46 #[stV s A es.length c, .int .u8 (k : Int)] w (GivesS ({ s with at_ := 4, par := stepP s.par k }, []) A es w) := by
  have HH := Lib.hid (two_sts w 28 s A es.length c)
  have HS := Lib.hid hS
  have hpe : (⟨qs es, s.par.o⟩ : Par) = s.par := Par.ext' hS.reads rfl
  have hnm := fun V hV => numbered_c A c es s.par.o k V (by unfold isByte isDig; omega) hV
  rw [hpe] at hnm
  have hmi : ∀ V, Calls Tryd.prog 34 #[.int .u8 (k : Int)] V fun e w' => e = .returned (.bool false) ∧ w' = V := fun V => by
    have h := isInter_c k (by omega) V
    rw [show midB k = false from decide_eq_false (by omega)] at h
    exact h
  have hpr : ∀ V, Calls Tryd.prog 35 #[.int .u8 (k : Int)] V fun e w' => e = .returned (.bool false) ∧ w' = V := fun V => by
    have h := isPrivate_c k (by omega) V
    rw [show signB k = false from decide_eq_false (by omega)] at h
    exact h
  have e3 : (s.at_ == 3) = true := beq_iff_eq.2 h3
  have e5 : (s.at_ == 5) = false := beq_eq_false_iff_ne.2 (by omega)
  clear h3
  have z6 : ¬ (k : Int) ≥ 64 := by omega
  clear hS hk hpe
  generalize stepP s.par k = p at *
  simp only [stV_eq s]
  go_enter Tryd.func46, Tryd.ntmps46
  go_upto_region 1 with fail
  obtain ⟨hA, hB, hbel, hsz⟩ := HH.out
  clear HH
  generalize (w.alloc (.cells #[.int .i64 s.at_, .string (strS s.inter), .bool s.over, .slice A es.length c, .bool s.par.o, .string (strS s.text), .int .u8 (s.kind : Int)] 28)).alloc (.cells #[.int .i64 0, .string ⟨#[]⟩, .bool false, .slice none 0 0, .bool false, .string ⟨#[]⟩, .int .u8 0] 28) = W at *
  obtain ⟨a0, a1, a2, a3, a4, a5, a6⟩ := hA.st'
  have HB := Lib.hid (And.intro hA (And.intro hB hbel))
  clear hA hB hbel
  have fa0 := HB.out.1.free 0
  go_wp2_with fail
  refine (hmi _).mono ?_
  rintro e w1 ⟨rfl, rfl⟩
  clear hmi
  go_wp2_with fail
  refine (hpr _).mono ?_
  rintro e w1 ⟨rfl, rfl⟩
  go_wp2_with fail
  refine (hpr _).mono ?_
  rintro e w1 ⟨rfl, rfl⟩
  clear hpr
  go_wp2_with fail
  have hb9 := HB.out.2.2.setCell (p := ⟨w.heap.size, 0, none⟩) (Nat.le_refl _) (.int .i64 4)
  refine (hnm _ (HS.out.inp.on hb9)).mono ?_
  rintro e w2 ⟨A4, c4, es4, rfl, hi4, hq4, hoff4, hb4⟩
  have hA1 : Box (w1.setCell ⟨w.heap.size, 0, none⟩ (.int .i64 4)) w.heap.size 28 #[.int .i64 4, .string (strS s.inter), .bool s.over, .slice A es.length c, .bool s.par.o, .string (strS s.text), .int .u8 (s.kind : Int)] := HB.out.1.set_ 0 (.int .i64 4)
  have hR1 := HB.out.2.1.far (p := ⟨w.heap.size, 0, none⟩) (by simp) (.int .i64 4)
  have hA2 := hA1.below hb4 hA1.lt
  have hR2 := hR1.below hb4 hR1.lt
  have hg : w.heap.size < (w1.setCell ⟨w.heap.size, 0, none⟩ (.int .i64 4)).heap.size := hA1.lt
  have hg1 : w.heap.size + 1 < (w1.setCell ⟨w.heap.size, 0, none⟩ (.int .i64 4)).heap.size := hR1.lt
  have o0 := hoff4 _ hg (HS.out.inp.offNew (Nat.le_refl _))
  have o1 := hoff4 _ hg1 (HS.out.inp.offNew (by omega))
  have hi5 : InS ((w2.setCell ⟨w.heap.size, 3, none⟩ (.slice A4 es4.length c4)).setCell ⟨w.heap.size, 4, none⟩ (.bool p.o)) A4 c4 es4 { s with at_ := 4, par := p } := ⟨(hi4.off o0 ⟨w.heap.size, 3, none⟩ rfl _).off o0 ⟨w.heap.size, 4, none⟩ rfl _, hq4⟩
  have hbl := ((hb9.trans (hb4.mono hb9.size)).setCell (p := ⟨w.heap.size, 3, none⟩) (Nat.le_refl _) (.slice A4 es4.length c4)).setCell (p := ⟨w.heap.size, 4, none⟩) (Nat.le_refl _) (.bool p.o)
  have hX := ((hR2.far (p := ⟨w.heap.size, 3, none⟩) (by simp) (.slice A4 es4.length c4)).far (p := ⟨w.heap.size, 4, none⟩) (by simp) (.bool p.o)).sto7 hbl (by omega : w.heap.size ≤ w.heap.size + 1) (.int .i64 4) (.string (strS s.inter)) (.bool s.over) (.slice A4 es4.length c4) (.bool p.o) (.string (strS s.text)) (.int .u8 (s.kind : Int))
  have hJ := hi5.set7 o1 (.int .i64 4) (.string (strS s.inter)) (.bool s.over) (.slice A4 es4.length c4) (.bool p.o) (.string (strS s.text)) (.int .u8 (s.kind : Int))
  have hF : ∀ X, X < w.heap.size → Off X A es → Off X A4 es4 := fun X hX => hoff4 X (by omega)
  clear a0 a1 a2 a3 a4 a5 a6 fa0
  obtain ⟨a0, a1, a2, a3, a4, a5, a6⟩ := hA2.cells7s
  have fa3 := hA2.free 3
  have fa4 := hA2.free 4
  obtain ⟨c0, c1, c2, c3, c4', c5, c6⟩ := hR2.cells7s
  obtain ⟨f0, f1, f2, f3, f4, f5, f6⟩ := hR2.free7s
  have HX := Lib.hid (And.intro hX (And.intro hJ hF))
  clear hX hJ hF hi5 hbl o0 o1 hg hg1 hA1 hR1 hA2 hR2 hi4 hq4 hoff4 hb4 hb9 hnm HB
  go_wp2_with fail
  exact bodyPost_ret (ret_s2 rfl { s with at_ := 4, par := p } A4 es4.length c4 _ _ (w.heap.size + 1) _ _ rfl rfl HX.out.1.1) rfl (gives_none rfl HX.out.2.1 HX.out.2.2 HX.out.1.2)
set_option maxRecDepth 100000 in
set_option maxHeartbeats 2000000 in
theorem inCsi_num4 (s : S6) (A : Option Addr) (c k : Nat) (es : List El) (w : World) (hk : 48 ≤ k ∧ k ≤ 59) (h3 : s.at_ ≠ 3) (h5 : s.at_ ≠ 5) (hS : InS w A c es s) :
    Calls Tryd.prog 46 #[stV s A es.length c, .int .u8 (k : Int)] w (GivesS ({ s with at_ := 4, par := stepP s.par k }, []) A es w) := by
  have HH := Lib.hid (two_sts w 28 s A es.length c)
  have HS := Lib.hid hS
  have hpe : (⟨qs es, s.par.o⟩ : Par) = s.par := Par.ext' hS.reads rfl
  have hnm := fun V hV => numbered_c A c es s.par.o k V (by unfold isByte isDig; omega) hV
  rw [hpe] at hnm
  have hmi : ∀ V, Calls Tryd.prog 34 #[.int .u8 (k : Int)] V fun e w' => e = .returned (.bool false) ∧ w' = V := fun V => by
    have h := isInter_c k (by omega) V
    rw [show midB k = false from decide_eq_false (by omega)] at h
    exact h
  have hpr : ∀ V, Calls Tryd.prog 35 #[.int .u8 (k : Int)] V fun e w' => e = .returned (.bool false) ∧ w' = V := fun V => by
    have h := isPrivate_c k (by omega) V
    rw [show signB k = false from decide_eq_false (by omega)] at h
    exact h
  have e3 : (s.at_ == 3) = false := beq_eq_false_iff_ne.2 h3
  have e5 : (s.at_ == 5) = false := beq_eq_false_iff_ne.2 h5
  clear h3 h5
  have z6 : ¬ (k : Int) ≥ 64 := by omega
  clear hS hk hpe
  generalize stepP s.par k = p at *
  simp only [stV_eq s]
  go_enter Tryd.func46, Tryd.ntmps46
  go_upto_region 1 with fail
  obtain ⟨hA, hB, hbel, hsz⟩ := HH.out
  clear HH
  generalize (w.alloc (.cells #[.int .i64 s.at_, .string (strS s.inter), .bool s.over, .slice A es.length c, .bool s.par.o, .string (strS s.text), .int .u8 (s.kind : Int)] 28)).alloc (.cells #[.int .i64 0, .string ⟨#[]⟩, .bool false, .slice none 0 0, .bool false, .string ⟨#[]⟩, .int .u8 0] 28) = W at *
  obtain ⟨a0, a1, a2, a3, a4, a5, a6⟩ := hA.st'
  have HB := Lib.hid (And.intro hA (And.intro hB hbel))
  clear hA hB hbel
  have fa0 := HB.out.1.free 0
  go_wp2_with fail
  refine (hmi _).mono ?_
  rintro e w1 ⟨rfl, rfl⟩
  clear hmi
  go_wp2_with fail
  refine (hpr _).mono ?_
  rintro e w1 ⟨rfl, rfl⟩
  clear hpr
  go_wp2_with fail
  have hb9 := HB.out.2.2.setCell (p := ⟨w.heap.size, 0, none⟩) (Nat.le_refl _) (.int .i64 4)
  refine (hnm _ (HS.out.inp.on hb9)).mono ?_
  rintro e w2 ⟨A4, c4, es4, rfl, hi4, hq4, hoff4, hb4⟩
  have hA1 : Box (w1.setCell ⟨w.heap.size, 0, none⟩ (.int .i64 4)) w.heap.size 28 #[.int .i64 4, .string (strS s.inter), .bool s.over, .slice A es.length c, .bool s.par.o, .string (strS s.text), .int .u8 (s.kind : Int)] := HB.out.1.set_ 0 (.int .i64 4)
  have hR1 := HB.out.2.1.far (p := ⟨w.heap.size, 0, none⟩) (by simp) (.int .i64 4)
  have hA2 := hA1.below hb4 hA1.lt
  have hR2 := hR1.below hb4 hR1.lt
  have hg : w.heap.size < (w1.setCell ⟨w.heap.size, 0, none⟩ (.int .i64 4)).heap.size := hA1.lt
  have hg1 : w.heap.size + 1 < (w1.setCell ⟨w.heap.size, 0, none⟩ (.int .i64 4)).heap.size := hR1.lt
  have o0 := hoff4 _ hg (HS.out.inp.offNew (Nat.le_refl _))
  have o1 := hoff4 _ hg1 (HS.out.inp.offNew (by omega))
  have hi5 : InS ((w2.setCell ⟨w.heap.size, 3, none⟩ (.slice A4 es4.length c4)).setCell ⟨w.heap.size, 4, none⟩ (.bool p.o)) A4 c4 es4 { s with at_ := 4, par := p } := ⟨(hi4.off o0 ⟨w.heap.size, 3, none⟩ rfl _).off o0 ⟨w.heap.size, 4, none⟩ rfl _, hq4⟩
  have hbl := ((hb9.trans (hb4.mono hb9.size)).setCell (p := ⟨w.heap.size, 3, none⟩) (Nat.le_refl _) (.slice A4 es4.length c4)).setCell (p := ⟨w.heap.size, 4, none⟩) (Nat.le_refl _) (.bool p.o)
  have hX := ((hR2.far (p := ⟨w.heap.size, 3, none⟩) (by simp) (.slice A4 es4.length c4)).far (p := ⟨w.heap.size, 4, none⟩) (by simp) (.bool p.o)).sto7 hbl (by omega : w.heap.size ≤ w.heap.size + 1) (.int .i64 4) (.string (strS s.inter)) (.bool s.over) (.slice A4 es4.length c4) (.bool p.o) (.string (strS s.text)) (.int .u8 (s.kind : Int))
  have hJ := hi5.set7 o1 (.int .i64 4) (.string (strS s.inter)) (.bool s.over) (.slice A4 es4.length c4) (.bool p.o) (.string (strS s.text)) (.int .u8 (s.kind : Int))
  have hF : ∀ X, X < w.heap.size → Off X A es → Off X A4 es4 := fun X hX => hoff4 X (by omega)
  clear a0 a1 a2 a3 a4 a5 a6 fa0
  obtain ⟨a0, a1, a2, a3, a4, a5, a6⟩ := hA2.cells7s
  have fa3 := hA2.free 3
  have fa4 := hA2.free 4
  obtain ⟨c0, c1, c2, c3, c4', c5, c6⟩ := hR2.cells7s
  obtain ⟨f0, f1, f2, f3, f4, f5, f6⟩ := hR2.free7s
  have HX := Lib.hid (And.intro hX (And.intro hJ hF))
  clear hX hJ hF hi5 hbl o0 o1 hg hg1 hA1 hR1 hA2 hR2 hi4 hq4 hoff4 hb4 hb9 hnm HB
  go_wp2_with fail
  exact bodyPost_ret (ret_s2 rfl { s with at_ := 4, par := p } A4 es4.length c4 _ _ (w.heap.size + 1) _ _ rfl rfl HX.out.1.1) rfl (gives_none rfl HX.out.2.1 HX.out.2.2 HX.out.1.2)
/-- A control sequence. -/
theorem inCsi_c (s : S6) (A : Option Addr) (c k : Nat) (es : List El) (w : World) (hk : 32 ≤ k ∧ k ≤ 126) (ha : 3 ≤ s.at_ ∧ s.at_ ≤ 5) (hs : SaneS s) (hS : InS w A c es s) :
    Calls Tryd.prog 46 #[stV s A es.length c, .int .u8 (k : Int)] w (GivesS (ctlS s (k : Int)) A es w) := by
  have hn6 : s.at_ ≠ 6 := by omega
  unfold ctlS
  by_cases h64 : 64 ≤ k
  · rw [if_pos (by omega), if_neg hn6]
    unfold finalS
    cases ho : s.over with
    | true => exact inCsi_end_true s A c k es w ⟨h64, hk.2⟩ ho hS
    | false => exact inCsi_end_false s A c k es w ⟨h64, hk.2⟩ ho hS
  rw [if_neg (by omega), if_neg hn6]
  by_cases h47 : k ≤ 47
  · rw [if_pos (by omega)]
    exact inCsi_coll s A c k es w ⟨hk.1, h47⟩ hs.short hS
  rw [if_neg (by omega)]
  by_cases h5 : s.at_ = 5
  · rw [if_pos h5]
    exact inCsi_skip5 s A c k es w (by omega) h5 hS
  rw [if_neg h5]
  by_cases h60 : 60 ≤ k
  · rw [if_pos (by omega)]
    by_cases h3 : s.at_ = 3
    · rw [if_pos h3]
      exact inCsi_sign s A c k es w (by omega) h3 hs.short hS
    · rw [if_neg h3]
      exact inCsi_skips s A c k es w (by omega) h3 h5 hS
  · rw [if_neg (by omega)]
    by_cases h3 : s.at_ = 3
    · exact inCsi_num3 s A c k es w (by omega) h3 hS
    · exact inCsi_num4 s A c k es w (by omega) h3 h5 hS
end Go.Proofs.YtiaippdaogmcmaaDoor
