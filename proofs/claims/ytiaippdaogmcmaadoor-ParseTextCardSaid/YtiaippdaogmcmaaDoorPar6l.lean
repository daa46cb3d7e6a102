/- Package parse: what a letter makes of a state (a label that others go to). -/
import Derived.Test.YtiaippdaogmcmaaDoorPar6d
import Derived.Test.YtiaippdaogmcmaaDoorAppA
import Derived.ScopeJumps
import Derived.WalkMore
namespace Go.Proofs.YtiaippdaogmcmaaDoor
open Go Go.RowKit
set_option linter.unusedVariables false
set_option linter.unusedSimpArgs false

/-- What holds where a string's end is told: x begins, and l is told behind. -/
structure AtEnd (s : S6) (A : Option Addr) (c : Nat) (es : List El) (r : Int) (w V : World) (x : S6) (B : Option Addr) (d : Nat) (l : List AcE) : Prop where
  sb : Box V w.heap.size 28 (stCells s A es.length c)
  rb : Box V (w.heap.size + 1) 28 #[.int .i64 0, .string ⟨#[]⟩, .bool false, .slice none 0 0, .bool false, .string ⟨#[]⟩, .int .u8 0]
  nb : Box V (w.heap.size + 1 + 1) 28 (stCells x none 0 0)
  bl : Below w.heap.size w V
  ia : InA V B d l
  fresh : ∀ b, B = some b → l ≠ [] → w.heap.size + 3 ≤ b.block
  bare : ∀ e ∈ l, e.es = []
  val : rStepS s r = (x, endedS s ++ acts l)
  par : x.par.l = []
  short : l.length ≤ 1
def EndJ (s : S6) (A : Option Addr) (c : Nat) (es : List El) (r : Int) (w : World) (a : Act) (V : World) : Prop :=
  ∃ (x : S6) (B : Option Addr) (d : Nat) (l : List AcE), AtEnd s A c es r w V x B d l ∧ ∃ (u9 u10 u11 u12 u13 u14 u15 u16 u17 u18 u19 u20 u21 u22 u23 u24 u25 u26 u27 u28 u29 u30 u31 u32 u33 u34 u35 u36 u37 u38 u39 u40 u41 u42 u43 u44 u45 u46 u47 u48 u49 u50 u51 u52 u53 u54 u55 u56 u57 u58 u59 u60 u61 u62 u63 u64 u65 u66 u67 u68 u69 u70 u71 u72 u73 u74 u75 u76 u77 u78 u79 u80 u81 u82 u83 u84 u85 u86 : Value), a = { tmps := (stV s A es.length c :: .int .i64 r :: .pointer (some ⟨w.heap.size, 0, none⟩) :: undef :: .pointer (some ⟨w.heap.size + 1, 0, none⟩) :: .slice none 0 0 :: .pointer (some ⟨w.heap.size + 1 + 1, 0, none⟩) :: .slice none 0 0 :: .slice B l.length d :: u9 :: u10 :: u11 :: u12 :: u13 :: u14 :: u15 :: u16 :: u17 :: u18 :: u19 :: u20 :: u21 :: u22 :: u23 :: u24 :: u25 :: u26 :: u27 :: u28 :: u29 :: u30 :: u31 :: u32 :: u33 :: u34 :: u35 :: u36 :: u37 :: u38 :: u39 :: u40 :: u41 :: u42 :: u43 :: u44 :: u45 :: u46 :: u47 :: u48 :: u49 :: u50 :: u51 :: u52 :: u53 :: u54 :: u55 :: u56 :: u57 :: u58 :: u59 :: u60 :: u61 :: u62 :: u63 :: u64 :: u65 :: u66 :: u67 :: u68 :: u69 :: u70 :: u71 :: u72 :: u73 :: u74 :: u75 :: u76 :: u77 :: u78 :: u79 :: u80 :: u81 :: u82 :: u83 :: u84 :: u85 :: u86 ::  ([] : List Value)).toArray, defers := [] }
theorem bare_in {w : World} {e : AcE} (h : e.es = []) (hc : e.c ≤ maxLen) : InP w e.A e.c e.es := by
  rw [h]
  exact ⟨Nest.nil, Nat.zero_le _, hc⟩
theorem end_gives {s x : S6} {A0 : Option Addr} {es0 : List El} {r : Int} {W w' : World} {A : Option Addr} {n c : Nat} {l1 l : List AcE} {e : Ending} (hv : rStepS s r = (x, endedS s ++ acts l)) (hs : endedS s = acts l1) (hn : n = (l1 ++ l).length)
    (he : e = .returned (.tuple #[stV x none 0 0, .slice A n c])) (hp : x.par.l = []) (hI : InA w' A c (l1 ++ l)) (hb : ∀ e ∈ l1 ++ l, e.es = []) (hf : ∀ a, A = some a → l1 ++ l ≠ [] → W.heap.size + 3 ≤ a.block) (hbl : Below W.heap.size W w') : GivesS (rStepS s r) A0 es0 W e w' := by
  rw [hv]
  subst hn
  refine ⟨none, 0, [], A, c, l1 ++ l, he, ⟨⟨Nest.nil, Nat.le_refl _, Nat.zero_le _⟩, hp.symm⟩, hI, ?_, fun X hX => ⟨(fun a ha hl hb => by have := hf a ha hl; omega), fun _ => ⟨Off.nil, fun e he => by rw [hb e he]; exact Off.nil⟩⟩, hbl⟩
  rw [acts_app, hs]
theorem own_one {W : World} {e : AcE} {base : Nat} (hb : base ≤ W.heap.size) : (W.alloc (.cells #[.int .i64 e.what, .int .i64 e.r, .int .u8 (e.fin : Int), .string (strS e.inter), .slice e.A e.es.length e.c, .string (strS e.text)] 44)).ownsRow base 44 6 (.slice (some ⟨W.heap.size, 0, none⟩) 1 1) 1 (flatA [e]) :=
  ⟨rfl, .inr ⟨W.heap.size, 1, #[.int .i64 e.what, .int .i64 e.r, .int .u8 (e.fin : Int), .string (strS e.inter), .slice e.A e.es.length e.c, .string (strS e.text)], rfl, hb, heap_alloc_new W _, Nat.le_refl _, by decide, rfl, rfl⟩⟩
theorem Box.far7 {W : World} {g g' : Nat} {t : TypeId} {cs : Array Value} (h : Box W g t cs) (hg : g ≠ g') (v0 v1 v2 v3 v4 v5 v6 : Value) : Box (set7 W g' v0 v1 v2 v3 v4 v5 v6) g t cs :=
  ((((((h.far (p := ⟨g', 0, none⟩) hg v0).far (p := ⟨g', 1, none⟩) hg v1).far (p := ⟨g', 2, none⟩) hg v2).far (p := ⟨g', 3, none⟩) hg v3).far (p := ⟨g', 4, none⟩) hg v4).far (p := ⟨g', 5, none⟩) hg v5).far (p := ⟨g', 6, none⟩) hg v6
theorem openS_par (r : Int) : (openS r).par = zeroP := by
  unfold openS
  repeat' split
  all_goals rfl
theorem high_open {s : S6} {r : Int} (h156 : r ≠ 156) : highS s r = if (openS r).at_ = 0 then (zeroS, endedS s ++ execS r) else (openS r, endedS s) := by
  unfold highS openS
  rw [if_neg h156]
  by_cases h1 : r = 144
  · subst h1; rfl
  by_cases h2 : r = 152
  · subst h2; rfl
  by_cases h3 : r = 155
  · subst h3; rfl
  by_cases h4 : r = 157
  · subst h4; rfl
  by_cases h5 : r = 158
  · subst h5; rfl
  by_cases h6 : r = 159
  · subst h6; rfl
  rw [if_neg h1, if_neg h3, if_neg h4, if_neg h2, if_neg h5, if_neg h6, if_neg h1, if_neg h2, if_neg h3, if_neg h4, if_neg h5, if_neg h6]
  rfl
theorem open_zero {r : Int} (h : (openS r).at_ = 0) : openS r = zeroS := by
  unfold openS at h ⊢
  repeat' split
  all_goals first | rfl | (exfalso; simp_all [begunS, kindS])
theorem open_high0 (s : S6) {r : Int} (h24 : r ≠ 24) (h26 : r ≠ 26) (h27 : r ≠ 27) (h156 : r ≠ 156) (hh : 128 ≤ r ∧ r ≤ 159) (hy : (openS r).at_ = 0) : rStepS s r = (openS r, endedS s ++ execS r) := by
  unfold rStepS
  rw [if_neg (by omega), if_neg h27, if_pos hh, high_open h156, if_pos hy, open_zero hy]
theorem open_high (s : S6) {r : Int} (h24 : r ≠ 24) (h26 : r ≠ 26) (h27 : r ≠ 27) (h156 : r ≠ 156) (hh : 128 ≤ r ∧ r ≤ 159) (hy : (openS r).at_ ≠ 0) : rStepS s r = (openS r, endedS s) := by
  unfold rStepS
  rw [if_neg (by omega), if_neg h27, if_pos hh, high_open h156, if_neg hy]
/-- A parameter's variable, a result's, and one more. -/
theorem three_sts (w : World) (T : TypeId) (s : S6) (A : Option Addr) (n c : Nat) : Box (((w.alloc (.cells #[.int .i64 s.at_, .string (strS s.inter), .bool s.over, .slice A n c, .bool s.par.o, .string (strS s.text), .int .u8 (s.kind : Int)] T)).alloc (.cells #[.int .i64 0, .string ⟨#[]⟩, .bool false, .slice none 0 0, .bool false, .string ⟨#[]⟩, .int .u8 0] T)).alloc (.cells #[.int .i64 0, .string ⟨#[]⟩, .bool false, .slice none 0 0, .bool false, .string ⟨#[]⟩, .int .u8 0] T)) w.heap.size T (stCells s A n c) ∧ Box (((w.alloc (.cells #[.int .i64 s.at_, .string (strS s.inter), .bool s.over, .slice A n c, .bool s.par.o, .string (strS s.text), .int .u8 (s.kind : Int)] T)).alloc (.cells #[.int .i64 0, .string ⟨#[]⟩, .bool false, .slice none 0 0, .bool false, .string ⟨#[]⟩, .int .u8 0] T)).alloc (.cells #[.int .i64 0, .string ⟨#[]⟩, .bool false, .slice none 0 0, .bool false, .string ⟨#[]⟩, .int .u8 0] T)) (w.heap.size + 1) T #[.int .i64 0, .string ⟨#[]⟩, .bool false, .slice none 0 0, .bool false, .string ⟨#[]⟩, .int .u8 0] ∧ Box (((w.alloc (.cells #[.int .i64 s.at_, .string (strS s.inter), .bool s.over, .slice A n c, .bool s.par.o, .string (strS s.text), .int .u8 (s.kind : Int)] T)).alloc (.cells #[.int .i64 0, .string ⟨#[]⟩, .bool false, .slice none 0 0, .bool false, .string ⟨#[]⟩, .int .u8 0] T)).alloc (.cells #[.int .i64 0, .string ⟨#[]⟩, .bool false, .slice none 0 0, .bool false, .string ⟨#[]⟩, .int .u8 0] T)) (w.heap.size + 1 + 1) T #[.int .i64 0, .string ⟨#[]⟩, .bool false, .slice none 0 0, .bool false, .string ⟨#[]⟩, .int .u8 0] ∧ Below w.heap.size w (((w.alloc (.cells #[.int .i64 s.at_, .string (strS s.inter), .bool s.over, .slice A n c, .bool s.par.o, .string (strS s.text), .int .u8 (s.kind : Int)] T)).alloc (.cells #[.int .i64 0, .string ⟨#[]⟩, .bool false, .slice none 0 0, .bool false, .string ⟨#[]⟩, .int .u8 0] T)).alloc (.cells #[.int .i64 0, .string ⟨#[]⟩, .bool false, .slice none 0 0, .bool false, .string ⟨#[]⟩, .int .u8 0] T)) ∧ w.heap.size + 3 ≤ (((w.alloc (.cells #[.int .i64 s.at_, .string (strS s.inter), .bool s.over, .slice A n c, .bool s.par.o, .string (strS s.text), .int .u8 (s.kind : Int)] T)).alloc (.cells #[.int .i64 0, .string ⟨#[]⟩, .bool false, .slice none 0 0, .bool false, .string ⟨#[]⟩, .int .u8 0] T)).alloc (.cells #[.int .i64 0, .string ⟨#[]⟩, .bool false, .slice none 0 0, .bool false, .string ⟨#[]⟩, .int .u8 0] T)).heap.size := by
  have h := two_sts w T s A n c
  refine ⟨h.1.alloc _, h.2.1.alloc _, ?_, h.2.2.1.alloc h.2.2.1.size _, by simp⟩
  have hb := Box.new ((w.alloc (.cells #[.int .i64 s.at_, .string (strS s.inter), .bool s.over, .slice A n c, .bool s.par.o, .string (strS s.text), .int .u8 (s.kind : Int)] T)).alloc (.cells #[.int .i64 0, .string ⟨#[]⟩, .bool false, .slice none 0 0, .bool false, .string ⟨#[]⟩, .int .u8 0] T)) T #[.int .i64 0, .string ⟨#[]⟩, .bool false, .slice none 0 0, .bool false, .string ⟨#[]⟩, .int .u8 0]
  simp only [World.alloc, Array.size_push] at hb ⊢
  exact hb
set_option maxRecDepth 100000 in
set_option maxHeartbeats 4000000 in
theorem take_c (s : S6) (A : Option Addr) (c : Nat) (es : List El) (r : Int) (w : World) (hs : SaneS s) (hS : InS w A c es s) (h64 : I64 r) : Calls Tryd.prog 21 #[stV s A es.length c, .int .i64 r] w (GivesS (rStepS s r) A es w) := by
  have HH := Lib.hid (three_sts w 28 s A es.length c)
  have HS := Lib.hid hS
  clear hS
  simp only [stV_eq]
  go_enter Tryd.func21, Tryd.ntmps21
  go_upto_region 1 with fail
  refine wp_scope_jumps 0 (EndJ s A c es r w) (fun _ _ => 0) rfl ?_ ?_
  · go_upto_region 2 with fail
    obtain ⟨hA, hR, hN, hbel, hsz⟩ := HH.out
    clear HH
    generalize ((w.alloc (.cells #[.int .i64 s.at_, .string (strS s.inter), .bool s.over, .slice A es.length c, .bool s.par.o, .string (strS s.text), .int .u8 (s.kind : Int)] 28)).alloc (.cells #[.int .i64 0, .string ⟨#[]⟩, .bool false, .slice none 0 0, .bool false, .string ⟨#[]⟩, .int .u8 0] 28)).alloc (.cells #[.int .i64 0, .string ⟨#[]⟩, .bool false, .slice none 0 0, .bool false, .string ⟨#[]⟩, .int .u8 0] 28) = W at *
    obtain ⟨a0, a1, a2, a3, a4, a5, a6⟩ := hA.st'
    have HB := Lib.hid (And.intro hA (And.intro hR (And.intro hN (And.intro hbel hsz))))
    clear hA hR hN hbel hsz
    by_cases h24 : r = 24
    · have q0 : (r == 24) = true := beq_iff_eq.2 (by omega)
      have HV := Lib.hid (show rStepS s r = (zeroS, execS r) from by unfold rStepS; rw [if_pos (.inl h24)])
      have hx := fun V => exec_tell r V (by omega) (by omega)
      clear h64 hs h24
      go_wp2_with fail
      refine (hx _).mono ?_
      rintro e w8 ⟨g, hg, rfl, hI, hb8⟩
      have hR := HB.out.2.1.below hb8 HB.out.2.1.lt
      have hlt := HB.out.2.1.lt
      have hbl := HB.out.2.2.2.1.trans (hb8.mono HB.out.2.2.2.1.size)
      have hX := hR.sto7 hbl (by omega : w.heap.size ≤ w.heap.size + 1) (.int .i64 0) (.string ⟨#[]⟩) (.bool false) (.slice none 0 0) (.bool false) (.string ⟨#[]⟩) (.int .u8 0)
      have hJ := hI.set7 (X := w.heap.size + 1) (by intro a ha _ hb; injection ha with ha; subst ha; simp at hb; omega) (by intro x hx; simp at hx; subst hx; exact Off.nil) (.int .i64 0) (.string ⟨#[]⟩) (.bool false) (.slice none 0 0) (.bool false) (.string ⟨#[]⟩) (.int .u8 0)
      obtain ⟨c0, c1, c2, c3, c4, c5, c6⟩ := hR.cells7s
      obtain ⟨f0, f1, f2, f3, f4, f5, f6⟩ := hR.free7s
      have hgw : w.heap.size ≤ g := Nat.le_trans HB.out.2.2.2.1.size hg
      have HX := Lib.hid (And.intro hX (And.intro hJ hgw))
      clear hX hR hbl hb8 hx HB a0 a1 a2 a3 a4 a5 a6 hI hJ hgw hlt hg
      go_wp2_with fail
      exact bodyPost_ret (ret_s2 rfl zeroS none 0 0 _ _ (w.heap.size + 1) _ _ rfl rfl HX.out.1.1) rfl (by rw [HV.out]; exact gives_one (a := exE r) rfl HX.out.2.2 HX.out.2.1 (InS.zero _) (fun X hX h => Off.nil) HX.out.1.2)
    by_cases h26 : r = 26
    · have q0 : (r == 24) = false := beq_eq_false_iff_ne.2 (by omega)
      have q1 : (r == 26) = true := beq_iff_eq.2 (by omega)
      have HV := Lib.hid (show rStepS s r = (zeroS, execS r) from by unfold rStepS; rw [if_pos (.inr h26)])
      have hx := fun V => exec_tell r V (by omega) (by omega)
      clear h64 hs h24 h26
      go_wp2_with fail
      refine (hx _).mono ?_
      rintro e w8 ⟨g, hg, rfl, hI, hb8⟩
      have hR := HB.out.2.1.below hb8 HB.out.2.1.lt
      have hlt := HB.out.2.1.lt
      have hbl := HB.out.2.2.2.1.trans (hb8.mono HB.out.2.2.2.1.size)
      have hX := hR.sto7 hbl (by omega : w.heap.size ≤ w.heap.size + 1) (.int .i64 0) (.string ⟨#[]⟩) (.bool false) (.slice none 0 0) (.bool false) (.string ⟨#[]⟩) (.int .u8 0)
      have hJ := hI.set7 (X := w.heap.size + 1) (by intro a ha _ hb; injection ha with ha; subst ha; simp at hb; omega) (by intro x hx; simp at hx; subst hx; exact Off.nil) (.int .i64 0) (.string ⟨#[]⟩) (.bool false) (.slice none 0 0) (.bool false) (.string ⟨#[]⟩) (.int .u8 0)
      obtain ⟨c0, c1, c2, c3, c4, c5, c6⟩ := hR.cells7s
      obtain ⟨f0, f1, f2, f3, f4, f5, f6⟩ := hR.free7s
      have hgw : w.heap.size ≤ g := Nat.le_trans HB.out.2.2.2.1.size hg
      have HX := Lib.hid (And.intro hX (And.intro hJ hgw))
      clear hX hR hbl hb8 hx HB a0 a1 a2 a3 a4 a5 a6 hI hJ hgw hlt hg
      go_wp2_with fail
      exact bodyPost_ret (ret_s2 rfl zeroS none 0 0 _ _ (w.heap.size + 1) _ _ rfl rfl HX.out.1.1) rfl (by rw [HV.out]; exact gives_one (a := exE r) rfl HX.out.2.2 HX.out.2.1 (InS.zero _) (fun X hX h => Off.nil) HX.out.1.2)
    by_cases h27 : r = 27
    · have q0 : (r == 24) = false := beq_eq_false_iff_ne.2 (by omega)
      have q1 : (r == 26) = false := beq_eq_false_iff_ne.2 (by omega)
      have q2 : (r == 27) = true := beq_iff_eq.2 (by omega)
      have HV := Lib.hid (show rStepS s r = (begunS 1, endedS s) from by unfold rStepS; rw [if_neg (by omega), if_pos h27])
      have HE : Hid (AtEnd s A c es r w (W.setCell ⟨w.heap.size + 1 + 1, 0, none⟩ (.int .i64 1)) (begunS 1) none 0 []) := Lib.hid
        ⟨HB.out.1.far (by simp; omega) _, HB.out.2.1.far (by simp) _, HB.out.2.2.1.set_ 0 (.int .i64 1), HB.out.2.2.2.1.setCell (by simp; omega) _, InA.nil (by decide), (fun b hb => by cases hb), by simp, by rw [HV.out]; simp [acts], rfl, by simp⟩
      have n0 := HB.out.2.2.1.cell 0
      have g0 := HB.out.2.2.1.free 0
      clear h64 hs h24 h26 h27 HB a0 a1 a2 a3 a4 a5 a6
      go_wp2_with fail
      go_step3
      refine ⟨rfl, ?_⟩
      unfold EndJ
      refine ⟨_, _, _, _, HE.out, ?_⟩
      repeat apply Exists.intro
      rfl
    by_cases h156 : r = 156
    · have q0 : (r == 24) = false := beq_eq_false_iff_ne.2 (by omega)
      have q1 : (r == 26) = false := beq_eq_false_iff_ne.2 (by omega)
      have q2 : (r == 27) = false := beq_eq_false_iff_ne.2 (by omega)
      have q3 : (r == 156) = true := beq_iff_eq.2 (by omega)
      have HV := Lib.hid (show rStepS s r = (zeroS, endedS s) from by unfold rStepS highS; rw [if_neg (by omega), if_neg h27, if_pos (by omega), if_pos h156])
      have HE : Hid (AtEnd s A c es r w W zeroS none 0 []) := Lib.hid
        ⟨HB.out.1, HB.out.2.1, HB.out.2.2.1, HB.out.2.2.2.1, InA.nil (by decide), (fun b hb => by cases hb), by simp, by rw [HV.out]; simp [acts], rfl, by simp⟩
      clear h64 hs h24 h26 h27 h156 HB a0 a1 a2 a3 a4 a5 a6
      go_wp2_with fail
      go_step3
      refine ⟨rfl, ?_⟩
      unfold EndJ
      refine ⟨_, _, _, _, HE.out, ?_⟩
      repeat apply Exists.intro
      rfl
    by_cases hh : 128 ≤ r ∧ r ≤ 159
    · by_cases hy0 : (openS r).at_ = 0
      · have q0 : (r == 24) = false := beq_eq_false_iff_ne.2 (by omega)
        have q1 : (r == 26) = false := beq_eq_false_iff_ne.2 (by omega)
        have q2 : (r == 27) = false := beq_eq_false_iff_ne.2 (by omega)
        have q3 : (r == 156) = false := beq_eq_false_iff_ne.2 (by omega)
        have q4 : 128 ≤ r := by omega
        have q5 : r ≤ 159 := by omega
        have HV := Lib.hid (open_high0 s h24 h26 h27 h156 hh hy0)
        have hop := fun V => opened_c r V
        simp only [stV_eq] at hop
        have hyp : (openS r).par = zeroP := openS_par r
        have q9 : ((openS r).at_ == 0) = true := beq_iff_eq.2 hy0
        have hx := fun V => exec_tell r V (by omega) (by omega)
        generalize openS r = y at *
        clear h64 hs h24 h26 h27 h156 hh hy0
        go_wp2_with fail
        refine (hop _).mono ?_
        rintro e w2 ⟨rfl, hb2⟩
        have hA2 := HB.out.1.below hb2 HB.out.1.lt
        have hR2 := HB.out.2.1.below hb2 HB.out.2.1.lt
        have hN2 := HB.out.2.2.1.below hb2 HB.out.2.2.1.lt
        have hs2 := Nat.le_trans HB.out.2.2.2.2 hb2.size
        have hbl := HB.out.2.2.2.1.trans (hb2.mono HB.out.2.2.2.1.size)
        have hX := hN2.sto7 hbl (by omega : w.heap.size ≤ w.heap.size + 1 + 1) (.int .i64 y.at_) (.string (strS y.inter)) (.bool y.over) (.slice none 0 0) (.bool y.par.o) (.string (strS y.text)) (.int .u8 (y.kind : Int))
        have hA3 := hA2.far7 (g' := w.heap.size + 1 + 1) (by omega) (.int .i64 y.at_) (.string (strS y.inter)) (.bool y.over) (.slice none 0 0) (.bool y.par.o) (.string (strS y.text)) (.int .u8 (y.kind : Int))
        have hR3 := hR2.far7 (g' := w.heap.size + 1 + 1) (by omega) (.int .i64 y.at_) (.string (strS y.inter)) (.bool y.over) (.slice none 0 0) (.bool y.par.o) (.string (strS y.text)) (.int .u8 (y.kind : Int))
        have hs3 : w.heap.size + 3 ≤ (set7 w2 (w.heap.size + 1 + 1) (.int .i64 y.at_) (.string (strS y.inter)) (.bool y.over) (.slice none 0 0) (.bool y.par.o) (.string (strS y.text)) (.int .u8 (y.kind : Int))).heap.size := by simpa [set7, World.setCell] using hs2
        have HC := Lib.hid (And.intro hA3 (And.intro hR3 (And.intro hX.1 (And.intro hX.2 hs3))))
        obtain ⟨c0, c1, c2, c3, c4, c5, c6⟩ := hN2.cells7s
        obtain ⟨f0, f1, f2, f3, f4, f5, f6⟩ := hN2.free7s
        clear hA2 hR2 hN2 hbl hX hb2 hop HB a0 a1 a2 a3 a4 a5 a6 hA3 hR3 hs3 hs2
        have HYP := Lib.hid hyp
        clear hyp
        go_wp2_with fail
        refine (hx _).mono ?_
        rintro e w8 ⟨g, hg, rfl, hI, hb8⟩
        have hb9 : Below (set7 w2 (w.heap.size + 1 + 1) (.int .i64 y.at_) (.string (strS y.inter)) (.bool y.over) (.slice none 0 0) (.bool y.par.o) (.string (strS y.text)) (.int .u8 (y.kind : Int))).heap.size (set7 w2 (w.heap.size + 1 + 1) (.int .i64 y.at_) (.string (strS y.inter)) (.bool y.over) (.slice none 0 0) (.bool y.par.o) (.string (strS y.text)) (.int .u8 (y.kind : Int))) w8 := hb8
        have hg9 : (set7 w2 (w.heap.size + 1 + 1) (.int .i64 y.at_) (.string (strS y.inter)) (.bool y.over) (.slice none 0 0) (.bool y.par.o) (.string (strS y.text)) (.int .u8 (y.kind : Int))).heap.size ≤ g := hg
        have hgg : w.heap.size + 3 ≤ g := Nat.le_trans HC.out.2.2.2.2 hg9
        have hfr : ∀ b : Addr, some (⟨g, 0, none⟩ : Addr) = some b → [exE r] ≠ [] → w.heap.size + 3 ≤ b.block := fun b hb _ => (congrArg Addr.block (Option.some.inj hb)) ▸ hgg
        have hba : ∀ e ∈ [exE r], e.es = [] := fun e he => by rw [List.mem_singleton.1 he]; rfl
        have hpp : y.par.l = [] := by rw [HYP.out]; rfl
        have HE : Hid (AtEnd s A c es r w w8 y (some ⟨g, 0, none⟩) 1 [exE r]) := Lib.hid
          ⟨HC.out.1.below hb9 HC.out.1.lt, HC.out.2.1.below hb9 HC.out.2.1.lt, HC.out.2.2.1.below hb9 HC.out.2.2.1.lt, HC.out.2.2.2.1.trans (hb9.mono HC.out.2.2.2.1.size), hI, hfr, hba, HV.out, hpp, Nat.le_refl 1⟩
        clear hb8 hb9 hg hg9 hgg hI hx HC hfr hba hpp
        go_wp2_with fail
        go_step3
        refine ⟨rfl, ?_⟩
        unfold EndJ
        refine ⟨_, _, _, _, HE.out, ?_⟩
        repeat apply Exists.intro
        rfl
      · have q0 : (r == 24) = false := beq_eq_false_iff_ne.2 (by omega)
        have q1 : (r == 26) = false := beq_eq_false_iff_ne.2 (by omega)
        have q2 : (r == 27) = false := beq_eq_false_iff_ne.2 (by omega)
        have q3 : (r == 156) = false := beq_eq_false_iff_ne.2 (by omega)
        have q4 : 128 ≤ r := by omega
        have q5 : r ≤ 159 := by omega
        have HV := Lib.hid (open_high s h24 h26 h27 h156 hh hy0)
        have hop := fun V => opened_c r V
        simp only [stV_eq] at hop
        have hyp : (openS r).par = zeroP := openS_par r
        have q9 : ((openS r).at_ == 0) = false := beq_eq_false_iff_ne.2 hy0
        generalize openS r = y at *
        clear h64 hs h24 h26 h27 h156 hh hy0
        go_wp2_with fail
        refine (hop _).mono ?_
        rintro e w2 ⟨rfl, hb2⟩
        have hA2 := HB.out.1.below hb2 HB.out.1.lt
        have hR2 := HB.out.2.1.below hb2 HB.out.2.1.lt
        have hN2 := HB.out.2.2.1.below hb2 HB.out.2.2.1.lt
        have hbl := HB.out.2.2.2.1.trans (hb2.mono HB.out.2.2.2.1.size)
        have hX := hN2.sto7 hbl (by omega : w.heap.size ≤ w.heap.size + 1 + 1) (.int .i64 y.at_) (.string (strS y.inter)) (.bool y.over) (.slice none 0 0) (.bool y.par.o) (.string (strS y.text)) (.int .u8 (y.kind : Int))
        have HE : Hid (AtEnd s A c es r w (set7 w2 (w.heap.size + 1 + 1) (.int .i64 y.at_) (.string (strS y.inter)) (.bool y.over) (.slice none 0 0) (.bool y.par.o) (.string (strS y.text)) (.int .u8 (y.kind : Int))) y none 0 []) := Lib.hid
          ⟨hA2.far7 (by omega) _ _ _ _ _ _ _, hR2.far7 (by omega) _ _ _ _ _ _ _, hX.1, hX.2, InA.nil (by decide), (fun b hb => by cases hb), by simp, by rw [HV.out]; simp [acts], by rw [hyp]; rfl, by simp⟩
        obtain ⟨c0, c1, c2, c3, c4, c5, c6⟩ := hN2.cells7s
        obtain ⟨f0, f1, f2, f3, f4, f5, f6⟩ := hN2.free7s
        clear hA2 hR2 hN2 hbl hX hb2 hop HB a0 a1 a2 a3 a4 a5 a6 hyp
        go_wp2_with fail
        go_step3
        refine ⟨rfl, ?_⟩
        unfold EndJ
        refine ⟨_, _, _, _, HE.out, ?_⟩
        repeat apply Exists.intro
        rfl
    by_cases ha6 : s.at_ ≤ 6
    · by_cases hlo : r < 128
      · have q0 : (r == 24) = false := beq_eq_false_iff_ne.2 (by omega)
        have q1 : (r == 26) = false := beq_eq_false_iff_ne.2 (by omega)
        have q2 : (r == 27) = false := beq_eq_false_iff_ne.2 (by omega)
        have q3 : (r == 156) = false := beq_eq_false_iff_ne.2 (by omega)
        have q4 : ¬ 128 ≤ r := by omega
        have HV := Lib.hid ((show outS s r = rStepS s r from by unfold rStepS; rw [if_neg (by omega), if_neg h27, if_neg hh, if_neg (by omega)]; rfl))
        have hst : ∀ V, Calls Tryd.prog 31 #[.int .i64 s.at_] V fun e w' => e = .returned (.bool false) ∧ w' = V := fun V => by
          have h := isString_c s.at_ V
          rw [show strB s.at_ = false from decide_eq_false (by omega)] at h
          exact h
        have hcl := fun V (hV : Below w.heap.size w V) => outside_c s A c es r V (by omega) ha6 hs (HS.out.on hV)
        rw [HV.out] at hcl
        have HN := Lib.hid (fun X (hX : w.heap.size ≤ X) => HS.out.inp.offNew hX)
        generalize hyy : rStepS s r = y at *
        clear h64 hs h24 h26 h27 h156 hh ha6 hlo HV
        simp only [stV_eq s] at hcl
        go_wp2_with fail
        refine (hst _).mono ?_
        rintro e w1 ⟨rfl, rfl⟩
        clear hst
        go_wp2_with fail
        refine (hcl _ HB.out.2.2.2.1).mono ?_
        rintro e w2 ⟨A4, c4, es4, B, d, l, rfl, hS4, hI4, hac, hfar, hb4⟩
        have hR := HB.out.2.1.below hb4 HB.out.2.1.lt
        have hbl := HB.out.2.2.2.1.trans (hb4.mono HB.out.2.2.2.1.size)
        have hof := (hfar (w.heap.size + 1) HB.out.2.1.lt).2 (HN.out _ (by omega))
        have hX := hR.sto7 hbl (by omega : w.heap.size ≤ w.heap.size + 1) (.int .i64 y.1.at_) (.string (strS y.1.inter)) (.bool y.1.over) (.slice A4 es4.length c4) (.bool y.1.par.o) (.string (strS y.1.text)) (.int .u8 (y.1.kind : Int))
        have hS5 := hS4.set7 hof.1 (.int .i64 y.1.at_) (.string (strS y.1.inter)) (.bool y.1.over) (.slice A4 es4.length c4) (.bool y.1.par.o) (.string (strS y.1.text)) (.int .u8 (y.1.kind : Int))
        have hI5 := hI4.set7 (hfar (w.heap.size + 1) HB.out.2.1.lt).1 hof.2 (.int .i64 y.1.at_) (.string (strS y.1.inter)) (.bool y.1.over) (.slice A4 es4.length c4) (.bool y.1.par.o) (.string (strS y.1.text)) (.int .u8 (y.1.kind : Int))
        have hfar2 : FarS A es w A4 es4 B l := fun X hX => hfar X (Nat.lt_of_lt_of_le hX HB.out.2.2.2.1.size)
        obtain ⟨c0, c1, c2, c3, c4', c5, c6⟩ := hR.cells7s
        obtain ⟨f0, f1, f2, f3, f4, f5, f6⟩ := hR.free7s
        have HX := Lib.hid (And.intro hX (And.intro hS5 (And.intro hI5 (And.intro hac hfar2))))
        clear hX hS5 hI5 hac hfar hfar2 hR hbl hof hS4 hI4 hb4 hcl HB HN a0 a1 a2 a3 a4 a5 a6
        simp only [stV_eq]
        go_wp2_with fail
        exact bodyPost_ret (ret_s2 rfl y.1 A4 es4.length c4 _ _ (w.heap.size + 1) _ _ rfl rfl HX.out.1.1) rfl ⟨A4, c4, es4, B, d, l, rfl, HX.out.2.1, HX.out.2.2.1, HX.out.2.2.2.1, HX.out.2.2.2.2, HX.out.1.2⟩
      · have q0 : (r == 24) = false := beq_eq_false_iff_ne.2 (by omega)
        have q1 : (r == 26) = false := beq_eq_false_iff_ne.2 (by omega)
        have q2 : (r == 27) = false := beq_eq_false_iff_ne.2 (by omega)
        have q3 : (r == 156) = false := beq_eq_false_iff_ne.2 (by omega)
        have q4 : 128 ≤ r := by omega
        have q5 : ¬ r ≤ 159 := by omega
        have HV := Lib.hid ((show outS s r = rStepS s r from by unfold rStepS; rw [if_neg (by omega), if_neg h27, if_neg hh, if_neg (by omega)]; rfl))
        have hst : ∀ V, Calls Tryd.prog 31 #[.int .i64 s.at_] V fun e w' => e = .returned (.bool false) ∧ w' = V := fun V => by
          have h := isString_c s.at_ V
          rw [show strB s.at_ = false from decide_eq_false (by omega)] at h
          exact h
        have hcl := fun V (hV : Below w.heap.size w V) => outside_c s A c es r V (by omega) ha6 hs (HS.out.on hV)
        rw [HV.out] at hcl
        have HN := Lib.hid (fun X (hX : w.heap.size ≤ X) => HS.out.inp.offNew hX)
        generalize hyy : rStepS s r = y at *
        clear h64 hs h24 h26 h27 h156 hh ha6 hlo HV
        simp only [stV_eq s] at hcl
        go_wp2_with fail
        refine (hst _).mono ?_
        rintro e w1 ⟨rfl, rfl⟩
        clear hst
        go_wp2_with fail
        refine (hcl _ HB.out.2.2.2.1).mono ?_
        rintro e w2 ⟨A4, c4, es4, B, d, l, rfl, hS4, hI4, hac, hfar, hb4⟩
        have hR := HB.out.2.1.below hb4 HB.out.2.1.lt
        have hbl := HB.out.2.2.2.1.trans (hb4.mono HB.out.2.2.2.1.size)
        have hof := (hfar (w.heap.size + 1) HB.out.2.1.lt).2 (HN.out _ (by omega))
        have hX := hR.sto7 hbl (by omega : w.heap.size ≤ w.heap.size + 1) (.int .i64 y.1.at_) (.string (strS y.1.inter)) (.bool y.1.over) (.slice A4 es4.length c4) (.bool y.1.par.o) (.string (strS y.1.text)) (.int .u8 (y.1.kind : Int))
        have hS5 := hS4.set7 hof.1 (.int .i64 y.1.at_) (.string (strS y.1.inter)) (.bool y.1.over) (.slice A4 es4.length c4) (.bool y.1.par.o) (.string (strS y.1.text)) (.int .u8 (y.1.kind : Int))
        have hI5 := hI4.set7 (hfar (w.heap.size + 1) HB.out.2.1.lt).1 hof.2 (.int .i64 y.1.at_) (.string (strS y.1.inter)) (.bool y.1.over) (.slice A4 es4.length c4) (.bool y.1.par.o) (.string (strS y.1.text)) (.int .u8 (y.1.kind : Int))
        have hfar2 : FarS A es w A4 es4 B l := fun X hX => hfar X (Nat.lt_of_lt_of_le hX HB.out.2.2.2.1.size)
        obtain ⟨c0, c1, c2, c3, c4', c5, c6⟩ := hR.cells7s
        obtain ⟨f0, f1, f2, f3, f4, f5, f6⟩ := hR.free7s
        have HX := Lib.hid (And.intro hX (And.intro hS5 (And.intro hI5 (And.intro hac hfar2))))
        clear hX hS5 hI5 hac hfar hfar2 hR hbl hof hS4 hI4 hb4 hcl HB HN a0 a1 a2 a3 a4 a5 a6
        simp only [stV_eq]
        go_wp2_with fail
        exact bodyPost_ret (ret_s2 rfl y.1 A4 es4.length c4 _ _ (w.heap.size + 1) _ _ rfl rfl HX.out.1.1) rfl ⟨A4, c4, es4, B, d, l, rfl, HX.out.2.1, HX.out.2.2.1, HX.out.2.2.2.1, HX.out.2.2.2.2, HX.out.1.2⟩
    have hhi := hs.hi
    by_cases hbell : s.at_ = 7 ∧ r = 7
    · have q0 : (r == 24) = false := beq_eq_false_iff_ne.2 (by omega)
      have q1 : (r == 26) = false := beq_eq_false_iff_ne.2 (by omega)
      have q2 : (r == 27) = false := beq_eq_false_iff_ne.2 (by omega)
      have q3 : (r == 156) = false := beq_eq_false_iff_ne.2 (by omega)
      have q4 : ¬ 128 ≤ r := by omega
      have q5 : (s.at_ == 7) = true := beq_iff_eq.2 (by omega)
      have q6 : (r == 7) = true := beq_iff_eq.2 (by omega)
      have HV := Lib.hid (show rStepS s r = (zeroS, endedS s) from by unfold rStepS textS; rw [if_neg (by omega), if_neg h27, if_neg hh, if_pos (by omega), if_pos ⟨hbell.2, hbell.1⟩])
      have hst : ∀ V, Calls Tryd.prog 31 #[.int .i64 s.at_] V fun e w' => e = .returned (.bool true) ∧ w' = V := fun V => by
        have h := isString_c s.at_ V
        rw [show strB s.at_ = true from decide_eq_true (by omega)] at h
        exact h
      have HE : Hid (AtEnd s A c es r w W zeroS none 0 []) := Lib.hid
        ⟨HB.out.1, HB.out.2.1, HB.out.2.2.1, HB.out.2.2.2.1, InA.nil (by decide), (fun b hb => by cases hb), by simp, by rw [HV.out]; simp [acts], rfl, by simp⟩
      clear h64 hs h24 h26 h27 h156 hh ha6 hhi hbell HB
      go_wp2_with fail
      refine (hst _).mono ?_
      rintro e w1 ⟨rfl, rfl⟩
      clear hst
      go_wp2_with fail
      go_step3
      refine ⟨rfl, ?_⟩
      unfold EndJ
      refine ⟨_, _, _, _, HE.out, ?_⟩
      repeat apply Exists.intro
      rfl
    by_cases hlo : r < 128
    · by_cases h7 : s.at_ = 7
      · have q0 : (r == 24) = false := beq_eq_false_iff_ne.2 (by omega)
        have q1 : (r == 26) = false := beq_eq_false_iff_ne.2 (by omega)
        have q2 : (r == 27) = false := beq_eq_false_iff_ne.2 (by omega)
        have q3 : (r == 156) = false := beq_eq_false_iff_ne.2 (by omega)
        have q4 : ¬ 128 ≤ r := by omega
        have q5 : (s.at_ == 7) = true := beq_iff_eq.2 (by omega)
        have q6 : (r == 7) = false := beq_eq_false_iff_ne.2 (by omega)
        have HV := Lib.hid ((show rStepS s r = (inS s r, []) from by unfold rStepS textS inS; rw [if_neg (by omega), if_neg h27, if_neg hh, if_pos (by omega), if_neg (by omega)]; split <;> rfl))
        have hst : ∀ V, Calls Tryd.prog 31 #[.int .i64 s.at_] V fun e w' => e = .returned (.bool true) ∧ w' = V := fun V => by
          have h := isString_c s.at_ V
          rw [show strB s.at_ = true from decide_eq_true (by omega)] at h
          exact h
        have hcl := fun V => inside_c s A es.length c r V h64 hs.fits
        have hyp : (inS s r).par = s.par := by
          unfold inS addS
          split
          · rfl
          · split <;> rfl
        have HYP := Lib.hid hyp
        generalize inS s r = y at *
        clear h64 hs h24 h26 h27 h156 hh ha6 hhi hbell hlo h7 hyp
        simp only [stV_eq] at hcl
        go_wp2_with fail
        refine (hst _).mono ?_
        rintro e w1 ⟨rfl, rfl⟩
        clear hst
        go_wp2_with fail
        refine (hcl _).mono ?_
        rintro e w2 ⟨rfl, hb4⟩
        have hR := HB.out.2.1.below hb4 HB.out.2.1.lt
        have hbl := HB.out.2.2.2.1.trans (hb4.mono HB.out.2.2.2.1.size)
        have hX := hR.sto7 hbl (by omega : w.heap.size ≤ w.heap.size + 1) (.int .i64 y.at_) (.string (strS y.inter)) (.bool y.over) (.slice A es.length c) (.bool y.par.o) (.string (strS y.text)) (.int .u8 (y.kind : Int))
        obtain ⟨c0, c1, c2, c3, c4', c5, c6⟩ := hR.cells7s
        obtain ⟨f0, f1, f2, f3, f4, f5, f6⟩ := hR.free7s
        have HX := Lib.hid hX
        clear hX hR hbl hb4 hcl HB a0 a1 a2 a3 a4 a5 a6
        go_wp2_with fail
        exact bodyPost_ret (ret_s2 rfl y A es.length c _ _ (w.heap.size + 1) _ _ rfl rfl HX.out.1) rfl (by rw [HV.out]; exact gives_none rfl ⟨HS.out.inp.on HX.out.2, by rw [HYP.out]; exact HS.out.reads⟩ (fun X hX h => h) HX.out.2)
      · have q0 : (r == 24) = false := beq_eq_false_iff_ne.2 (by omega)
        have q1 : (r == 26) = false := beq_eq_false_iff_ne.2 (by omega)
        have q2 : (r == 27) = false := beq_eq_false_iff_ne.2 (by omega)
        have q3 : (r == 156) = false := beq_eq_false_iff_ne.2 (by omega)
        have q4 : ¬ 128 ≤ r := by omega
        have q5 : (s.at_ == 7) = false := beq_eq_false_iff_ne.2 (by omega)
        have HV := Lib.hid ((show rStepS s r = (inS s r, []) from by unfold rStepS textS inS; rw [if_neg (by omega), if_neg h27, if_neg hh, if_pos (by omega), if_neg (by omega)]; split <;> rfl))
        have hst : ∀ V, Calls Tryd.prog 31 #[.int .i64 s.at_] V fun e w' => e = .returned (.bool true) ∧ w' = V := fun V => by
          have h := isString_c s.at_ V
          rw [show strB s.at_ = true from decide_eq_true (by omega)] at h
          exact h
        have hcl := fun V => inside_c s A es.length c r V h64 hs.fits
        have hyp : (inS s r).par = s.par := by
          unfold inS addS
          split
          · rfl
          · split <;> rfl
        have HYP := Lib.hid hyp
        generalize inS s r = y at *
        clear h64 hs h24 h26 h27 h156 hh ha6 hhi hbell hlo h7 hyp
        simp only [stV_eq] at hcl
        go_wp2_with fail
        refine (hst _).mono ?_
        rintro e w1 ⟨rfl, rfl⟩
        clear hst
        go_wp2_with fail
        refine (hcl _).mono ?_
        rintro e w2 ⟨rfl, hb4⟩
        have hR := HB.out.2.1.below hb4 HB.out.2.1.lt
        have hbl := HB.out.2.2.2.1.trans (hb4.mono HB.out.2.2.2.1.size)
        have hX := hR.sto7 hbl (by omega : w.heap.size ≤ w.heap.size + 1) (.int .i64 y.at_) (.string (strS y.inter)) (.bool y.over) (.slice A es.length c) (.bool y.par.o) (.string (strS y.text)) (.int .u8 (y.kind : Int))
        obtain ⟨c0, c1, c2, c3, c4', c5, c6⟩ := hR.cells7s
        obtain ⟨f0, f1, f2, f3, f4, f5, f6⟩ := hR.free7s
        have HX := Lib.hid hX
        clear hX hR hbl hb4 hcl HB a0 a1 a2 a3 a4 a5 a6
        go_wp2_with fail
        exact bodyPost_ret (ret_s2 rfl y A es.length c _ _ (w.heap.size + 1) _ _ rfl rfl HX.out.1) rfl (by rw [HV.out]; exact gives_none rfl ⟨HS.out.inp.on HX.out.2, by rw [HYP.out]; exact HS.out.reads⟩ (fun X hX h => h) HX.out.2)
    · by_cases h7 : s.at_ = 7
      · have q0 : (r == 24) = false := beq_eq_false_iff_ne.2 (by omega)
        have q1 : (r == 26) = false := beq_eq_false_iff_ne.2 (by omega)
        have q2 : (r == 27) = false := beq_eq_false_iff_ne.2 (by omega)
        have q3 : (r == 156) = false := beq_eq_false_iff_ne.2 (by omega)
        have q4 : 128 ≤ r := by omega
        have q5 : ¬ r ≤ 159 := by omega
        have q6 : (s.at_ == 7) = true := beq_iff_eq.2 (by omega)
        have q7 : (r == 7) = false := beq_eq_false_iff_ne.2 (by omega)
        have HV := Lib.hid ((show rStepS s r = (inS s r, []) from by unfold rStepS textS inS; rw [if_neg (by omega), if_neg h27, if_neg hh, if_pos (by omega), if_neg (by omega)]; split <;> rfl))
        have hst : ∀ V, Calls Tryd.prog 31 #[.int .i64 s.at_] V fun e w' => e = .returned (.bool true) ∧ w' = V := fun V => by
          have h := isString_c s.at_ V
          rw [show strB s.at_ = true from decide_eq_true (by omega)] at h
          exact h
        have hcl := fun V => inside_c s A es.length c r V h64 hs.fits
        have hyp : (inS s r).par = s.par := by
          unfold inS addS
          split
          · rfl
          · split <;> rfl
        have HYP := Lib.hid hyp
        generalize inS s r = y at *
        clear h64 hs h24 h26 h27 h156 hh ha6 hhi hbell hlo h7 hyp
        simp only [stV_eq] at hcl
        go_wp2_with fail
        refine (hst _).mono ?_
        rintro e w1 ⟨rfl, rfl⟩
        clear hst
        go_wp2_with fail
        refine (hcl _).mono ?_
        rintro e w2 ⟨rfl, hb4⟩
        have hR := HB.out.2.1.below hb4 HB.out.2.1.lt
        have hbl := HB.out.2.2.2.1.trans (hb4.mono HB.out.2.2.2.1.size)
        have hX := hR.sto7 hbl (by omega : w.heap.size ≤ w.heap.size + 1) (.int .i64 y.at_) (.string (strS y.inter)) (.bool y.over) (.slice A es.length c) (.bool y.par.o) (.string (strS y.text)) (.int .u8 (y.kind : Int))
        obtain ⟨c0, c1, c2, c3, c4', c5, c6⟩ := hR.cells7s
        obtain ⟨f0, f1, f2, f3, f4, f5, f6⟩ := hR.free7s
        have HX := Lib.hid hX
        clear hX hR hbl hb4 hcl HB a0 a1 a2 a3 a4 a5 a6
        go_wp2_with fail
        exact bodyPost_ret (ret_s2 rfl y A es.length c _ _ (w.heap.size + 1) _ _ rfl rfl HX.out.1) rfl (by rw [HV.out]; exact gives_none rfl ⟨HS.out.inp.on HX.out.2, by rw [HYP.out]; exact HS.out.reads⟩ (fun X hX h => h) HX.out.2)
      · have q0 : (r == 24) = false := beq_eq_false_iff_ne.2 (by omega)
        have q1 : (r == 26) = false := beq_eq_false_iff_ne.2 (by omega)
        have q2 : (r == 27) = false := beq_eq_false_iff_ne.2 (by omega)
        have q3 : (r == 156) = false := beq_eq_false_iff_ne.2 (by omega)
        have q4 : 128 ≤ r := by omega
        have q5 : ¬ r ≤ 159 := by omega
        have q6 : (s.at_ == 7) = false := beq_eq_false_iff_ne.2 (by omega)
        have HV := Lib.hid ((show rStepS s r = (inS s r, []) from by unfold rStepS textS inS; rw [if_neg (by omega), if_neg h27, if_neg hh, if_pos (by omega), if_neg (by omega)]; split <;> rfl))
        have hst : ∀ V, Calls Tryd.prog 31 #[.int .i64 s.at_] V fun e w' => e = .returned (.bool true) ∧ w' = V := fun V => by
          have h := isString_c s.at_ V
          rw [show strB s.at_ = true from decide_eq_true (by omega)] at h
          exact h
        have hcl := fun V => inside_c s A es.length c r V h64 hs.fits
        have hyp : (inS s r).par = s.par := by
          unfold inS addS
          split
          · rfl
          · split <;> rfl
        have HYP := Lib.hid hyp
        generalize inS s r = y at *
        clear h64 hs h24 h26 h27 h156 hh ha6 hhi hbell hlo h7 hyp
        simp only [stV_eq] at hcl
        go_wp2_with fail
        refine (hst _).mono ?_
        rintro e w1 ⟨rfl, rfl⟩
        clear hst
        go_wp2_with fail
        refine (hcl _).mono ?_
        rintro e w2 ⟨rfl, hb4⟩
        have hR := HB.out.2.1.below hb4 HB.out.2.1.lt
        have hbl := HB.out.2.2.2.1.trans (hb4.mono HB.out.2.2.2.1.size)
        have hX := hR.sto7 hbl (by omega : w.heap.size ≤ w.heap.size + 1) (.int .i64 y.at_) (.string (strS y.inter)) (.bool y.over) (.slice A es.length c) (.bool y.par.o) (.string (strS y.text)) (.int .u8 (y.kind : Int))
        obtain ⟨c0, c1, c2, c3, c4', c5, c6⟩ := hR.cells7s
        obtain ⟨f0, f1, f2, f3, f4, f5, f6⟩ := hR.free7s
        have HX := Lib.hid hX
        clear hX hR hbl hb4 hcl HB a0 a1 a2 a3 a4 a5 a6
        go_wp2_with fail
        exact bodyPost_ret (ret_s2 rfl y A es.length c _ _ (w.heap.size + 1) _ _ rfl rfl HX.out.1) rfl (by rw [HV.out]; exact gives_none rfl ⟨HS.out.inp.on HX.out.2, by rw [HYP.out]; exact HS.out.reads⟩ (fun X hX h => h) HX.out.2)
  · intro a V hJ
    unfold EndJ at hJ
    obtain ⟨x, B, d, l, hE, u9, u10, u11, u12, u13, u14, u15, u16, u17, u18, u19, u20, u21, u22, u23, u24, u25, u26, u27, u28, u29, u30, u31, u32, u33, u34, u35, u36, u37, u38, u39, u40, u41, u42, u43, u44, u45, u46, u47, u48, u49, u50, u51, u52, u53, u54, u55, u56, u57, u58, u59, u60, u61, u62, u63, u64, u65, u66, u67, u68, u69, u70, u71, u72, u73, u74, u75, u76, u77, u78, u79, u80, u81, u82, u83, u84, u85, u86, rfl⟩ := hJ
    clear HH
    obtain ⟨i0, hi, hz0, hz1, hz2⟩ := info_parts infoActZ
    have hhi := hs.hi
    obtain ⟨a0, a1, a2, a3, a4, a5, a6⟩ := hE.sb.st'
    have hsh := hE.short
    by_cases h7 : s.at_ = 7
    · have q7 : (s.at_ == 7) = true := beq_iff_eq.2 h7
      have hend : endedS s = acts [(⟨5, 0, 0, [], none, 0, [], s.text⟩ : AcE)] := by unfold endedS; rw [if_pos h7]; rfl
      have HE := Lib.hid (And.intro hE hend)
      clear hend
      have hal := (Below.refl V.heap.size V).alloc (Nat.le_refl _) (.cells #[.int .i64 5, .int .i64 0, .int .u8 0, .string ⟨#[]⟩, .slice none 0 0, .string (strS s.text)] 44)
      have hown : (V.alloc (.cells #[.int .i64 5, .int .i64 0, .int .u8 0, .string ⟨#[]⟩, .slice none 0 0, .string (strS s.text)] 44)).ownsRow (w.heap.size + 3) 44 6 (.slice (some ⟨V.heap.size, 0, none⟩) 1 1) 1 (flatA [(⟨5, 0, 0, [], none, 0, [], s.text⟩ : AcE)]) := own_one (W := V) (e := (⟨5, 0, 0, [], none, 0, [], s.text⟩ : AcE)) (base := w.heap.size + 3) (by have := hE.nb.lt; omega)
      have hlt : w.heap.size + 3 ≤ (V.alloc (.cells #[.int .i64 5, .int .i64 0, .int .u8 0, .string ⟨#[]⟩, .slice none 0 0, .string (strS s.text)] 44)).heap.size := by have := hE.nb.lt; simp; omega
      have hFS := And.intro (hE.rb.alloc (.cells #[.int .i64 5, .int .i64 0, .int .u8 0, .string ⟨#[]⟩, .slice none 0 0, .string (strS s.text)] 44)) (And.intro (hE.nb.alloc (.cells #[.int .i64 5, .int .i64 0, .int .u8 0, .string ⟨#[]⟩, .slice none 0 0, .string (strS s.text)] 44)) (And.intro (hE.bl.alloc hE.bl.size (.cells #[.int .i64 5, .int .i64 0, .int .u8 0, .string ⟨#[]⟩, .slice none 0 0, .string (strS s.text)] 44)) (And.intro (hE.ia.on hal) (And.intro hown hlt))))
      have hne : (.slice (some ⟨V.heap.size, 0, none⟩) 1 1 : Value).ownBlock ≠ some (w.heap.size + 1 + 1) ∧ (.slice (some ⟨V.heap.size, 0, none⟩) 1 1 : Value).ownBlock ≠ some (w.heap.size + 1) := by have := hE.nb.lt; simp [Value.ownBlock]; omega
      have HFS := Lib.hid hFS
      have HNE := Lib.hid hne
      clear hne hFS hE hal hown hlt
      clear h7
      go_upto_region 23 with fail
      clear a0 a1 a2 a3 a4 a5 a6
      obtain ⟨hrb, hnb, hbl, hia, hown, hlt⟩ := HFS.out
      clear HFS
      have hgb : w.heap.size + 3 ≤ V.heap.size := HE.out.1.nb.lt
      generalize V.alloc (.cells #[.int .i64 5, .int .i64 0, .int .u8 0, .string ⟨#[]⟩, .slice none 0 0, .string (strS s.text)] 44) = V1 at *
      have HHas : Nonempty (Has (fun X => Box X (w.heap.size + 1 + 1) 28 (stCells x none 0 0))) := ⟨⟨V1, hnb⟩⟩
      have k0 : ∀ u : Has (fun X => Box X (w.heap.size + 1 + 1) 28 (stCells x none 0 0)), u.val.cell? ⟨w.heap.size + 1 + 1, 0, none⟩ = some (.int .i64 x.at_) := fun u => u.ok.cell 0
      have k1 : ∀ u : Has (fun X => Box X (w.heap.size + 1 + 1) 28 (stCells x none 0 0)), u.val.cell? ⟨w.heap.size + 1 + 1, 1, none⟩ = some (.string (strS x.inter)) := fun u => u.ok.cell 1
      have k2 : ∀ u : Has (fun X => Box X (w.heap.size + 1 + 1) 28 (stCells x none 0 0)), u.val.cell? ⟨w.heap.size + 1 + 1, 2, none⟩ = some (.bool x.over) := fun u => u.ok.cell 2
      have k3 : ∀ u : Has (fun X => Box X (w.heap.size + 1 + 1) 28 (stCells x none 0 0)), u.val.cell? ⟨w.heap.size + 1 + 1, 3, none⟩ = some (.slice none 0 0) := fun u => u.ok.cell 3
      have k4 : ∀ u : Has (fun X => Box X (w.heap.size + 1 + 1) 28 (stCells x none 0 0)), u.val.cell? ⟨w.heap.size + 1 + 1, 4, none⟩ = some (.bool x.par.o) := fun u => u.ok.cell 4
      have k5 : ∀ u : Has (fun X => Box X (w.heap.size + 1 + 1) 28 (stCells x none 0 0)), u.val.cell? ⟨w.heap.size + 1 + 1, 5, none⟩ = some (.string (strS x.text)) := fun u => u.ok.cell 5
      have k6 : ∀ u : Has (fun X => Box X (w.heap.size + 1 + 1) 28 (stCells x none 0 0)), u.val.cell? ⟨w.heap.size + 1 + 1, 6, none⟩ = some (.int .u8 (x.kind : Int)) := fun u => u.ok.cell 6
      have HN0 := Lib.hid hnb.drew
      have HD := Lib.hid (And.intro hrb (And.intro hnb (And.intro hbl (And.intro hia (And.intro hown hlt)))))
      have HOWN := Lib.hid hown.drew
      have HIA := Lib.hid (hia.on (Below.refl _ _).drew)
      have hltd : w.heap.size + 3 ≤ V1.drew.heap.size := hlt
      clear hrb hnb hbl hia hown hlt
      refine region_plan [([0, 1, 2], [3, 4]), ([5], [])] (fun w' => ∃ u : Has (fun X => Box X (w.heap.size + 1 + 1) 28 (stCells x none 0 0)), w' = u.val) (by kernel_rfl) (by kernel_rfl) (fun _ _ _ _ _ h => h) ⟨⟨_, HN0.out⟩, rfl⟩ ?_
      simp only [wpPlan, sel, List.take_succ_cons, List.take_zero, List.drop_succ_cons, List.drop_zero, List.cons_append, List.nil_append]
      repeat (go_big_quiet_step (fail))
      refine wpQuiet_nil ?_
      unfold wpChain
      clear k0 k1 k2 k3 k4 k5 k6 HHas
      go_wp2_with (at_builtin; refine wpList_append_acts rfl _ _ 29 rfl (w.heap.size + 3) 44 i0 _ 80 Tryd.underlying29 hi hz0 hz1 hz2 rfl _ 1 [(⟨5, 0, 0, [], none, 0, [], s.text⟩ : AcE)] rfl HOWN.out B d l rfl HIA.out (by unfold maxLen; omega) (by omega) hltd ?_)
      intro v' w2 hown2 hO
      obtain ⟨A', c', rfl⟩ : ∃ A' c', v' = .slice A' (1 + l.length) c' := by
        obtain ⟨A', c', h, _, _⟩ := own_form1 hown2
        exact ⟨A', c', h⟩
      have hown3 : w2.ownsRow (w.heap.size + 3) 44 6 (.slice A' (1 + l.length) c') (1 + l.length) (flatA ([(⟨5, 0, 0, [], none, 0, [], s.text⟩ : AcE)] ++ l)) := hown2
      obtain ⟨hrb, hnb, hbl, hia, hown, hlt⟩ := HD.out
      have hnb2 := hO.box hnb.drew HNE.out.1
      have hrb2 := hO.box hrb.drew HNE.out.2
      have hbl2 : Below w.heap.size w w2 := hbl.drew.trans ((hO.belowBase hltd (fun g hg => (own_block HOWN.out hg).1)).mono (by omega))
      have hbare : ∀ e ∈ [(⟨5, 0, 0, [], none, 0, [], s.text⟩ : AcE)] ++ l, e.es = [] := fun e he => by
        rcases List.mem_append.1 he with he | he
        · rw [List.mem_singleton.1 he]
        · exact HE.out.1.bare e he
      have hin2 : InA w2 A' c' ([(⟨5, 0, 0, [], none, 0, [], s.text⟩ : AcE)] ++ l) := InA.of_own hown3 (fun e he => bare_in (hbare e he) (by
        rcases List.mem_append.1 he with he | he
        · rw [List.mem_singleton.1 he]; exact Nat.zero_le _
        · exact (HIA.out.par e he).max))
      have hfr : ∀ a, A' = some a → [(⟨5, 0, 0, [], none, 0, [], s.text⟩ : AcE)] ++ l ≠ [] → w.heap.size + 3 ≤ a.block := fun a ha _ => by
        subst ha
        exact (own_block hown3 (g := a.block) rfl).1
      have hX := hrb2.sto7 hbl2 (by omega : w.heap.size ≤ w.heap.size + 1) (.int .i64 x.at_) (.string (strS x.inter)) (.bool x.over) (.slice none 0 0) (.bool x.par.o) (.string (strS x.text)) (.int .u8 (x.kind : Int))
      have hn3 := hnb2.far7 (g' := w.heap.size + 1) (by omega) (.int .i64 x.at_) (.string (strS x.inter)) (.bool x.over) (.slice none 0 0) (.bool x.par.o) (.string (strS x.text)) (.int .u8 (x.kind : Int))
      have hJ := hin2.set7 (X := w.heap.size + 1) (by intro a ha hl hb; have := hfr a ha hl; omega) (by intro e he; rw [hbare e he]; exact Off.nil) (.int .i64 x.at_) (.string (strS x.inter)) (.bool x.over) (.slice none 0 0) (.bool x.par.o) (.string (strS x.text)) (.int .u8 (x.kind : Int))
      obtain ⟨c0, c1, c2, c3, c4, c5, c6⟩ := hrb2.cells7s
      obtain ⟨f0, f1, f2, f3, f4, f5, f6⟩ := hrb2.free7s
      have HX := Lib.hid (And.intro hX (And.intro hJ (And.intro hn3 (And.intro hnb2 (And.intro hbare hfr)))))
      clear hown3 hX hJ hn3 hnb2 hrb2 hbl2 hbare hfr hin2 hown2 hO hrb hnb hbl hia hown hlt HD HNE HIA HOWN HN0
      go_wp2_with fail
      refine ⟨⟨⟨_, HX.out.2.2.2.1⟩, rfl⟩, ?_⟩
      unfold wpChain
      go_wp2_with fail
      refine ⟨⟨⟨_, HX.out.2.2.1⟩, rfl⟩, ?_⟩
      unfold wpChain
      repeat (go_big_quiet_step (fail))
      refine wpQuiet_nil ?_
      unfold wpChain
      go_wp2_with fail
      exact bodyPost_ret (ret_s2 rfl x none 0 0 _ _ (w.heap.size + 1) _ _ rfl rfl HX.out.1.1) rfl (end_gives HE.out.1.val HE.out.2 (by simp; omega) rfl HE.out.1.par HX.out.2.1 HX.out.2.2.2.2.1 HX.out.2.2.2.2.2 HX.out.1.2)
    by_cases h8 : s.at_ = 8
    · have q7 : (s.at_ == 7) = false := beq_eq_false_iff_ne.2 h7
      have q8 : (s.at_ == 8) = true := beq_iff_eq.2 h8
      have hend : endedS s = acts [(⟨6, 0, 0, [], none, 0, [], s.text⟩ : AcE)] := by unfold endedS; rw [if_neg h7, if_pos h8]; rfl
      have HE := Lib.hid (And.intro hE hend)
      clear hend
      have hal := (Below.refl V.heap.size V).alloc (Nat.le_refl _) (.cells #[.int .i64 6, .int .i64 0, .int .u8 0, .string ⟨#[]⟩, .slice none 0 0, .string (strS s.text)] 44)
      have hown : (V.alloc (.cells #[.int .i64 6, .int .i64 0, .int .u8 0, .string ⟨#[]⟩, .slice none 0 0, .string (strS s.text)] 44)).ownsRow (w.heap.size + 3) 44 6 (.slice (some ⟨V.heap.size, 0, none⟩) 1 1) 1 (flatA [(⟨6, 0, 0, [], none, 0, [], s.text⟩ : AcE)]) := own_one (W := V) (e := (⟨6, 0, 0, [], none, 0, [], s.text⟩ : AcE)) (base := w.heap.size + 3) (by have := hE.nb.lt; omega)
      have hlt : w.heap.size + 3 ≤ (V.alloc (.cells #[.int .i64 6, .int .i64 0, .int .u8 0, .string ⟨#[]⟩, .slice none 0 0, .string (strS s.text)] 44)).heap.size := by have := hE.nb.lt; simp; omega
      have hFS := And.intro (hE.rb.alloc (.cells #[.int .i64 6, .int .i64 0, .int .u8 0, .string ⟨#[]⟩, .slice none 0 0, .string (strS s.text)] 44)) (And.intro (hE.nb.alloc (.cells #[.int .i64 6, .int .i64 0, .int .u8 0, .string ⟨#[]⟩, .slice none 0 0, .string (strS s.text)] 44)) (And.intro (hE.bl.alloc hE.bl.size (.cells #[.int .i64 6, .int .i64 0, .int .u8 0, .string ⟨#[]⟩, .slice none 0 0, .string (strS s.text)] 44)) (And.intro (hE.ia.on hal) (And.intro hown hlt))))
      have hne : (.slice (some ⟨V.heap.size, 0, none⟩) 1 1 : Value).ownBlock ≠ some (w.heap.size + 1 + 1) ∧ (.slice (some ⟨V.heap.size, 0, none⟩) 1 1 : Value).ownBlock ≠ some (w.heap.size + 1) := by have := hE.nb.lt; simp [Value.ownBlock]; omega
      have HFS := Lib.hid hFS
      have HNE := Lib.hid hne
      clear hne hFS hE hal hown hlt
      clear h7 h8
      go_upto_region 23 with fail
      clear a0 a1 a2 a3 a4 a5 a6
      obtain ⟨hrb, hnb, hbl, hia, hown, hlt⟩ := HFS.out
      clear HFS
      have hgb : w.heap.size + 3 ≤ V.heap.size := HE.out.1.nb.lt
      generalize V.alloc (.cells #[.int .i64 6, .int .i64 0, .int .u8 0, .string ⟨#[]⟩, .slice none 0 0, .string (strS s.text)] 44) = V1 at *
      have HHas : Nonempty (Has (fun X => Box X (w.heap.size + 1 + 1) 28 (stCells x none 0 0))) := ⟨⟨V1, hnb⟩⟩
      have k0 : ∀ u : Has (fun X => Box X (w.heap.size + 1 + 1) 28 (stCells x none 0 0)), u.val.cell? ⟨w.heap.size + 1 + 1, 0, none⟩ = some (.int .i64 x.at_) := fun u => u.ok.cell 0
      have k1 : ∀ u : Has (fun X => Box X (w.heap.size + 1 + 1) 28 (stCells x none 0 0)), u.val.cell? ⟨w.heap.size + 1 + 1, 1, none⟩ = some (.string (strS x.inter)) := fun u => u.ok.cell 1
      have k2 : ∀ u : Has (fun X => Box X (w.heap.size + 1 + 1) 28 (stCells x none 0 0)), u.val.cell? ⟨w.heap.size + 1 + 1, 2, none⟩ = some (.bool x.over) := fun u => u.ok.cell 2
      have k3 : ∀ u : Has (fun X => Box X (w.heap.size + 1 + 1) 28 (stCells x none 0 0)), u.val.cell? ⟨w.heap.size + 1 + 1, 3, none⟩ = some (.slice none 0 0) := fun u => u.ok.cell 3
      have k4 : ∀ u : Has (fun X => Box X (w.heap.size + 1 + 1) 28 (stCells x none 0 0)), u.val.cell? ⟨w.heap.size + 1 + 1, 4, none⟩ = some (.bool x.par.o) := fun u => u.ok.cell 4
      have k5 : ∀ u : Has (fun X => Box X (w.heap.size + 1 + 1) 28 (stCells x none 0 0)), u.val.cell? ⟨w.heap.size + 1 + 1, 5, none⟩ = some (.string (strS x.text)) := fun u => u.ok.cell 5
      have k6 : ∀ u : Has (fun X => Box X (w.heap.size + 1 + 1) 28 (stCells x none 0 0)), u.val.cell? ⟨w.heap.size + 1 + 1, 6, none⟩ = some (.int .u8 (x.kind : Int)) := fun u => u.ok.cell 6
      have HN0 := Lib.hid hnb.drew
      have HD := Lib.hid (And.intro hrb (And.intro hnb (And.intro hbl (And.intro hia (And.intro hown hlt)))))
      have HOWN := Lib.hid hown.drew
      have HIA := Lib.hid (hia.on (Below.refl _ _).drew)
      have hltd : w.heap.size + 3 ≤ V1.drew.heap.size := hlt
      clear hrb hnb hbl hia hown hlt
      refine region_plan [([0, 1, 2], [3, 4]), ([5], [])] (fun w' => ∃ u : Has (fun X => Box X (w.heap.size + 1 + 1) 28 (stCells x none 0 0)), w' = u.val) (by kernel_rfl) (by kernel_rfl) (fun _ _ _ _ _ h => h) ⟨⟨_, HN0.out⟩, rfl⟩ ?_
      simp only [wpPlan, sel, List.take_succ_cons, List.take_zero, List.drop_succ_cons, List.drop_zero, List.cons_append, List.nil_append]
      repeat (go_big_quiet_step (fail))
      refine wpQuiet_nil ?_
      unfold wpChain
      clear k0 k1 k2 k3 k4 k5 k6 HHas
      go_wp2_with (at_builtin; refine wpList_append_acts rfl _ _ 29 rfl (w.heap.size + 3) 44 i0 _ 80 Tryd.underlying29 hi hz0 hz1 hz2 rfl _ 1 [(⟨6, 0, 0, [], none, 0, [], s.text⟩ : AcE)] rfl HOWN.out B d l rfl HIA.out (by unfold maxLen; omega) (by omega) hltd ?_)
      intro v' w2 hown2 hO
      obtain ⟨A', c', rfl⟩ : ∃ A' c', v' = .slice A' (1 + l.length) c' := by
        obtain ⟨A', c', h, _, _⟩ := own_form1 hown2
        exact ⟨A', c', h⟩
      have hown3 : w2.ownsRow (w.heap.size + 3) 44 6 (.slice A' (1 + l.length) c') (1 + l.length) (flatA ([(⟨6, 0, 0, [], none, 0, [], s.text⟩ : AcE)] ++ l)) := hown2
      obtain ⟨hrb, hnb, hbl, hia, hown, hlt⟩ := HD.out
      have hnb2 := hO.box hnb.drew HNE.out.1
      have hrb2 := hO.box hrb.drew HNE.out.2
      have hbl2 : Below w.heap.size w w2 := hbl.drew.trans ((hO.belowBase hltd (fun g hg => (own_block HOWN.out hg).1)).mono (by omega))
      have hbare : ∀ e ∈ [(⟨6, 0, 0, [], none, 0, [], s.text⟩ : AcE)] ++ l, e.es = [] := fun e he => by
        rcases List.mem_append.1 he with he | he
        · rw [List.mem_singleton.1 he]
        · exact HE.out.1.bare e he
      have hin2 : InA w2 A' c' ([(⟨6, 0, 0, [], none, 0, [], s.text⟩ : AcE)] ++ l) := InA.of_own hown3 (fun e he => bare_in (hbare e he) (by
        rcases List.mem_append.1 he with he | he
        · rw [List.mem_singleton.1 he]; exact Nat.zero_le _
        · exact (HIA.out.par e he).max))
      have hfr : ∀ a, A' = some a → [(⟨6, 0, 0, [], none, 0, [], s.text⟩ : AcE)] ++ l ≠ [] → w.heap.size + 3 ≤ a.block := fun a ha _ => by
        subst ha
        exact (own_block hown3 (g := a.block) rfl).1
      have hX := hrb2.sto7 hbl2 (by omega : w.heap.size ≤ w.heap.size + 1) (.int .i64 x.at_) (.string (strS x.inter)) (.bool x.over) (.slice none 0 0) (.bool x.par.o) (.string (strS x.text)) (.int .u8 (x.kind : Int))
      have hn3 := hnb2.far7 (g' := w.heap.size + 1) (by omega) (.int .i64 x.at_) (.string (strS x.inter)) (.bool x.over) (.slice none 0 0) (.bool x.par.o) (.string (strS x.text)) (.int .u8 (x.kind : Int))
      have hJ := hin2.set7 (X := w.heap.size + 1) (by intro a ha hl hb; have := hfr a ha hl; omega) (by intro e he; rw [hbare e he]; exact Off.nil) (.int .i64 x.at_) (.string (strS x.inter)) (.bool x.over) (.slice none 0 0) (.bool x.par.o) (.string (strS x.text)) (.int .u8 (x.kind : Int))
      obtain ⟨c0, c1, c2, c3, c4, c5, c6⟩ := hrb2.cells7s
      obtain ⟨f0, f1, f2, f3, f4, f5, f6⟩ := hrb2.free7s
      have HX := Lib.hid (And.intro hX (And.intro hJ (And.intro hn3 (And.intro hnb2 (And.intro hbare hfr)))))
      clear hown3 hX hJ hn3 hnb2 hrb2 hbl2 hbare hfr hin2 hown2 hO hrb hnb hbl hia hown hlt HD HNE HIA HOWN HN0
      go_wp2_with fail
      refine ⟨⟨⟨_, HX.out.2.2.2.1⟩, rfl⟩, ?_⟩
      unfold wpChain
      go_wp2_with fail
      refine ⟨⟨⟨_, HX.out.2.2.1⟩, rfl⟩, ?_⟩
      unfold wpChain
      repeat (go_big_quiet_step (fail))
      refine wpQuiet_nil ?_
      unfold wpChain
      go_wp2_with fail
      exact bodyPost_ret (ret_s2 rfl x none 0 0 _ _ (w.heap.size + 1) _ _ rfl rfl HX.out.1.1) rfl (end_gives HE.out.1.val HE.out.2 (by simp; omega) rfl HE.out.1.par HX.out.2.1 HX.out.2.2.2.2.1 HX.out.2.2.2.2.2 HX.out.1.2)
    by_cases h9 : s.at_ = 9
    · have q7 : (s.at_ == 7) = false := beq_eq_false_iff_ne.2 h7
      have q8 : (s.at_ == 8) = false := beq_eq_false_iff_ne.2 h8
      have q9 : (s.at_ == 9) = true := beq_iff_eq.2 h9
      have hend : endedS s = acts [(⟨7, 0, s.kind, [], none, 0, [], s.text⟩ : AcE)] := by unfold endedS; rw [if_neg h7, if_neg h8, if_pos h9]; rfl
      have HE := Lib.hid (And.intro hE hend)
      clear hend
      have hal := (Below.refl V.heap.size V).alloc (Nat.le_refl _) (.cells #[.int .i64 7, .int .i64 0, .int .u8 (s.kind : Int), .string ⟨#[]⟩, .slice none 0 0, .string (strS s.text)] 44)
      have hown : (V.alloc (.cells #[.int .i64 7, .int .i64 0, .int .u8 (s.kind : Int), .string ⟨#[]⟩, .slice none 0 0, .string (strS s.text)] 44)).ownsRow (w.heap.size + 3) 44 6 (.slice (some ⟨V.heap.size, 0, none⟩) 1 1) 1 (flatA [(⟨7, 0, s.kind, [], none, 0, [], s.text⟩ : AcE)]) := own_one (W := V) (e := (⟨7, 0, s.kind, [], none, 0, [], s.text⟩ : AcE)) (base := w.heap.size + 3) (by have := hE.nb.lt; omega)
      have hlt : w.heap.size + 3 ≤ (V.alloc (.cells #[.int .i64 7, .int .i64 0, .int .u8 (s.kind : Int), .string ⟨#[]⟩, .slice none 0 0, .string (strS s.text)] 44)).heap.size := by have := hE.nb.lt; simp; omega
      have hFS := And.intro (hE.rb.alloc (.cells #[.int .i64 7, .int .i64 0, .int .u8 (s.kind : Int), .string ⟨#[]⟩, .slice none 0 0, .string (strS s.text)] 44)) (And.intro (hE.nb.alloc (.cells #[.int .i64 7, .int .i64 0, .int .u8 (s.kind : Int), .string ⟨#[]⟩, .slice none 0 0, .string (strS s.text)] 44)) (And.intro (hE.bl.alloc hE.bl.size (.cells #[.int .i64 7, .int .i64 0, .int .u8 (s.kind : Int), .string ⟨#[]⟩, .slice none 0 0, .string (strS s.text)] 44)) (And.intro (hE.ia.on hal) (And.intro hown hlt))))
      have hne : (.slice (some ⟨V.heap.size, 0, none⟩) 1 1 : Value).ownBlock ≠ some (w.heap.size + 1 + 1) ∧ (.slice (some ⟨V.heap.size, 0, none⟩) 1 1 : Value).ownBlock ≠ some (w.heap.size + 1) := by have := hE.nb.lt; simp [Value.ownBlock]; omega
      have HFS := Lib.hid hFS
      have HNE := Lib.hid hne
      clear hne hFS hE hal hown hlt
      clear h7 h8 h9
      go_upto_region 23 with fail
      clear a0 a1 a2 a3 a4 a5 a6
      obtain ⟨hrb, hnb, hbl, hia, hown, hlt⟩ := HFS.out
      clear HFS
      have hgb : w.heap.size + 3 ≤ V.heap.size := HE.out.1.nb.lt
      generalize V.alloc (.cells #[.int .i64 7, .int .i64 0, .int .u8 (s.kind : Int), .string ⟨#[]⟩, .slice none 0 0, .string (strS s.text)] 44) = V1 at *
      have HHas : Nonempty (Has (fun X => Box X (w.heap.size + 1 + 1) 28 (stCells x none 0 0))) := ⟨⟨V1, hnb⟩⟩
      have k0 : ∀ u : Has (fun X => Box X (w.heap.size + 1 + 1) 28 (stCells x none 0 0)), u.val.cell? ⟨w.heap.size + 1 + 1, 0, none⟩ = some (.int .i64 x.at_) := fun u => u.ok.cell 0
      have k1 : ∀ u : Has (fun X => Box X (w.heap.size + 1 + 1) 28 (stCells x none 0 0)), u.val.cell? ⟨w.heap.size + 1 + 1, 1, none⟩ = some (.string (strS x.inter)) := fun u => u.ok.cell 1
      have k2 : ∀ u : Has (fun X => Box X (w.heap.size + 1 + 1) 28 (stCells x none 0 0)), u.val.cell? ⟨w.heap.size + 1 + 1, 2, none⟩ = some (.bool x.over) := fun u => u.ok.cell 2
      have k3 : ∀ u : Has (fun X => Box X (w.heap.size + 1 + 1) 28 (stCells x none 0 0)), u.val.cell? ⟨w.heap.size + 1 + 1, 3, none⟩ = some (.slice none 0 0) := fun u => u.ok.cell 3
      have k4 : ∀ u : Has (fun X => Box X (w.heap.size + 1 + 1) 28 (stCells x none 0 0)), u.val.cell? ⟨w.heap.size + 1 + 1, 4, none⟩ = some (.bool x.par.o) := fun u => u.ok.cell 4
      have k5 : ∀ u : Has (fun X => Box X (w.heap.size + 1 + 1) 28 (stCells x none 0 0)), u.val.cell? ⟨w.heap.size + 1 + 1, 5, none⟩ = some (.string (strS x.text)) := fun u => u.ok.cell 5
      have k6 : ∀ u : Has (fun X => Box X (w.heap.size + 1 + 1) 28 (stCells x none 0 0)), u.val.cell? ⟨w.heap.size + 1 + 1, 6, none⟩ = some (.int .u8 (x.kind : Int)) := fun u => u.ok.cell 6
      have HN0 := Lib.hid hnb.drew
      have HD := Lib.hid (And.intro hrb (And.intro hnb (And.intro hbl (And.intro hia (And.intro hown hlt)))))
      have HOWN := Lib.hid hown.drew
      have HIA := Lib.hid (hia.on (Below.refl _ _).drew)
      have hltd : w.heap.size + 3 ≤ V1.drew.heap.size := hlt
      clear hrb hnb hbl hia hown hlt
      refine region_plan [([0, 1, 2], [3, 4]), ([5], [])] (fun w' => ∃ u : Has (fun X => Box X (w.heap.size + 1 + 1) 28 (stCells x none 0 0)), w' = u.val) (by kernel_rfl) (by kernel_rfl) (fun _ _ _ _ _ h => h) ⟨⟨_, HN0.out⟩, rfl⟩ ?_
      simp only [wpPlan, sel, List.take_succ_cons, List.take_zero, List.drop_succ_cons, List.drop_zero, List.cons_append, List.nil_append]
      repeat (go_big_quiet_step (fail))
      refine wpQuiet_nil ?_
      unfold wpChain
      clear k0 k1 k2 k3 k4 k5 k6 HHas
      go_wp2_with (at_builtin; refine wpList_append_acts rfl _ _ 29 rfl (w.heap.size + 3) 44 i0 _ 80 Tryd.underlying29 hi hz0 hz1 hz2 rfl _ 1 [(⟨7, 0, s.kind, [], none, 0, [], s.text⟩ : AcE)] rfl HOWN.out B d l rfl HIA.out (by unfold maxLen; omega) (by omega) hltd ?_)
      intro v' w2 hown2 hO
      obtain ⟨A', c', rfl⟩ : ∃ A' c', v' = .slice A' (1 + l.length) c' := by
        obtain ⟨A', c', h, _, _⟩ := own_form1 hown2
        exact ⟨A', c', h⟩
      have hown3 : w2.ownsRow (w.heap.size + 3) 44 6 (.slice A' (1 + l.length) c') (1 + l.length) (flatA ([(⟨7, 0, s.kind, [], none, 0, [], s.text⟩ : AcE)] ++ l)) := hown2
      obtain ⟨hrb, hnb, hbl, hia, hown, hlt⟩ := HD.out
      have hnb2 := hO.box hnb.drew HNE.out.1
      have hrb2 := hO.box hrb.drew HNE.out.2
      have hbl2 : Below w.heap.size w w2 := hbl.drew.trans ((hO.belowBase hltd (fun g hg => (own_block HOWN.out hg).1)).mono (by omega))
      have hbare : ∀ e ∈ [(⟨7, 0, s.kind, [], none, 0, [], s.text⟩ : AcE)] ++ l, e.es = [] := fun e he => by
        rcases List.mem_append.1 he with he | he
        · rw [List.mem_singleton.1 he]
        · exact HE.out.1.bare e he
      have hin2 : InA w2 A' c' ([(⟨7, 0, s.kind, [], none, 0, [], s.text⟩ : AcE)] ++ l) := InA.of_own hown3 (fun e he => bare_in (hbare e he) (by
        rcases List.mem_append.1 he with he | he
        · rw [List.mem_singleton.1 he]; exact Nat.zero_le _
        · exact (HIA.out.par e he).max))
      have hfr : ∀ a, A' = some a → [(⟨7, 0, s.kind, [], none, 0, [], s.text⟩ : AcE)] ++ l ≠ [] → w.heap.size + 3 ≤ a.block := fun a ha _ => by
        subst ha
        exact (own_block hown3 (g := a.block) rfl).1
      have hX := hrb2.sto7 hbl2 (by omega : w.heap.size ≤ w.heap.size + 1) (.int .i64 x.at_) (.string (strS x.inter)) (.bool x.over) (.slice none 0 0) (.bool x.par.o) (.string (strS x.text)) (.int .u8 (x.kind : Int))
      have hn3 := hnb2.far7 (g' := w.heap.size + 1) (by omega) (.int .i64 x.at_) (.string (strS x.inter)) (.bool x.over) (.slice none 0 0) (.bool x.par.o) (.string (strS x.text)) (.int .u8 (x.kind : Int))
      have hJ := hin2.set7 (X := w.heap.size + 1) (by intro a ha hl hb; have := hfr a ha hl; omega) (by intro e he; rw [hbare e he]; exact Off.nil) (.int .i64 x.at_) (.string (strS x.inter)) (.bool x.over) (.slice none 0 0) (.bool x.par.o) (.string (strS x.text)) (.int .u8 (x.kind : Int))
      obtain ⟨c0, c1, c2, c3, c4, c5, c6⟩ := hrb2.cells7s
      obtain ⟨f0, f1, f2, f3, f4, f5, f6⟩ := hrb2.free7s
      have HX := Lib.hid (And.intro hX (And.intro hJ (And.intro hn3 (And.intro hnb2 (And.intro hbare hfr)))))
      clear hown3 hX hJ hn3 hnb2 hrb2 hbl2 hbare hfr hin2 hown2 hO hrb hnb hbl hia hown hlt HD HNE HIA HOWN HN0
      go_wp2_with fail
      refine ⟨⟨⟨_, HX.out.2.2.2.1⟩, rfl⟩, ?_⟩
      unfold wpChain
      go_wp2_with fail
      refine ⟨⟨⟨_, HX.out.2.2.1⟩, rfl⟩, ?_⟩
      unfold wpChain
      repeat (go_big_quiet_step (fail))
      refine wpQuiet_nil ?_
      unfold wpChain
      go_wp2_with fail
      exact bodyPost_ret (ret_s2 rfl x none 0 0 _ _ (w.heap.size + 1) _ _ rfl rfl HX.out.1.1) rfl (end_gives HE.out.1.val HE.out.2 (by simp; omega) rfl HE.out.1.par HX.out.2.1 HX.out.2.2.2.2.1 HX.out.2.2.2.2.2 HX.out.1.2)
    have q7 : (s.at_ == 7) = false := beq_eq_false_iff_ne.2 h7
    have q8 : (s.at_ == 8) = false := beq_eq_false_iff_ne.2 h8
    have q9 : (s.at_ == 9) = false := beq_eq_false_iff_ne.2 h9
    have hend : endedS s = acts [] := by unfold endedS; rw [if_neg h7, if_neg h8, if_neg h9]; rfl
    have HE := Lib.hid (And.intro hE hend)
    clear hend
    have hlt : w.heap.size + 3 ≤ V.heap.size := hE.nb.lt
    have hFS := And.intro hE.rb (And.intro hE.nb (And.intro hE.bl (And.intro hE.ia (And.intro (World.ownsRow_nil V (w.heap.size + 3) 44 6 : V.ownsRow (w.heap.size + 3) 44 6 (.slice none 0 0) 0 (flatA [])) hlt))))
    have hne : (.slice none 0 0 : Value).ownBlock ≠ some (w.heap.size + 1 + 1) ∧ (.slice none 0 0 : Value).ownBlock ≠ some (w.heap.size + 1) := by simp [Value.ownBlock]
    have HFS := Lib.hid hFS
    have HNE := Lib.hid hne
    clear hne hFS hE hlt
    clear h7 h8 h9
    go_upto_region 23 with fail
    clear a0 a1 a2 a3 a4 a5 a6
    obtain ⟨hrb, hnb, hbl, hia, hown, hlt⟩ := HFS.out
    clear HFS
    have HHas : Nonempty (Has (fun X => Box X (w.heap.size + 1 + 1) 28 (stCells x none 0 0))) := ⟨⟨V, hnb⟩⟩
    have k0 : ∀ u : Has (fun X => Box X (w.heap.size + 1 + 1) 28 (stCells x none 0 0)), u.val.cell? ⟨w.heap.size + 1 + 1, 0, none⟩ = some (.int .i64 x.at_) := fun u => u.ok.cell 0
    have k1 : ∀ u : Has (fun X => Box X (w.heap.size + 1 + 1) 28 (stCells x none 0 0)), u.val.cell? ⟨w.heap.size + 1 + 1, 1, none⟩ = some (.string (strS x.inter)) := fun u => u.ok.cell 1
    have k2 : ∀ u : Has (fun X => Box X (w.heap.size + 1 + 1) 28 (stCells x none 0 0)), u.val.cell? ⟨w.heap.size + 1 + 1, 2, none⟩ = some (.bool x.over) := fun u => u.ok.cell 2
    have k3 : ∀ u : Has (fun X => Box X (w.heap.size + 1 + 1) 28 (stCells x none 0 0)), u.val.cell? ⟨w.heap.size + 1 + 1, 3, none⟩ = some (.slice none 0 0) := fun u => u.ok.cell 3
    have k4 : ∀ u : Has (fun X => Box X (w.heap.size + 1 + 1) 28 (stCells x none 0 0)), u.val.cell? ⟨w.heap.size + 1 + 1, 4, none⟩ = some (.bool x.par.o) := fun u => u.ok.cell 4
    have k5 : ∀ u : Has (fun X => Box X (w.heap.size + 1 + 1) 28 (stCells x none 0 0)), u.val.cell? ⟨w.heap.size + 1 + 1, 5, none⟩ = some (.string (strS x.text)) := fun u => u.ok.cell 5
    have k6 : ∀ u : Has (fun X => Box X (w.heap.size + 1 + 1) 28 (stCells x none 0 0)), u.val.cell? ⟨w.heap.size + 1 + 1, 6, none⟩ = some (.int .u8 (x.kind : Int)) := fun u => u.ok.cell 6
    have HN0 := Lib.hid hnb.drew
    have HD := Lib.hid (And.intro hrb (And.intro hnb (And.intro hbl (And.intro hia (And.intro hown hlt)))))
    have HOWN := Lib.hid hown.drew
    have HIA := Lib.hid (hia.on (Below.refl _ _).drew)
    have hltd : w.heap.size + 3 ≤ V.drew.heap.size := hlt
    clear hrb hnb hbl hia hown hlt
    refine region_plan [([0, 1, 2], [3, 4]), ([5], [])] (fun w' => ∃ u : Has (fun X => Box X (w.heap.size + 1 + 1) 28 (stCells x none 0 0)), w' = u.val) (by kernel_rfl) (by kernel_rfl) (fun _ _ _ _ _ h => h) ⟨⟨_, HN0.out⟩, rfl⟩ ?_
    simp only [wpPlan, sel, List.take_succ_cons, List.take_zero, List.drop_succ_cons, List.drop_zero, List.cons_append, List.nil_append]
    repeat (go_big_quiet_step (fail))
    refine wpQuiet_nil ?_
    unfold wpChain
    clear k0 k1 k2 k3 k4 k5 k6 HHas
    go_wp2_with (at_builtin; refine wpList_append_acts rfl _ _ 29 rfl (w.heap.size + 3) 44 i0 _ 80 Tryd.underlying29 hi hz0 hz1 hz2 rfl _ 0 [] rfl HOWN.out B d l rfl HIA.out (by unfold maxLen; omega) (by omega) hltd ?_)
    intro v' w2 hown2 hO
    obtain ⟨A', c', rfl⟩ : ∃ A' c', v' = .slice A' l.length c' := by
      obtain ⟨A', c', h, _, _⟩ := own_form1 hown2
      exact ⟨A', c', h⟩
    have hown3 : w2.ownsRow (w.heap.size + 3) 44 6 (.slice A' l.length c') l.length (flatA ([] ++ l)) := hown2
    obtain ⟨hrb, hnb, hbl, hia, hown, hlt⟩ := HD.out
    have hnb2 := hO.box hnb.drew HNE.out.1
    have hrb2 := hO.box hrb.drew HNE.out.2
    have hbl2 : Below w.heap.size w w2 := hbl.drew.trans ((hO.belowBase hltd (fun g hg => (own_block HOWN.out hg).1)).mono (by omega))
    have hbare : ∀ e ∈ [] ++ l, e.es = [] := fun e he => by
      rcases List.mem_append.1 he with he | he
      · cases he
      · exact HE.out.1.bare e he
    have hin2 : InA w2 A' c' ([] ++ l) := InA.of_own hown3 (fun e he => bare_in (hbare e he) (by
      rcases List.mem_append.1 he with he | he
      · cases he
      · exact (HIA.out.par e he).max))
    have hfr : ∀ a, A' = some a → [] ++ l ≠ [] → w.heap.size + 3 ≤ a.block := fun a ha _ => by
      subst ha
      exact (own_block hown3 (g := a.block) rfl).1
    have hX := hrb2.sto7 hbl2 (by omega : w.heap.size ≤ w.heap.size + 1) (.int .i64 x.at_) (.string (strS x.inter)) (.bool x.over) (.slice none 0 0) (.bool x.par.o) (.string (strS x.text)) (.int .u8 (x.kind : Int))
    have hn3 := hnb2.far7 (g' := w.heap.size + 1) (by omega) (.int .i64 x.at_) (.string (strS x.inter)) (.bool x.over) (.slice none 0 0) (.bool x.par.o) (.string (strS x.text)) (.int .u8 (x.kind : Int))
    have hJ := hin2.set7 (X := w.heap.size + 1) (by intro a ha hl hb; have := hfr a ha hl; omega) (by intro e he; rw [hbare e he]; exact Off.nil) (.int .i64 x.at_) (.string (strS x.inter)) (.bool x.over) (.slice none 0 0) (.bool x.par.o) (.string (strS x.text)) (.int .u8 (x.kind : Int))
    obtain ⟨c0, c1, c2, c3, c4, c5, c6⟩ := hrb2.cells7s
    obtain ⟨f0, f1, f2, f3, f4, f5, f6⟩ := hrb2.free7s
    have HX := Lib.hid (And.intro hX (And.intro hJ (And.intro hn3 (And.intro hnb2 (And.intro hbare hfr)))))
    clear hown3 hX hJ hn3 hnb2 hrb2 hbl2 hbare hfr hin2 hown2 hO hrb hnb hbl hia hown hlt HD HNE HIA HOWN HN0
    go_wp2_with fail
    refine ⟨⟨⟨_, HX.out.2.2.2.1⟩, rfl⟩, ?_⟩
    unfold wpChain
    go_wp2_with fail
    refine ⟨⟨⟨_, HX.out.2.2.1⟩, rfl⟩, ?_⟩
    unfold wpChain
    repeat (go_big_quiet_step (fail))
    refine wpQuiet_nil ?_
    unfold wpChain
    go_wp2_with fail
    exact bodyPost_ret (ret_s2 rfl x none 0 0 _ _ (w.heap.size + 1) _ _ rfl rfl HX.out.1.1) rfl (end_gives HE.out.1.val HE.out.2 (by simp) rfl HE.out.1.par HX.out.2.1 HX.out.2.2.2.2.1 HX.out.2.2.2.2.2 HX.out.1.2)
end Go.Proofs.YtiaippdaogmcmaaDoor
