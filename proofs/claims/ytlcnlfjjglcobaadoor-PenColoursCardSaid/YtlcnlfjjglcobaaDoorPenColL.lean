/- PenColours over the contracts. -/
import Derived.Test.YtlcnlfjjglcobaaDoorPartsL7
namespace Go.Proofs.YtlcnlfjjglcobaaDoor
open Go Go.RowKit
set_option linter.unusedVariables false
set_option linter.unusedSimpArgs false

/-- A pen in the law's own variable. -/
structure OneP (w W : World) (p : Pn) : Prop where
  b1 : Box W w.heap.size 23 #[.int .i64 p.fg, .int .i64 p.bg, .int .i64 p.fl]
  bel : Below w.heap.size w W
theorem OneP.on {w W W' : World} {p : Pn} (h : OneP w W p) (hb : Below W.heap.size W W') : OneP w W' p := ⟨h.b1.below hb h.b1.lt, h.bel.trans (hb.mono h.bel.size)⟩
/-- And the law's 'want'. -/
structure Col2 (w : World) (n1 : Nat) (W : World) (p q : Pn) : Prop where
  b1 : Box W w.heap.size 23 #[.int .i64 p.fg, .int .i64 p.bg, .int .i64 p.fl]
  b2 : Box W n1 23 #[.int .i64 q.fg, .int .i64 q.bg, .int .i64 q.fl]
  lt : w.heap.size < n1
  bel : Below w.heap.size w W
theorem Col2.new {w W : World} {p : Pn} (h : OneP w W p) : Col2 w W.heap.size (W.alloc (.cells #[.int .i64 p.fg, .int .i64 p.bg, .int .i64 p.fl] 23)) p p :=
  ⟨h.b1.alloc _, Box.pen, h.b1.lt, h.bel.alloc h.bel.size _⟩
theorem Col2.on {w W W' : World} {n1 : Nat} {p q : Pn} (h : Col2 w n1 W p q) (hb : Below W.heap.size W W') : Col2 w n1 W' p q :=
  ⟨h.b1.below hb h.b1.lt, h.b2.below hb h.b2.lt, h.lt, h.bel.trans (hb.mono h.bel.size)⟩
/-- And its 'low'. -/
structure Col3 (w : World) (n1 n2 : Nat) (W : World) (p q r : Pn) : Prop where
  b1 : Box W w.heap.size 23 #[.int .i64 p.fg, .int .i64 p.bg, .int .i64 p.fl]
  b2 : Box W n1 23 #[.int .i64 q.fg, .int .i64 q.bg, .int .i64 q.fl]
  b3 : Box W n2 23 #[.int .i64 r.fg, .int .i64 r.bg, .int .i64 r.fl]
  lt : w.heap.size < n1
  lt2 : n1 < n2
  bel : Below w.heap.size w W
theorem Col3.on {w W W' : World} {n1 n2 : Nat} {p q r : Pn} (h : Col3 w n1 n2 W p q r) (hb : Below W.heap.size W W') : Col3 w n1 n2 W' p q r :=
  ⟨h.b1.below hb h.b1.lt, h.b2.below hb h.b2.lt, h.b3.below hb h.b3.lt, h.lt, h.lt2, h.bel.trans (hb.mono h.bel.size)⟩
theorem Col2.low {w W : World} {n1 : Nat} {p q : Pn} (h : Col2 w n1 W p q) (c d : Int) : Col3 w n1 W.heap.size ((W.setCell ⟨n1, 0, none⟩ (.int .i64 c)).alloc (.cells #[.int .i64 d, .int .i64 p.bg, .int .i64 p.fl] 23)) p ⟨c, q.bg, q.fl⟩ ⟨d, p.bg, p.fl⟩ := by
  have hs : (W.setCell ⟨n1, 0, none⟩ (.int .i64 c)).heap.size = W.heap.size := by simp [World.setCell]
  have h1 : Below w.heap.size w (W.setCell ⟨n1, 0, none⟩ (.int .i64 c)) := h.bel.setCell (Nat.le_of_lt h.lt) _
  refine ⟨(h.b1.far (by have := h.lt; simp only; omega) _).alloc _, ?_, ?_, h.lt, h.b2.lt, h1.alloc h1.size _⟩
  · have := (h.b2.set_ 0 (.int .i64 c)).alloc (.cells #[.int .i64 d, .int .i64 p.bg, .int .i64 p.fl] 23)
    simpa using this
  · have := Box.pen (w := W.setCell ⟨n1, 0, none⟩ (.int .i64 c)) (a := .int .i64 d) (b := .int .i64 p.bg) (c := .int .i64 p.fl)
    rwa [hs] at this
/-- Pens in variables of the law's own. -/
structure KeepP (w W : World) (bs : List (Nat × Pn)) : Prop where
  box : ∀ x ∈ bs, Box W x.1 23 #[.int .i64 x.2.fg, .int .i64 x.2.bg, .int .i64 x.2.fl]
  bel : Below w.heap.size w W
theorem KeepP.on {w W W' : World} {bs : List (Nat × Pn)} (h : KeepP w W bs) (hb : Below W.heap.size W W') : KeepP w W' bs :=
  ⟨fun x hx => (h.box x hx).below hb (h.box x hx).lt, h.bel.trans (hb.mono h.bel.size)⟩
theorem KeepP.add {w W : World} {bs : List (Nat × Pn)} (h : KeepP w W bs) (p : Pn) : KeepP w (W.alloc (.cells #[.int .i64 p.fg, .int .i64 p.bg, .int .i64 p.fl] 23)) ((W.heap.size, p) :: bs) :=
  ⟨fun x hx => by
    rcases List.mem_cons.1 hx with rfl | hx
    · exact Box.pen
    · exact (h.box x hx).alloc _, h.bel.alloc h.bel.size _⟩
theorem Col3.set2 {w W : World} {n1 n2 : Nat} {p q r : Pn} (h : Col3 w n1 n2 W p q r) (k : Nat) (v : Int) (q' : Pn)
    (e : (#[Value.int .i64 q.fg, .int .i64 q.bg, .int .i64 q.fl] : Array Value).setIfInBounds k (.int .i64 v) = #[.int .i64 q'.fg, .int .i64 q'.bg, .int .i64 q'.fl]) :
    Col3 w n1 n2 (W.setCell ⟨n1, k, none⟩ (.int .i64 v)) p q' r := by
  have hl := h.lt
  have hl2 := h.lt2
  refine ⟨h.b1.far (by simp only; omega) _, ?_, h.b3.far (by simp only; omega) _, hl, hl2, h.bel.setCell (by simp only; omega) _⟩
  have := h.b2.set_ k (.int .i64 v)
  rwa [e] at this
theorem Col3.set3 {w W : World} {n1 n2 : Nat} {p q r : Pn} (h : Col3 w n1 n2 W p q r) (k : Nat) (v : Int) (r' : Pn)
    (e : (#[Value.int .i64 r.fg, .int .i64 r.bg, .int .i64 r.fl] : Array Value).setIfInBounds k (.int .i64 v) = #[.int .i64 r'.fg, .int .i64 r'.bg, .int .i64 r'.fl]) :
    Col3 w n1 n2 (W.setCell ⟨n2, k, none⟩ (.int .i64 v)) p q r' := by
  have hl := h.lt
  have hl2 := h.lt2
  refine ⟨h.b1.far (by simp only; omega) _, h.b2.far (by simp only; omega) _, ?_, hl, hl2, h.bel.setCell (by simp only; omega) _⟩
  have := h.b3.set_ k (.int .i64 v)
  rwa [e] at this
theorem Col3.keep {w W : World} {n1 n2 : Nat} {p q r : Pn} (h : Col3 w n1 n2 W p q r) : KeepP w W [(w.heap.size, p), (n1, q), (n2, r)] :=
  ⟨fun x hx => by
    simp only [List.mem_cons, List.not_mem_nil, or_false] at hx
    rcases hx with rfl | rfl | rfl
    · exact h.b1
    · exact h.b2
    · exact h.b3, h.bel⟩
theorem KeepP.three {w W : World} {bs : List (Nat × Pn)} (h : KeepP w W bs) {g : Nat} {p : Pn} (hm : (g, p) ∈ bs) :
    W.cell? ⟨g, 0, none⟩ = some (.int .i64 p.fg) ∧ W.cell? ⟨g, 1, none⟩ = some (.int .i64 p.bg) ∧ W.cell? ⟨g, 2, none⟩ = some (.int .i64 p.fl) := (h.box _ hm).three.1
/- Parameters that are written out. -/
def litW (V : World) : List (List Int) → World
  | [] => V
  | q :: l => litW (V.alloc (.cells (q.map intV).toArray 3)) l
def litN (n : Nat) : List (List Int) → Nat
  | [] => n
  | _ :: l => litN (n + 1) l
def litE (n : Nat) : List (List Int) → List El
  | [] => []
  | q :: l => ⟨some ⟨n, 0, none⟩, q.length, q⟩ :: litE (n + 1) l
theorem lit_qs (l : List (List Int)) (n : Nat) : qs (litE n l) = l := by
  induction l generalizing n with
  | nil => rfl
  | cons q l ih => simp only [litE, qs, List.map_cons, List.cons.injEq, true_and]; exact ih (n + 1)
theorem lit_len (l : List (List Int)) (n : Nat) : (litE n l).length = l.length := by rw [← qs_length, lit_qs]
theorem litW_size (l : List (List Int)) (V : World) : (litW V l).heap.size = litN V.heap.size l := by
  induction l generalizing V with
  | nil => rfl
  | cons q l ih => rw [litW, ih, litN]; simp
theorem litW_below (l : List (List Int)) (V : World) : Below V.heap.size V (litW V l) := by
  induction l generalizing V with
  | nil => exact Below.refl _ _
  | cons q l ih =>
    rw [litW]
    have h1 := (Below.refl V.heap.size V).alloc (Nat.le_refl _) (.cells (q.map intV).toArray 3)
    exact h1.trans ((ih _).mono h1.size)
theorem lit_ok (l : List (List Int)) (V : World) (hl : ∀ q ∈ l, q.length ≤ maxLen) : ∀ e ∈ litE V.heap.size l, ElOk (litW V l) (litW V l).heap.size e := by
  induction l generalizing V with
  | nil => intro e he; simp [litE] at he
  | cons q l ih =>
    intro e he
    rw [litE] at he
    rw [litW]
    rcases List.mem_cons.1 he with rfl | he
    · have hB := Rd.of_box (Box.new V 3 (q.map intV).toArray)
      exact ElOk.on ⟨hB, Nat.le_refl _, hl q (by simp)⟩ (litW_below l _)
    · exact ih _ (fun x hx => hl x (by simp [hx])) e (by simpa using he)
theorem lit_apply (ha : Apply7C) (p : Pn) (l : List (List Int)) (V : World) (n : Nat) (hn : V.heap.size = n) (hp : PnOk p) (h1 : l.length ≤ maxLen) (h2 : ∀ q ∈ l, q.length ≤ maxLen) (h3 : Nums l) (hT : Tog V) :
    Calls Tryd.prog 11 #[pnV p, .slice (some ⟨litN n l, 0, none⟩) l.length l.length] ((litW V l).alloc (.cells ((litE n l).map elV).toArray 34)) fun e w' => e = .returned (pnV (applyN p l)) ∧ Below V.heap.size V w' := by
  subst hn
  have hb := litW_below l V
  have hb2 := hb.alloc hb.size (.cells ((litE V.heap.size l).map elV).toArray 34)
  have hone : Below (litW V l).heap.size (litW V l) ((litW V l).alloc (.cells ((litE V.heap.size l).map elV).toArray 34)) := (Below.refl _ _).alloc (Nat.le_refl _) _
  have hin : InP ((litW V l).alloc (.cells ((litE V.heap.size l).map elV).toArray 34)) (some ⟨litN V.heap.size l, 0, none⟩) l.length (litE V.heap.size l) := by
    refine ⟨⟨?_, fun e he => (lit_ok l V h2 e he).on hone⟩, by rw [lit_len]; exact Nat.le_refl _, h1⟩
    have := Rd.of_box (Box.new (litW V l) 34 ((litE V.heap.size l).map elV).toArray)
    rwa [litW_size] at this
  have h := ha p _ _ _ _ hp hin (by rw [lit_qs]; exact h3) (hT.on hb2)
  rw [lit_qs, lit_len] at h
  refine h.mono ?_
  rintro e w' ⟨he, hb'⟩
  exact ⟨he, hb2.trans (hb'.mono hb2.size)⟩
theorem col_said {p : Pn} (hp : SaneN p) {n x y z : Int} (hn : n = 38 ∨ n = 48) (hx : Byt8 x) (hy : Byt8 y) (hz : Byt8 z) :
    applyN p [[n], [2], [x], [y], [z]] = putN p n (rgbN x y z) ∧ applyN p [[n, 2, x, y, z]] = putN p n (rgbN x y z) ∧ applyN p [[n, 2, -1, x, y, z]] = putN p n (rgbN x y z) ∧
    applyN p [[n], [5], [x]] = putN p n (x + 1) ∧ applyN p [[n, 5, x]] = putN p n (x + 1) := by
  refine ⟨?_, ?_, ?_, ?_, ?_⟩
  · rw [apply_one hp _ (by simp), go_five hn hx hy hz]
  · rw [apply_one hp _ (by simp), go_own hn (by simp) (col_four hx hy hz)]
  · rw [apply_one hp _ (by simp), go_own hn (by simp) (col_gap (-1) hx hy hz)]
  · rw [apply_one hp _ (by simp), go_three hn hx]
  · rw [apply_one hp _ (by simp), go_own hn (by simp) (col_low hx)]
theorem nums_few {l : List (List Int)} (h : ∀ q ∈ l, ∀ x ∈ q, -1 ≤ x ∧ x ≤ 255) : Nums l := fun q hq x hx => by have := h q hq x hx; unfold I64; omega
theorem lens_few {l : List (List Int)} (h : ∀ q ∈ l, q.length ≤ 6) : ∀ q ∈ l, q.length ≤ maxLen := fun q hq => by have := h q hq; unfold maxLen; omega
/-- The five calls. -/
theorem col_calls (ha : Apply7C) {p : Pn} (hp : SaneN p) {n x y z : Int} (hn : n = 38 ∨ n = 48) (hx : Byt8 x) (hy : Byt8 y) (hz : Byt8 z) :
    ∀ (l : List (List Int)) (c : Int), (l = [[n], [2], [x], [y], [z]] ∧ c = rgbN x y z ∨ l = [[n, 2, x, y, z]] ∧ c = rgbN x y z ∨ l = [[n, 2, -1, x, y, z]] ∧ c = rgbN x y z ∨ l = [[n], [5], [x]] ∧ c = x + 1 ∨ l = [[n, 5, x]] ∧ c = x + 1) →
    ∀ (V : World) (m : Nat), V.heap.size = m → Tog V → Calls Tryd.prog 11 #[pnV p, .slice (some ⟨litN m l, 0, none⟩) l.length l.length] ((litW V l).alloc (.cells ((litE m l).map elV).toArray 34)) fun e w' => e = .returned (pnV (putN p n c)) ∧ Below V.heap.size V w' := by
  intro l c hl V m hm hT
  have hs := col_said hp hn hx hy hz
  have e : applyN p l = putN p n c := by
    rcases hl with ⟨rfl, rfl⟩ | ⟨rfl, rfl⟩ | ⟨rfl, rfl⟩ | ⟨rfl, rfl⟩ | ⟨rfl, rfl⟩
    · exact hs.1
    · exact hs.2.1
    · exact hs.2.2.1
    · exact hs.2.2.2.1
    · exact hs.2.2.2.2
  have h := lit_apply ha p l V m hm hp.ok ?_ (lens_few ?_) (nums_few ?_) hT
  · rwa [e] at h
  · rcases hl with ⟨rfl, rfl⟩ | ⟨rfl, rfl⟩ | ⟨rfl, rfl⟩ | ⟨rfl, rfl⟩ | ⟨rfl, rfl⟩ <;> (unfold maxLen; simp)
  · rcases hl with ⟨rfl, rfl⟩ | ⟨rfl, rfl⟩ | ⟨rfl, rfl⟩ | ⟨rfl, rfl⟩ | ⟨rfl, rfl⟩ <;> simp
  · unfold Byt8 at hx hy hz
    have hn' : -1 ≤ n ∧ n ≤ 255 := by omega
    rcases hl with ⟨rfl, rfl⟩ | ⟨rfl, rfl⟩ | ⟨rfl, rfl⟩ | ⟨rfl, rfl⟩ | ⟨rfl, rfl⟩ <;>
      (simp only [List.mem_cons, List.not_mem_nil, or_false, forall_eq_or_imp, forall_eq]; omega)
theorem and_255 (r : Int) : bits .and .i64 r 255 = r % 256 := and_low r 8 (by decide)
set_option maxRecDepth 100000 in
set_option maxHeartbeats 4000000 in
theorem pcol_law (hp : ParseC) (hs : Sane7C) (ha : Apply7C) (hpr : Print7C) (hpt : Parts7C) (hrgb : RGB7C) (p : Pn) (r g b : Int) (back : Bool) (hp1 : PnOk p) (w : World) (hT : Tog w) :
    Calls Tryd.prog 5 #[pnV p, .int .i64 r, .int .i64 g, .int .i64 b, .bool back] w fun e w' => e = .returned (.bool true) ∧ Below w.heap.size w w' := by
  obtain ⟨fg, bg, fl⟩ := p
  have v1 : pnV ⟨fg, bg, fl⟩ = .agg #[.int .i64 fg, .int .i64 bg, .int .i64 fl] := rfl
  have a1 := and_255 r
  have a2 := and_255 g
  have a3 := and_255 b
  rw [v1]
  have hbox := Box.pen (w := w) (a := .int .i64 fg) (b := .int .i64 bg) (c := .int .i64 fl)
  have hbW := (Below.refl w.heap.size w).alloc (Nat.le_refl _) (.cells #[.int .i64 fg, .int .i64 bg, .int .i64 fl] 23)
  have hawake := awake7_c hp hs ha hpr (w.alloc (.cells #[.int .i64 fg, .int .i64 bg, .int .i64 fl] 23)) (hT.on hbW)
  have HE0 := Lib.hid (OneP.mk hbox hbW : OneP w _ ⟨fg, bg, fl⟩)
  clear hbox hbW
  go_enter Tryd.func5, Tryd.ntmps5
  go_wp2_with fail
  refine hawake.mono ?_
  rintro e w1 ⟨rfl, hb1⟩
  have hE := HE0.out.on hb1
  clear HE0 hb1
  obtain ⟨⟨k0, k1, k2⟩, -⟩ := hE.b1.three
  have HE := Lib.hid hE
  clear hE
  have h1 := hs ⟨fg, bg, fl⟩ w1 hp1
  rw [v1] at h1
  by_cases hsane : SaneN ⟨fg, bg, fl⟩
  · rw [decide_eq_true hsane] at h1
    clear hawake
    go_wp2_with fail
    refine h1.mono ?_
    rintro e w2 ⟨rfl, hb2⟩
    have hE := HE.out.on hb2
    clear h1 hb2 HE k0 k1 k2
    obtain ⟨⟨k0, k1, k2⟩, -⟩ := hE.b1.three
    have HE := Lib.hid hE
    clear hE
    obtain ⟨x, hx⟩ : ∃ x, r % 256 = x := ⟨_, rfl⟩
    obtain ⟨y, hy⟩ : ∃ y, g % 256 = y := ⟨_, rfl⟩
    obtain ⟨z, hz⟩ : ∃ z, b % 256 = z := ⟨_, rfl⟩
    have hx8 : Byt8 x := by unfold Byt8; omega
    have hy8 : Byt8 y := by unfold Byt8; omega
    have hz8 : Byt8 z := by unfold Byt8; omega
    rw [hx] at a1
    rw [hy] at a2
    rw [hz] at a3
    have hrg := fun V => hrgb x y z V (by unfold I64; unfold Byt8 at hx8; omega) (by unfold I64; unfold Byt8 at hy8; omega) (by unfold I64; unfold Byt8 at hz8; omega)
    have hxx := hx8
    unfold Byt8 at hxx
    obtain ⟨hx0, hx1⟩ := hxx
    have HC := Lib.hid (And.intro hx8 (And.intro hy8 hz8))
    clear hx hy hz hx8 hy8 hz8
    go_wp2_with fail
    refine (hrg _).mono ?_
    rintro e w3 ⟨rfl, hb3⟩
    have hE := HE.out
    have h2 := (Col2.new hE).on hb3
    clear HE hE k0 k1 k2 hb3
    obtain ⟨⟨k0, k1, k2⟩, -⟩ := h2.b1.three
    obtain ⟨⟨m0, m1, m2⟩, f0, f1, f2⟩ := h2.b2.three
    have hne : ¬ w.heap.size = w2.heap.size := by have := h2.lt; omega
    have hne2 : ¬ w2.heap.size = w.heap.size := by have := h2.lt; omega
    have h3 := h2.low (rgbN x y z) (x + 1)
    obtain ⟨⟨n0, n1, n2⟩, -⟩ := h3.b1.three
    have HE := Lib.hid h2
    have H3 := Lib.hid h3
    clear h2 h3
    have hwr : wrap64 (x + 1) = x + 1 := by unfold wrap64; omega
    cases back
    · go_wp2_with fail
      have hc := col_calls ha hsane (.inl rfl) HC.out.1 HC.out.2.1 HC.out.2.2
      have hK := H3.out.keep
      have hsz : ((w3.setCell ⟨w2.heap.size, 0, none⟩ (.int .i64 (rgbN x y z))).alloc (.cells #[.int .i64 (x + 1), .int .i64 bg, .int .i64 fl] 23)).heap.size = w3.heap.size + 1 := by simp [World.setCell]
      have HC5 := Lib.hid hc
      have hv : ∀ c : Int, pnV (putN ⟨fg, bg, fl⟩ 38 c) = .agg #[.int .i64 c, .int .i64 bg, .int .i64 fl] := fun c => rfl
      clear hc m0 m1 m2 f0 f1 f2 n0 n1 n2 H3 HE hne hne2
      have h5 := HC5.out _ _ (.inl ⟨rfl, rfl⟩) _ _ hsz (hT.on hK.bel)
      rw [hv] at h5
      refine h5.mono ?_
      rintro e w4 ⟨rfl, hb⟩
      have hK := (hK.on hb).add ⟨rgbN x y z, bg, fl⟩
      clear h5 hb k0 k1 k2 hsz 
      obtain ⟨k0, k1, k2⟩ := hK.three (g := w.heap.size) (p := ⟨fg, bg, fl⟩) (by simp)
      have HK := Lib.hid hK
      clear hK
      go_wp2_with fail
      have hK := HK.out
      have hsz1 : (w4.alloc (.cells #[.int .i64 (rgbN x y z), .int .i64 bg, .int .i64 fl] 23)).heap.size = w4.heap.size + 1 := by simp
      have h5 := HC5.out _ _ (.inr (.inl ⟨rfl, rfl⟩)) _ _ hsz1 (hT.on hK.bel)
      rw [hv] at h5
      refine h5.mono ?_
      rintro e w5 ⟨rfl, hb⟩
      have hK := (hK.on hb).add ⟨rgbN x y z, bg, fl⟩
      clear h5 hb k0 k1 k2 hsz1 HK
      obtain ⟨k0, k1, k2⟩ := hK.three (g := w.heap.size) (p := ⟨fg, bg, fl⟩) (by simp)
      have HK := Lib.hid hK
      clear hK
      go_wp2_with fail
      have hK := HK.out
      have hsz2 : (w5.alloc (.cells #[.int .i64 (rgbN x y z), .int .i64 bg, .int .i64 fl] 23)).heap.size = w5.heap.size + 1 := by simp
      have h5 := HC5.out _ _ (.inr (.inr (.inl ⟨rfl, rfl⟩))) _ _ hsz2 (hT.on hK.bel)
      rw [hv] at h5
      refine h5.mono ?_
      rintro e w6 ⟨rfl, hb⟩
      have hK := (hK.on hb).add ⟨rgbN x y z, bg, fl⟩
      clear h5 hb k0 k1 k2 hsz2 HK
      obtain ⟨k0, k1, k2⟩ := hK.three (g := w.heap.size) (p := ⟨fg, bg, fl⟩) (by simp)
      have HK := Lib.hid hK
      clear hK
      go_wp2_with fail
      have hK := HK.out
      have hsz3 : (w6.alloc (.cells #[.int .i64 (rgbN x y z), .int .i64 bg, .int .i64 fl] 23)).heap.size = w6.heap.size + 1 := by simp
      have h5 := HC5.out _ _ (.inr (.inr (.inr (.inl ⟨rfl, rfl⟩)))) _ _ hsz3 (hT.on hK.bel)
      rw [hv] at h5
      refine h5.mono ?_
      rintro e w7 ⟨rfl, hb⟩
      have hK := (hK.on hb).add ⟨x + 1, bg, fl⟩
      clear h5 hb k0 k1 k2 hsz3 HK
      obtain ⟨k0, k1, k2⟩ := hK.three (g := w.heap.size) (p := ⟨fg, bg, fl⟩) (by simp)
      have HK := Lib.hid hK
      clear hK
      go_wp2_with fail
      have hK := HK.out
      have hsz4 : (w7.alloc (.cells #[.int .i64 (x + 1), .int .i64 bg, .int .i64 fl] 23)).heap.size = w7.heap.size + 1 := by simp
      have h5 := HC5.out _ _ (.inr (.inr (.inr (.inr (⟨rfl, rfl⟩))))) _ _ hsz4 (hT.on hK.bel)
      rw [hv] at h5
      refine h5.mono ?_
      rintro e w8 ⟨rfl, hb⟩
      have hK := (hK.on hb).add ⟨x + 1, bg, fl⟩
      clear h5 hb k0 k1 k2 hsz4 HK
      obtain ⟨k0, k1, k2⟩ := hK.three (g := w.heap.size) (p := ⟨fg, bg, fl⟩) (by simp)
      have HK := Lib.hid hK
      clear hK
      go_wp2_with fail
      refine (hrg _).mono ?_
      rintro e w9 ⟨rfl, hb9⟩
      have hK := HK.out.on hb9
      have hP := hpt (rgbN x y z) w9 (col_i64 (rgb_ok x y z))
      rw [parts_rgb HC.out.1 HC.out.2.1 HC.out.2.2] at hP
      have HK := Lib.hid hK
      clear hK hb9 k0 k1 k2
      go_wp2_with fail
      refine hP.mono ?_
      rintro e w10 ⟨rfl, hb10⟩
      have hK := HK.out.on hb10
      obtain ⟨c00, c01, c02⟩ := hK.three (g := w4.heap.size) (p := ⟨rgbN x y z, bg, fl⟩) (by simp)
      obtain ⟨c10, c11, c12⟩ := hK.three (g := w5.heap.size) (p := ⟨rgbN x y z, bg, fl⟩) (by simp)
      obtain ⟨c20, c21, c22⟩ := hK.three (g := w6.heap.size) (p := ⟨rgbN x y z, bg, fl⟩) (by simp)
      obtain ⟨c30, c31, c32⟩ := hK.three (g := w7.heap.size) (p := ⟨x + 1, bg, fl⟩) (by simp)
      obtain ⟨c40, c41, c42⟩ := hK.three (g := w8.heap.size) (p := ⟨x + 1, bg, fl⟩) (by simp)
      obtain ⟨c50, c51, c52⟩ := hK.three (g := w2.heap.size) (p := ⟨rgbN x y z, bg, fl⟩) (by simp)
      obtain ⟨c60, c61, c62⟩ := hK.three (g := w3.heap.size) (p := ⟨x + 1, bg, fl⟩) (by simp)
      have hbel := hK.bel
      clear hK HK hb10 hP
      go_wp2_with fail
      go_ret
      exact ⟨rfl, hbel⟩
    · obtain ⟨⟨o0, o1, o2⟩, g0, g1, g2⟩ := H3.out.b2.three
      go_wp2_with fail
      have h3 := (((H3.out.set2 0 fg ⟨fg, bg, fl⟩ rfl).set2 1 bg ⟨fg, bg, fl⟩ rfl).set2 2 fl ⟨fg, bg, fl⟩ rfl)
      refine (hrg _).mono ?_
      rintro e w4 ⟨rfl, hb4⟩
      have h3 := h3.on hb4
      clear hb4 o0 o1 o2 g0 g1 g2 k0 k1 k2 m0 m1 m2 f0 f1 f2 n0 n1 n2
      obtain ⟨k0, k1, k2⟩ := h3.b1.three.1
      obtain ⟨⟨r0, r1, r2⟩, s0, s1, s2⟩ := h3.b2.three
      have hA := h3.set2 1 (rgbN x y z) ⟨fg, rgbN x y z, fl⟩ rfl
      have hB := (((hA.set3 0 fg ⟨fg, bg, fl⟩ rfl).set3 1 bg ⟨fg, bg, fl⟩ rfl).set3 2 fl ⟨fg, bg, fl⟩ rfl)
      have hD := hB.set3 1 (x + 1) ⟨fg, x + 1, fl⟩ rfl
      obtain ⟨t0, t1, t2⟩ := hA.b1.three.1
      obtain ⟨⟨u0, u1, u2⟩, x0, x1, x2⟩ := hA.b3.three
      obtain ⟨d0, d1, d2⟩ := hD.b1.three.1
      obtain ⟨e0, e1, e2⟩ := hB.b3.three.2
      have hnn : w.heap.size < w4.heap.size := h3.b1.lt
      have H4 := Lib.hid hD
      clear h3 hA hB hD H3 HE hnn
      go_wp2_with fail
      have hc := col_calls ha hsane (.inr rfl) HC.out.1 HC.out.2.1 HC.out.2.2
      have hK := H4.out.keep
      have hsz : (((((w4.setCell ⟨w2.heap.size, 1, none⟩ (.int .i64 (rgbN x y z))).setCell ⟨w3.heap.size, 0, none⟩ (.int .i64 fg)).setCell ⟨w3.heap.size, 1, none⟩ (.int .i64 bg)).setCell ⟨w3.heap.size, 2, none⟩ (.int .i64 fl)).setCell ⟨w3.heap.size, 1, none⟩ (.int .i64 (x + 1))).heap.size = w4.heap.size := by simp [World.setCell]
      have HC5 := Lib.hid hc
      have hv : ∀ c : Int, pnV (putN ⟨fg, bg, fl⟩ 48 c) = .agg #[.int .i64 fg, .int .i64 c, .int .i64 fl] := fun c => rfl
      clear hc r0 r1 r2 s0 s1 s2 t0 t1 t2 u0 u1 u2 x0 x1 x2 d0 d1 d2 e0 e1 e2 H4 hne hne2
      have h5 := HC5.out _ _ (.inl ⟨rfl, rfl⟩) _ _ hsz (hT.on hK.bel)
      rw [hv] at h5
      refine h5.mono ?_
      rintro e w5 ⟨rfl, hb⟩
      have hK := (hK.on hb).add ⟨fg, rgbN x y z, fl⟩
      clear h5 hb k0 k1 k2 hsz 
      obtain ⟨k0, k1, k2⟩ := hK.three (g := w.heap.size) (p := ⟨fg, bg, fl⟩) (by simp)
      have HK := Lib.hid hK
      clear hK
      go_wp2_with fail
      have hK := HK.out
      have hsz1 : (w5.alloc (.cells #[.int .i64 fg, .int .i64 (rgbN x y z), .int .i64 fl] 23)).heap.size = w5.heap.size + 1 := by simp
      have h5 := HC5.out _ _ (.inr (.inl ⟨rfl, rfl⟩)) _ _ hsz1 (hT.on hK.bel)
      rw [hv] at h5
      refine h5.mono ?_
      rintro e w6 ⟨rfl, hb⟩
      have hK := (hK.on hb).add ⟨fg, rgbN x y z, fl⟩
      clear h5 hb k0 k1 k2 hsz1 HK
      obtain ⟨k0, k1, k2⟩ := hK.three (g := w.heap.size) (p := ⟨fg, bg, fl⟩) (by simp)
      have HK := Lib.hid hK
      clear hK
      go_wp2_with fail
      have hK := HK.out
      have hsz2 : (w6.alloc (.cells #[.int .i64 fg, .int .i64 (rgbN x y z), .int .i64 fl] 23)).heap.size = w6.heap.size + 1 := by simp
      have h5 := HC5.out _ _ (.inr (.inr (.inl ⟨rfl, rfl⟩))) _ _ hsz2 (hT.on hK.bel)
      rw [hv] at h5
      refine h5.mono ?_
      rintro e w7 ⟨rfl, hb⟩
      have hK := (hK.on hb).add ⟨fg, rgbN x y z, fl⟩
      clear h5 hb k0 k1 k2 hsz2 HK
      obtain ⟨k0, k1, k2⟩ := hK.three (g := w.heap.size) (p := ⟨fg, bg, fl⟩) (by simp)
      have HK := Lib.hid hK
      clear hK
      go_wp2_with fail
      have hK := HK.out
      have hsz3 : (w7.alloc (.cells #[.int .i64 fg, .int .i64 (rgbN x y z), .int .i64 fl] 23)).heap.size = w7.heap.size + 1 := by simp
      have h5 := HC5.out _ _ (.inr (.inr (.inr (.inl ⟨rfl, rfl⟩)))) _ _ hsz3 (hT.on hK.bel)
      rw [hv] at h5
      refine h5.mono ?_
      rintro e w8 ⟨rfl, hb⟩
      have hK := (hK.on hb).add ⟨fg, x + 1, fl⟩
      clear h5 hb k0 k1 k2 hsz3 HK
      obtain ⟨k0, k1, k2⟩ := hK.three (g := w.heap.size) (p := ⟨fg, bg, fl⟩) (by simp)
      have HK := Lib.hid hK
      clear hK
      go_wp2_with fail
      have hK := HK.out
      have hsz4 : (w8.alloc (.cells #[.int .i64 fg, .int .i64 (x + 1), .int .i64 fl] 23)).heap.size = w8.heap.size + 1 := by simp
      have h5 := HC5.out _ _ (.inr (.inr (.inr (.inr (⟨rfl, rfl⟩))))) _ _ hsz4 (hT.on hK.bel)
      rw [hv] at h5
      refine h5.mono ?_
      rintro e w9 ⟨rfl, hb⟩
      have hK := (hK.on hb).add ⟨fg, x + 1, fl⟩
      clear h5 hb k0 k1 k2 hsz4 HK
      obtain ⟨k0, k1, k2⟩ := hK.three (g := w.heap.size) (p := ⟨fg, bg, fl⟩) (by simp)
      have HK := Lib.hid hK
      clear hK
      go_wp2_with fail
      refine (hrg _).mono ?_
      rintro e w10 ⟨rfl, hb10⟩
      have hK := HK.out.on hb10
      have hP := hpt (rgbN x y z) w10 (col_i64 (rgb_ok x y z))
      rw [parts_rgb HC.out.1 HC.out.2.1 HC.out.2.2] at hP
      have HK := Lib.hid hK
      clear hK hb10 k0 k1 k2
      go_wp2_with fail
      refine hP.mono ?_
      rintro e w11 ⟨rfl, hb11⟩
      have hK := HK.out.on hb11
      obtain ⟨c00, c01, c02⟩ := hK.three (g := w5.heap.size) (p := ⟨fg, rgbN x y z, fl⟩) (by simp)
      obtain ⟨c10, c11, c12⟩ := hK.three (g := w6.heap.size) (p := ⟨fg, rgbN x y z, fl⟩) (by simp)
      obtain ⟨c20, c21, c22⟩ := hK.three (g := w7.heap.size) (p := ⟨fg, rgbN x y z, fl⟩) (by simp)
      obtain ⟨c30, c31, c32⟩ := hK.three (g := w8.heap.size) (p := ⟨fg, x + 1, fl⟩) (by simp)
      obtain ⟨c40, c41, c42⟩ := hK.three (g := w9.heap.size) (p := ⟨fg, x + 1, fl⟩) (by simp)
      obtain ⟨c50, c51, c52⟩ := hK.three (g := w2.heap.size) (p := ⟨fg, rgbN x y z, fl⟩) (by simp)
      obtain ⟨c60, c61, c62⟩ := hK.three (g := w3.heap.size) (p := ⟨fg, x + 1, fl⟩) (by simp)
      have hbel := hK.bel
      clear hK HK hb11 hP
      go_wp2_with fail
      go_ret
      exact ⟨rfl, hbel⟩
  · rw [decide_eq_false hsane] at h1
    clear hawake
    go_wp2_with fail
    refine h1.mono ?_
    rintro e w2 ⟨rfl, hb2⟩
    have hE := HE.out.on hb2
    clear h1 hb2 HE k0 k1 k2
    go_wp2_with fail
    go_ret
    exact ⟨rfl, hE.bel⟩
end Go.Proofs.YtlcnlfjjglcobaaDoor
