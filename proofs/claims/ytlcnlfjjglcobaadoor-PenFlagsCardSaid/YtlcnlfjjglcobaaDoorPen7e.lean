/- Package pen: one step of a pen by parameters. -/
import Derived.Test.YtlcnlfjjglcobaaDoorPen7d
namespace Go.Proofs.YtlcnlfjjglcobaaDoor
open Go Go.RowKit
set_option linter.unusedVariables false
set_option linter.unusedSimpArgs false

theorem ret_pen2 {fn : Func} {p u : Tmp} (h : fn.results = #[.cell p 23, .tmp u]) (q : Pn) (tmps : Array Value) (W : World) (g : Nat) (t : TypeId) (x : Value) (hp : tmps.getD p undef = .pointer (some ⟨g, 0, none⟩)) (hx : tmps.getD u undef = x) (hg : Box W g t #[.int .i64 q.fg, .int .i64 q.bg, .int .i64 q.fl]) :
    (results fn tmps).run Tryd.prog W = .ok (.tuple #[pnV q, x]) W := by
  rw [results_cell_tmp h, hp, hx]
  have := run_loadVar_row (P := Tryd.prog) W g t 23 #[.int .i64 q.fg, .int .i64 q.bg, .int .i64 q.fl] (0, 0) _ hg Tryd.underlying23 rfl (by kernel_rfl)
  simp [asAddr, Result.andThen, this]
  rfl
/-- Two pens of the call's own: the argument's variable, and the result's. -/
structure TwoB (w W : World) (p q : Pn) : Prop where
  b1 : Box W w.heap.size 23 #[.int .i64 p.fg, .int .i64 p.bg, .int .i64 p.fl]
  b2 : Box W (w.heap.size + 1) 23 #[.int .i64 q.fg, .int .i64 q.bg, .int .i64 q.fl]
  bel : Below w.heap.size w W
theorem TwoB.new (w : World) (p q : Pn) : TwoB w ((w.alloc (.cells #[.int .i64 p.fg, .int .i64 p.bg, .int .i64 p.fl] 23)).alloc (.cells #[.int .i64 q.fg, .int .i64 q.bg, .int .i64 q.fl] 23)) p q := by
  refine ⟨Box.pen.alloc _, ?_, ((Below.refl _ _).alloc (Nat.le_refl _) _).alloc (by simp) _⟩
  have := Box.new (w.alloc (.cells #[.int .i64 p.fg, .int .i64 p.bg, .int .i64 p.fl] 23)) 23 #[.int .i64 q.fg, .int .i64 q.bg, .int .i64 q.fl]
  simpa using this
theorem TwoB.on {w W W' : World} {p q : Pn} (h : TwoB w W p q) (hb : Below W.heap.size W W') : TwoB w W' p q :=
  ⟨h.b1.below hb h.b1.lt, h.b2.below hb h.b2.lt, h.bel.trans (hb.mono h.bel.size)⟩
theorem TwoB.put1 {w W : World} {p q : Pn} (h : TwoB w W p q) (r : Pn) : TwoB w (((W.setCell ⟨w.heap.size, 0, none⟩ (.int .i64 r.fg)).setCell ⟨w.heap.size, 1, none⟩ (.int .i64 r.bg)).setCell ⟨w.heap.size, 2, none⟩ (.int .i64 r.fl)) r q := by
  have h0 := h.b1.set_ 0 (.int .i64 r.fg)
  have h1 := h0.set_ 1 (.int .i64 r.bg)
  have h2 := h1.set_ 2 (.int .i64 r.fl)
  refine ⟨by simpa using h2, ((h.b2.far (by simp) _).far (by simp) _).far (by simp) _, ((h.bel.setCell (by simp) _).setCell (by simp) _).setCell (by simp) _⟩
theorem TwoB.put2 {w W : World} {p q : Pn} (h : TwoB w W p q) (r : Pn) : TwoB w (((W.setCell ⟨w.heap.size + 1, 0, none⟩ (.int .i64 r.fg)).setCell ⟨w.heap.size + 1, 1, none⟩ (.int .i64 r.bg)).setCell ⟨w.heap.size + 1, 2, none⟩ (.int .i64 r.fl)) p r := by
  have h0 := h.b2.set_ 0 (.int .i64 r.fg)
  have h1 := h0.set_ 1 (.int .i64 r.bg)
  have h2 := h1.set_ 2 (.int .i64 r.fl)
  refine ⟨((h.b1.far (by simp) _).far (by simp) _).far (by simp) _, by simpa using h2, ((h.bel.setCell (by simp) _).setCell (by simp) _).setCell (by simp) _⟩
theorem TwoB.cells {w W : World} {p q : Pn} (h : TwoB w W p q) :
    (W.cell? ⟨w.heap.size, 0, none⟩ = some (.int .i64 p.fg) ∧ W.cell? ⟨w.heap.size, 1, none⟩ = some (.int .i64 p.bg) ∧ W.cell? ⟨w.heap.size, 2, none⟩ = some (.int .i64 p.fl)) ∧
    (W.frozen? ⟨w.heap.size, 0, none⟩ = false ∧ W.frozen? ⟨w.heap.size, 1, none⟩ = false ∧ W.frozen? ⟨w.heap.size, 2, none⟩ = false) ∧
    (W.cell? ⟨w.heap.size + 1, 0, none⟩ = some (.int .i64 q.fg) ∧ W.cell? ⟨w.heap.size + 1, 1, none⟩ = some (.int .i64 q.bg) ∧ W.cell? ⟨w.heap.size + 1, 2, none⟩ = some (.int .i64 q.fl)) ∧
    (W.frozen? ⟨w.heap.size + 1, 0, none⟩ = false ∧ W.frozen? ⟨w.heap.size + 1, 1, none⟩ = false ∧ W.frozen? ⟨w.heap.size + 1, 2, none⟩ = false) :=
  ⟨h.b1.three.1, h.b1.three.2, h.b2.three.1, h.b2.three.2⟩
/-- What a pen and parameters are told as; the parameters lie where those that were given lie. -/
def GivesPS (r : Pn × List (List Int)) (A0 : Option Addr) (c0 : Nat) (es0 : List El) (W : World) (e : Ending) (w' : World) : Prop :=
  ∃ A c es, e = .returned (.tuple #[pnV r.1, .slice A es.length c]) ∧ (∀ V, InP V A0 c0 es0 → InP V A c es) ∧ qs es = r.2 ∧ Below W.heap.size W w'
/-- A reslice from M on, as one value. -/
theorem cut_fact {t e : TypeId} (hu : Tryd.prog.underlying t = some (.slice e)) (hi : (Tryd.prog.info? e).map (·.size) = some 1) (A : Option Addr) (n c M : Nat) (hM : M ≤ n) (hn : n ≤ c) (V : World) :
    (Instr.sliceAt t (.slice A n c) (some (.int .i64 (M : Int))) none none).run Tryd.prog V = .ok (.slice (if c = M then A else A.map (·.add M)) (n - M) (c - M)) V := by
  have he : Tryd.prog.elem t = e := by simp [Program.elem, hu]
  rw [run_sliceAt_slice V t _ _ _ _ (by rw [he]; exact hu), run_slice_l V t A n c (by rw [he]; exact hu) .i64 M (by omega) (by omega)]
  rw [he]
  cases hq : Tryd.prog.info? e with
  | none => rw [hq] at hi; simp at hi
  | some j =>
    rw [hq] at hi
    simp at hi
    simp [sizeOf, typeInfo, hq, hi, sliced, Result.andThen]
/-- A list of parameters that is not empty: what its slice, its first one, and what is behind each read as. -/
structure OpenP (w : World) (A : Option Addr) (c : Nat) (q : List Int) (es : List El) (b o : Nat) (X : Option Addr) (d : Nat) (B2 : Option Addr) (c2 : Nat) : Prop where
  at_ : A = some ⟨b, o, none⟩
  lt : b < w.heap.size
  cell : w.cell? ⟨b, o, none⟩ = some (.slice X q.length d)
  first : ElOk w w.heap.size ⟨X, d, q⟩
  rest : InP w B2 c2 es
  cut : ∀ V, (Instr.sliceAt 26 (.slice (some ⟨b, o, none⟩) (es.length + 1) c) (some (.int .i64 1)) none none).run Tryd.prog V = .ok (.slice B2 es.length c2) V
theorem infoInts1 : (Tryd.prog.info? 34).map (·.size) = some 1 := by kernel_rfl
theorem infoInt1 : (Tryd.prog.info? 3).map (·.size) = some 1 := by kernel_rfl
theorem InP.cut {w : World} {A : Option Addr} {c : Nat} {es : List El} (h : InP w A c es) (M : Nat) (hM : M ≤ es.length) :
    ∃ B d, (∀ V, InP V A c es → InP V B d (es.drop M)) ∧ ∀ V, (Instr.sliceAt 26 (.slice A es.length c) (some (.int .i64 (M : Int))) none none).run Tryd.prog V = .ok (.slice B (es.drop M).length d) V := by
  have hcap := h.cap
  have hmax := h.max
  refine ⟨if c = M then A else A.map (·.add M), c - M, fun V h => ⟨⟨?_, fun e he => h.nest.2 e (List.mem_of_mem_drop he)⟩, by rw [List.length_drop]; omega, by unfold maxLen at hmax ⊢; omega⟩, fun V => ?_⟩
  · exact Rd.cut (M := M) h.nest.1 (c := c) hcap
  · rw [List.length_drop]
    exact cut_fact (t := 26) Tryd.underlying26 infoInts1 A es.length c M hM hcap V
theorem OpenP.of {w : World} {A : Option Addr} {c : Nat} {e0 : El} {es : List El} (hin : InP w A c (e0 :: es)) : ∃ b o B2 c2, OpenP w A c e0.q es b o e0.A e0.c B2 c2 ∧ ∀ V, InP V A c (e0 :: es) → InP V B2 c2 es := by
  obtain ⟨b, o, ha, hb, hc, ok⟩ := hin.nest.at_ (k := 0) (e := e0) rfl
  obtain ⟨B2, c2, hall, hcut⟩ := hin.cut 1 (by simp)
  have hcut' : ∀ V, (Instr.sliceAt 26 (.slice (some ⟨b, o, none⟩) (es.length + 1) c) (some (.int .i64 1)) none none).run Tryd.prog V = .ok (.slice B2 es.length c2) V := fun V => by
    have := hcut V
    rw [← ha]
    exact this
  exact ⟨b, o, B2, c2, ⟨ha, hb, hc, ok, hall w hin, hcut'⟩, hall⟩
/-- What is behind the first number of a parameter. -/
theorem own_cut {w : World} {X : Option Addr} {d : Nat} {n : Int} {own : List Int} (h : ElOk w w.heap.size ⟨X, d, n :: own⟩) :
    ∃ b o B1 d1, X = some ⟨b, o, none⟩ ∧ b < w.heap.size ∧ w.cell? ⟨b, o, none⟩ = some (.int .i64 n) ∧ ElOk w w.heap.size ⟨B1, d1, own⟩ ∧
      ∀ V, (Instr.sliceAt 34 (.slice X (own.length + 1) d) (some (.int .i64 1)) none none).run Tryd.prog V = .ok (.slice B1 own.length d1) V := by
  obtain ⟨b, o, ha, hb, hc⟩ := h.rd.at_ (k := 0) (x := n) rfl
  have hcap := h.cap
  have hmax := h.max
  simp only [List.length_cons] at hcap hmax
  refine ⟨b, o, if d = 1 then X else X.map (·.add 1), d - 1, ha, hb, hc, ⟨?_, by simp only; omega, by simp only; unfold maxLen at hmax ⊢; omega⟩, fun V => ?_⟩
  · have := Rd.cut (M := 1) h.rd (c := d) (by simp; omega)
    exact this
  · have := cut_fact (t := 34) Tryd.underlying34 infoInt1 X (own.length + 1) d 1 (by omega) (by omega) V
    simpa using this
theorem by_used (l : List Int) : (byC l).2 = 0 ∨ ((byC l).2 = 2 ∧ 2 ≤ l.length) ∨ ((byC l).2 = 4 ∧ 4 ≤ l.length) := by
  unfold byC
  split
  · rename_i h; exact .inr (.inl ⟨rfl, begin7_len h⟩)
  split
  · rename_i h; exact .inr (.inr ⟨rfl, begin7_len h⟩)
  · exact .inl rfl
theorem qs_drop (es : List El) (k : Nat) : qs (es.drop k) = (qs es).drop k := by simp [qs, List.map_drop]
set_option maxRecDepth 100000 in
set_option maxHeartbeats 4000000 in
theorem ext_c (p : Pn) (A : Option Addr) (c : Nat) (e0 : El) (es : List El) (n : Int) (own : List Int) (w : World) (hin : InP w A c (e0 :: es)) (hq : e0.q = n :: own) :
    Calls Tryd.prog 22 #[pnV p, .slice A (e0 :: es).length c] w (GivesPS (extC p n own (qs es)) A c (e0 :: es) w) := by
  obtain ⟨fg, bg, fl⟩ := p
  have hT0 : TwoB w ((w.alloc (.cells #[.int .i64 fg, .int .i64 bg, .int .i64 fl] 23)).alloc (.cells #[.int .i64 0, .int .i64 0, .int .i64 0] 23)) ⟨fg, bg, fl⟩ zeroN := TwoB.new w ⟨fg, bg, fl⟩ zeroN
  have v1 : pnV ⟨fg, bg, fl⟩ = .agg #[.int .i64 fg, .int .i64 bg, .int .i64 fl] := rfl
  obtain ⟨b, o, B2, c2, hO, hall⟩ := OpenP.of hin
  have HALL := Lib.hid hall
  clear hall
  obtain ⟨X, d, q⟩ := e0
  simp only at hq hO HALL
  subst hq
  obtain ⟨b', o', B1, d1, hX, hb', hn, ho1, hs1⟩ := own_cut hO.first
  have hA := hO.at_
  have hcell := hO.cell
  have hs2 := hO.cut
  have hbl := hO.lt
  have hrest := hO.rest
  subst hX hA
  simp only [List.length_cons] at hcell
  rw [v1]
  generalize hR' : GivesPS (extC ⟨fg, bg, fl⟩ n own (qs es)) (some ⟨b, o, none⟩) c (⟨some ⟨b', o', none⟩, d, n :: own⟩ :: es) w = R
  have HG := Lib.hid hR'
  have HT := Lib.hid hT0
  have HC := Lib.hid (And.intro hbl (And.intro hcell (And.intro hb' (And.intro hn (And.intro ho1 hrest)))))
  have hl0 : 0 < es.length + 1 := by omega
  have hl1 : 0 < own.length + 1 := by omega
  clear hin hT0 hR' hO hbl hcell hb' hn ho1 hrest
  go_enter Tryd.func22, Tryd.ntmps22
  go_upto_region 1 with fail
  have hE := HT.out
  generalize (w.alloc (.cells #[.int .i64 fg, .int .i64 bg, .int .i64 fl] 23)).alloc (.cells #[.int .i64 0, .int .i64 0, .int .i64 0] 23) = W at *
  obtain ⟨hbl, hcell, hb', hn, ho1, hrest⟩ := HC.out
  have hlW := hE.bel.size
  have q1 := Ext.cell (w := W) (B := W.heap.size) (p := ⟨b, o, none⟩) (by simp only; omega) ((hE.bel.cell hbl).trans hcell)
  have q2 := Ext.cell (w := W) (B := W.heap.size) (p := ⟨b', o', none⟩) (by simp only; omega) ((hE.bel.cell hb').trans hn)
  have HE := Lib.hid hE
  have HOW := Lib.hid (And.intro (ho1.on hE.bel) (And.intro hrest (hrest.on hE.bel)))
  clear hE hbl hcell hb' hn ho1 hrest HC HT
  refine region_plan [([0, 1, 2, 3, 4, 5, 6, 7, 8, 9, 10, 11, 12, 13], [])] (fun w' => ∃ u : Ext W W.heap.size, w' = u.val) (by kernel_rfl) (by kernel_rfl) (fun _ _ _ _ _ h => h) ⟨⟨_, (Below.refl _ _).drew⟩, rfl⟩ ?_
  simp only [wpPlan, sel, List.take_succ_cons, List.take_zero, List.drop_succ_cons, List.drop_zero, List.cons_append, List.nil_append]
  repeat (go_big_quiet_step (fail))
  refine wpQuiet_nil ?_
  unfold wpChain
  clear q1 q2 hs1 hs2
  by_cases hown : own = []
  · subst hown
    have HF := Lib.hid (ext_next ⟨fg, bg, fl⟩ n (qs es))
    have hf := firsts_c B2 c2 es W.drew (HOW.out.2.2.on (Below.refl _ _).drew)
    unfold GivesE at hf
    have hl3 : ([] : List Int).length = 0 := rfl
    go_wp2_with fail
    refine hf.mono ?_
    rintro r w1 ⟨Y, dy, rfl, hy, hb1⟩
    have hby := by7_c Y dy _ w1 hy
    unfold GivesC at hby
    have hE1 := HE.out.on ((Below.refl W.heap.size W).drew.trans hb1)
    have HE1 := Lib.hid hE1
    rcases by_used (firstsC (qs es)) with hcu | hu2 | hu4
    · have HF2 := Lib.hid (HF.out.trans (by rw [if_pos hcu]))
      rw [hcu] at hby
      generalize (byC (firstsC (qs es))).1 = cv at *
      generalize (firstsC (qs es)).length = ln at *
      clear hf hy hb1 hE1 HE hcu HF
      go_wp2_with fail
      refine hby.mono ?_
      rintro r w2 ⟨rfl, hb2⟩
      have hE2 := HE1.out.on hb2
      clear hby hb2 HE1
      obtain ⟨⟨k0, k1, k2⟩, -, ⟨m0, m1, m2⟩, ⟨f0, f1, f2⟩⟩ := hE2.cells
      have HE4 := Lib.hid (hE2.put2 ⟨fg, bg, fl⟩)
      simp only at k0 k1 k2 m0 m1 m2
      clear hE2
      go_wp2_with fail
      refine bodyPost_ret (ret_pen2 rfl ⟨fg, bg, fl⟩ _ _ (w.heap.size + 1) _ _ rfl rfl HE4.out.b2) rfl ?_
      rw [← HG.out, HF2.out]
      exact ⟨none, 0, [], rfl, fun _ _ => ⟨⟨Rd.nil, by simp⟩, Nat.le_refl _, Nat.zero_le _⟩, rfl, HE4.out.bel⟩
    · obtain ⟨hcu, hkl⟩ := hu2
      have hkl2 : 2 ≤ es.length := by rw [firsts_len] at hkl; omega
      obtain ⟨B3, d3, hin3, hs3⟩ := InP.cut HOW.out.2.1 2 hkl2
      have HF2 := Lib.hid (HF.out.trans (by rw [if_neg (by rw [hcu]; omega), hcu]))
      have HIN3 := Lib.hid hin3
      rw [hcu] at hby
      rw [show (((2 : Nat) : Int)) = 2 from rfl] at hs3
      have hp := fun V : World => painted_c ⟨fg, bg, fl⟩ n (byC (firstsC (qs es))).1 V
      rw [v1] at hp
      obtain ⟨p', hp'⟩ : ∃ p', paintC ⟨fg, bg, fl⟩ n (byC (firstsC (qs es))).1 = p' := ⟨_, rfl⟩
      rw [hp'] at HF2 hp
      obtain ⟨a1, a2, a3⟩ := p'
      have v2 : pnV ⟨a1, a2, a3⟩ = .agg #[.int .i64 a1, .int .i64 a2, .int .i64 a3] := rfl
      rw [v2] at hp
      generalize (byC (firstsC (qs es))).1 = cv at *
      generalize (firstsC (qs es)).length = ln at *
      have HL3 := Lib.hid (show Hid ((es.drop 2).length = (es.drop 2).length) from Lib.hid rfl)
      obtain ⟨l3, hl3'⟩ : ∃ l3, (es.drop 2).length = l3 := ⟨_, rfl⟩
      rw [hl3'] at hs3
      have HLL := Lib.hid hl3'
      clear hf hy hb1 hE1 HE hcu hkl hin3 hp' HF hl3' HL3
      go_wp2_with fail
      refine hby.mono ?_
      rintro r w2 ⟨rfl, hb2⟩
      have hE2 := HE1.out.on hb2
      clear hby hb2 HE1
      go_upto_region 10 with fail
      obtain ⟨⟨k0, k1, k2⟩, -, ⟨m0, m1, m2⟩, ⟨f0, f1, f2⟩⟩ := hE2.cells
      simp only at k0 k1 k2 m0 m1 m2
      have hlt := hE2.b2.lt
      have q0 := Ext.cell (w := w2) (B := w.heap.size + 1) (p := ⟨w.heap.size, 0, none⟩) (by simp only; omega) k0
      have q1 := Ext.cell (w := w2) (B := w.heap.size + 1) (p := ⟨w.heap.size, 1, none⟩) (by simp only; omega) k1
      have q2 := Ext.cell (w := w2) (B := w.heap.size + 1) (p := ⟨w.heap.size, 2, none⟩) (by simp only; omega) k2
      clear k0 k1 k2 m0 m1 m2 f0 f1 f2
      have HE2 := Lib.hid hE2
      clear hE2
      refine region_plan [([0, 1, 2, 4, 5, 6], [3, 7]), ([8], [])] (fun w' => ∃ u : Ext w2 (w.heap.size + 1), w' = u.val) (by kernel_rfl) (by kernel_rfl) (fun _ _ _ _ _ h => h) ⟨⟨_, (Below.refl _ _).drew⟩, rfl⟩ ?_
      simp only [wpPlan, sel, List.take_succ_cons, List.take_zero, List.drop_succ_cons, List.drop_zero, List.cons_append, List.nil_append]
      repeat (go_big_quiet_step (fail))
      refine wpQuiet_nil ?_
      unfold wpChain
      clear q0 q1 q2
      go_wp2_with fail
      refine (hp _).mono ?_
      rintro r w3 ⟨rfl, hb3⟩
      have hb23 : Below w2.heap.size w2 w3 := (Below.refl w2.heap.size w2).drew.trans hb3
      have hE3 := HE2.out.on hb23
      have u3 : Below (w.heap.size + 1) w2 w3 := hb23.mono (by omega)
      obtain ⟨-, -, ⟨m0, m1, m2⟩, ⟨f0, f1, f2⟩⟩ := hE3.cells
      have HE4 := Lib.hid (hE3.put2 ⟨a1, a2, a3⟩)
      have U4 := Lib.hid (((u3.setCell (p := ⟨w.heap.size + 1, 0, none⟩) (Nat.le_refl _) (.int .i64 a1)).setCell (p := ⟨w.heap.size + 1, 1, none⟩) (Nat.le_refl _) (.int .i64 a2)).setCell (p := ⟨w.heap.size + 1, 2, none⟩) (Nat.le_refl _) (.int .i64 a3))
      clear hp hb3 hb23 hE3 HE2
      go_wp2_with fail
      refine ⟨⟨⟨_, u3⟩, rfl⟩, ?_⟩
      unfold wpChain
      go_wp2_with fail
      refine ⟨⟨⟨_, U4.out⟩, rfl⟩, ?_⟩
      unfold wpChain
      repeat (go_big_quiet_step (fail))
      refine wpQuiet_nil ?_
      unfold wpChain
      go_wp2_with fail
      refine bodyPost_ret (ret_pen2 rfl ⟨a1, a2, a3⟩ _ _ (w.heap.size + 1) _ _ rfl rfl HE4.out.b2) rfl ?_
      rw [← HG.out, HF2.out]
      exact ⟨B3, d3, es.drop 2, by rw [HLL.out]; rfl, fun V h => HIN3.out V (HALL.out V h), qs_drop es 2, HE4.out.bel⟩
    · obtain ⟨hcu, hkl⟩ := hu4
      have hkl2 : 4 ≤ es.length := by rw [firsts_len] at hkl; omega
      obtain ⟨B3, d3, hin3, hs3⟩ := InP.cut HOW.out.2.1 4 hkl2
      have HF2 := Lib.hid (HF.out.trans (by rw [if_neg (by rw [hcu]; omega), hcu]))
      have HIN3 := Lib.hid hin3
      rw [hcu] at hby
      rw [show (((4 : Nat) : Int)) = 4 from rfl] at hs3
      have hp := fun V : World => painted_c ⟨fg, bg, fl⟩ n (byC (firstsC (qs es))).1 V
      rw [v1] at hp
      obtain ⟨p', hp'⟩ : ∃ p', paintC ⟨fg, bg, fl⟩ n (byC (firstsC (qs es))).1 = p' := ⟨_, rfl⟩
      rw [hp'] at HF2 hp
      obtain ⟨a1, a2, a3⟩ := p'
      have v2 : pnV ⟨a1, a2, a3⟩ = .agg #[.int .i64 a1, .int .i64 a2, .int .i64 a3] := rfl
      rw [v2] at hp
      generalize (byC (firstsC (qs es))).1 = cv at *
      generalize (firstsC (qs es)).length = ln at *
      have HL3 := Lib.hid (show Hid ((es.drop 4).length = (es.drop 4).length) from Lib.hid rfl)
      obtain ⟨l3, hl3'⟩ : ∃ l3, (es.drop 4).length = l3 := ⟨_, rfl⟩
      rw [hl3'] at hs3
      have HLL := Lib.hid hl3'
      clear hf hy hb1 hE1 HE hcu hkl hin3 hp' HF hl3' HL3
      go_wp2_with fail
      refine hby.mono ?_
      rintro r w2 ⟨rfl, hb2⟩
      have hE2 := HE1.out.on hb2
      clear hby hb2 HE1
      go_upto_region 10 with fail
      obtain ⟨⟨k0, k1, k2⟩, -, ⟨m0, m1, m2⟩, ⟨f0, f1, f2⟩⟩ := hE2.cells
      simp only at k0 k1 k2 m0 m1 m2
      have hlt := hE2.b2.lt
      have q0 := Ext.cell (w := w2) (B := w.heap.size + 1) (p := ⟨w.heap.size, 0, none⟩) (by simp only; omega) k0
      have q1 := Ext.cell (w := w2) (B := w.heap.size + 1) (p := ⟨w.heap.size, 1, none⟩) (by simp only; omega) k1
      have q2 := Ext.cell (w := w2) (B := w.heap.size + 1) (p := ⟨w.heap.size, 2, none⟩) (by simp only; omega) k2
      clear k0 k1 k2 m0 m1 m2 f0 f1 f2
      have HE2 := Lib.hid hE2
      clear hE2
      refine region_plan [([0, 1, 2, 4, 5, 6], [3, 7]), ([8], [])] (fun w' => ∃ u : Ext w2 (w.heap.size + 1), w' = u.val) (by kernel_rfl) (by kernel_rfl) (fun _ _ _ _ _ h => h) ⟨⟨_, (Below.refl _ _).drew⟩, rfl⟩ ?_
      simp only [wpPlan, sel, List.take_succ_cons, List.take_zero, List.drop_succ_cons, List.drop_zero, List.cons_append, List.nil_append]
      repeat (go_big_quiet_step (fail))
      refine wpQuiet_nil ?_
      unfold wpChain
      clear q0 q1 q2
      go_wp2_with fail
      refine (hp _).mono ?_
      rintro r w3 ⟨rfl, hb3⟩
      have hb23 : Below w2.heap.size w2 w3 := (Below.refl w2.heap.size w2).drew.trans hb3
      have hE3 := HE2.out.on hb23
      have u3 : Below (w.heap.size + 1) w2 w3 := hb23.mono (by omega)
      obtain ⟨-, -, ⟨m0, m1, m2⟩, ⟨f0, f1, f2⟩⟩ := hE3.cells
      have HE4 := Lib.hid (hE3.put2 ⟨a1, a2, a3⟩)
      have U4 := Lib.hid (((u3.setCell (p := ⟨w.heap.size + 1, 0, none⟩) (Nat.le_refl _) (.int .i64 a1)).setCell (p := ⟨w.heap.size + 1, 1, none⟩) (Nat.le_refl _) (.int .i64 a2)).setCell (p := ⟨w.heap.size + 1, 2, none⟩) (Nat.le_refl _) (.int .i64 a3))
      clear hp hb3 hb23 hE3 HE2
      go_wp2_with fail
      refine ⟨⟨⟨_, u3⟩, rfl⟩, ?_⟩
      unfold wpChain
      go_wp2_with fail
      refine ⟨⟨⟨_, U4.out⟩, rfl⟩, ?_⟩
      unfold wpChain
      repeat (go_big_quiet_step (fail))
      refine wpQuiet_nil ?_
      unfold wpChain
      go_wp2_with fail
      refine bodyPost_ret (ret_pen2 rfl ⟨a1, a2, a3⟩ _ _ (w.heap.size + 1) _ _ rfl rfl HE4.out.b2) rfl ?_
      rw [← HG.out, HF2.out]
      exact ⟨B3, d3, es.drop 4, by rw [HLL.out]; rfl, fun V h => HIN3.out V (HALL.out V h), qs_drop es 4, HE4.out.bel⟩
  · have HF := Lib.hid (ext_own ⟨fg, bg, fl⟩ n (qs es) hown)
    have hsp := space_c B1 d1 own W.drew (HOW.out.1.on (Below.refl _ _).drew) hown
    unfold GivesE at hsp
    have hl3 : 0 < own.length := List.length_pos_iff.2 hown
    clear hown
    go_wp2_with fail
    refine hsp.mono ?_
    rintro r w1 ⟨Y, dy, rfl, hy, hb1⟩
    have hby := by7_c Y dy _ w1 hy
    unfold GivesC at hby
    have hE1 := HE.out.on ((Below.refl W.heap.size W).drew.trans hb1)
    have HE1 := Lib.hid hE1
    have HCV := Lib.hid (⟨_, _, rfl, rfl⟩ : ∃ cv cu, (byC (spaceC own)).1 = cv ∧ (byC (spaceC own)).2 = cu)
    generalize (spaceC own).length = ln at *
    generalize (byC (spaceC own)).1 = cv at *
    generalize (byC (spaceC own)).2 = cu at *
    clear hsp hy hb1 hE1 HE HCV
    go_wp2_with fail
    refine hby.mono ?_
    rintro r w2 ⟨rfl, hb2⟩
    have hE2 := HE1.out.on hb2
    clear hby hb2 HE1
    by_cases hcu : 0 < cu
    · have HF2 := Lib.hid (HF.out.trans (by rw [if_pos hcu]))
      have hp := painted_c ⟨fg, bg, fl⟩ n cv w2
      rw [v1] at hp
      obtain ⟨p', hp'⟩ : ∃ p', paintC ⟨fg, bg, fl⟩ n cv = p' := ⟨_, rfl⟩
      rw [hp'] at HF2 hp
      obtain ⟨a1, a2, a3⟩ := p'
      have v2 : pnV ⟨a1, a2, a3⟩ = .agg #[.int .i64 a1, .int .i64 a2, .int .i64 a3] := rfl
      rw [v2] at hp
      obtain ⟨⟨k0, k1, k2⟩, -⟩ := hE2.cells
      have HE2 := Lib.hid hE2
      clear hp' HF hE2
      go_wp2_with fail
      refine hp.mono ?_
      rintro r w3 ⟨rfl, hb3⟩
      have hE3 := HE2.out.on hb3
      clear hp k0 k1 k2 HE2 hb3
      obtain ⟨⟨k0, k1, k2⟩, ⟨f0, f1, f2⟩, -⟩ := hE3.cells
      have HE3 := Lib.hid (hE3.put1 ⟨a1, a2, a3⟩)
      clear hE3
      go_upto_region 6 with fail
      clear k0 k1 k2 f0 f1 f2
      generalize ((w3.setCell ⟨w.heap.size, 0, none⟩ (.int .i64 a1)).setCell ⟨w.heap.size, 1, none⟩ (.int .i64 a2)).setCell ⟨w.heap.size, 2, none⟩ (.int .i64 a3) = W4 at *
      obtain ⟨⟨k0, k1, k2⟩, -, ⟨m0, m1, m2⟩, ⟨f0, f1, f2⟩⟩ := HE3.out.cells
      have HE4 := Lib.hid (HE3.out.put2 ⟨a1, a2, a3⟩)
      simp only at k0 k1 k2 m0 m1 m2
      clear HE3
      go_wp2_with fail
      refine bodyPost_ret (ret_pen2 rfl ⟨a1, a2, a3⟩ _ _ (w.heap.size + 1) _ _ rfl rfl HE4.out.b2) rfl ?_
      rw [← HG.out, HF2.out]
      exact ⟨B2, c2, es, rfl, HALL.out, rfl, HE4.out.bel⟩
    · have HF2 := Lib.hid (HF.out.trans (by rw [if_neg hcu]))
      obtain ⟨⟨k0, k1, k2⟩, -, ⟨m0, m1, m2⟩, ⟨f0, f1, f2⟩⟩ := hE2.cells
      have HE4 := Lib.hid (hE2.put2 ⟨fg, bg, fl⟩)
      simp only at k0 k1 k2 m0 m1 m2
      clear HF hE2
      go_wp2_with fail
      refine bodyPost_ret (ret_pen2 rfl ⟨fg, bg, fl⟩ _ _ (w.heap.size + 1) _ _ rfl rfl HE4.out.b2) rfl ?_
      rw [← HG.out, HF2.out]
      exact ⟨B2, c2, es, rfl, HALL.out, rfl, HE4.out.bel⟩
end Go.Proofs.YtlcnlfjjglcobaaDoor
