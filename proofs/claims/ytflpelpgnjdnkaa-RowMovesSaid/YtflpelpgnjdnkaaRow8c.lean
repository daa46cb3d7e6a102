/- Package row, walked: blanks, a whole cell, mending in place; cuts of a slice of cells. -/
import Derived.Test.YtflpelpgnjdnkaaRow8b
import Derived.Test.YtflpelpgnjdnkaaMath08e
namespace Go.Proofs.Ytflpelpgnjdnkaa
open Go Go.RowKit
set_option linter.unusedVariables false
set_option linter.unusedSimpArgs false

theorem infoCell7 : (Try.prog.info? 29).map (·.size) = some 7 := by kernel_rfl
theorem sizeCell (V : World) : (sizeOf (Try.prog.elem 22)).run Try.prog V = .ok 7 V := by
  have he : Try.prog.elem 22 = 29 := by simp [Program.elem, Try.underlying22]
  rw [he]
  have hi := infoCell7
  cases hq : Try.prog.info? 29 with
  | none => rw [hq] at hi; simp at hi
  | some j =>
    rw [hq] at hi
    simp at hi
    simp [sizeOf, typeInfo, hq, hi]
theorem undCells : Try.prog.underlying 22 = some (.slice (Try.prog.elem 22)) := by
  have he : Try.prog.elem 22 = 29 := by simp [Program.elem, Try.underlying22]
  rw [he]; exact Try.underlying22
theorem cutC_l (A : Option Addr) (n c M : Nat) (hM : M ≤ n) (V : World) :
    (Instr.sliceAt 22 (.slice A n c) (some (.int .i64 (M : Int))) none none).run Try.prog V = .ok (.slice (if c = M then A else A.map (·.add (M * 7))) (n - M) (c - M)) V := by
  rw [run_sliceAt_slice V _ _ _ _ _ undCells, run_slice_l V _ A n c undCells .i64 M (by omega) (by omega), sizeCell]
  simp [sliced, Result.andThen]
theorem cutC_lh (A : Option Addr) (n c a b : Nat) (h1 : a ≤ b) (h2 : b ≤ c) (V : World) :
    (Instr.sliceAt 22 (.slice A n c) (some (.int .i64 (a : Int))) (some (.int .i64 (b : Int))) none).run Try.prog V = .ok (.slice (if c = a then A else A.map (·.add (a * 7))) (b - a) (c - a)) V := by
  rw [run_sliceAt_slice V _ _ _ _ _ undCells, run_slice_lh V _ A n c undCells .i64 .i64 a b (by omega) (by omega) (by omega), sizeCell]
  simp [sliced, Result.andThen]
theorem cutC_h (A : Option Addr) (n c b : Nat) (h2 : b ≤ c) (V : World) :
    (Instr.sliceAt 22 (.slice A n c) none (some (.int .i64 (b : Int))) none).run Try.prog V = .ok (.slice A b c) V := by
  rw [run_sliceAt_slice V _ _ _ _ _ undCells, run_slice_h V _ A n c undCells .i64 b (by omega) (by omega), sizeCell]
  simp [sliced, Result.andThen]
  intro _
  cases A with
  | none => rfl
  | some a => simp [Addr.add]
theorem InC.less {w : World} {A : Option Addr} {c : Nat} {l : List Cl} (h : InC w A c l) (M : Nat) : InC w A c (l.take M) := by
  refine ⟨fun hl => ?_, by rw [List.length_take]; have := h.cap; omega, h.max⟩
  obtain ⟨b, o, e, hB, hc⟩ := h.rd (by rintro rfl; simp at hl)
  refine ⟨b, o, e, hB, fun k x hx => hc k x ?_⟩
  rw [List.getElem?_take] at hx
  split at hx
  · exact hx
  · cases hx
theorem InC.sub {w : World} {A : Option Addr} {c : Nat} {l : List Cl} (h : InC w A c l) (M : Nat) : InC w (if c = M then A else A.map (·.add (M * 7))) (c - M) (l.drop M) := by
  refine ⟨fun hl => ?_, by rw [List.length_drop]; have := h.cap; omega, by have := h.max; omega⟩
  have hM : M < l.length := by
    rcases Nat.lt_or_ge M l.length with k | k
    · exact k
    · exact absurd (List.drop_of_length_le k) hl
  have hcap := h.cap
  obtain ⟨b, o, e, hB, hc⟩ := h.rd (by rintro rfl; simp at hM)
  rw [if_neg (by omega), e]
  refine ⟨b, o + M * 7, ?_, hB, fun k x hx j u hu => ?_⟩
  · simp [Addr.add]
  · rw [List.getElem?_drop] at hx
    have := hc (M + k) x hx j u hu
    rw [← this]
    congr 2
    omega
/-- A reslice, as one value. -/
theorem InC.cut {w : World} {A : Option Addr} {c : Nat} {l : List Cl} (h : InC w A c l) {a b : Nat} (h1 : a ≤ b) (h2 : b ≤ l.length) :
    ∃ B d, (∀ V, (Instr.sliceAt 22 (.slice A l.length c) (some (.int .i64 (a : Int))) (some (.int .i64 (b : Int))) none).run Try.prog V = .ok (.slice B ((l.take b).drop a).length d) V) ∧ InC w B d ((l.take b).drop a) := by
  refine ⟨_, _, fun V => ?_, (h.less b).sub a⟩
  rw [cutC_lh A l.length c a b h1 (by have := h.cap; omega), List.length_drop, List.length_take, Nat.min_eq_left h2]
theorem InC.from_ {w : World} {A : Option Addr} {c : Nat} {l : List Cl} (h : InC w A c l) {a : Nat} (h1 : a ≤ l.length) :
    ∃ B d, (∀ V, (Instr.sliceAt 22 (.slice A l.length c) (some (.int .i64 (a : Int))) none none).run Try.prog V = .ok (.slice B (l.drop a).length d) V) ∧ InC w B d (l.drop a) := by
  refine ⟨_, _, fun V => ?_, h.sub a⟩
  rw [cutC_l A l.length c a h1, List.length_drop]
theorem InC.upto {w : World} {A : Option Addr} {c : Nat} {l : List Cl} (h : InC w A c l) {b : Nat} (h2 : b ≤ l.length) :
    (∀ V, (Instr.sliceAt 22 (.slice A l.length c) none (some (.int .i64 (b : Int))) none).run Try.prog V = .ok (.slice A (l.take b).length c) V) ∧ InC w A c (l.take b) := by
  refine ⟨fun V => ?_, h.less b⟩
  rw [cutC_h A l.length c b (by have := h.cap; omega), List.length_take, Nat.min_eq_left h2]
theorem lit_in (w : World) (g : Nat) (t : TypeId) (l : List Cl) (hl : l.length ≤ maxLen) (h : Box w g t (flatC l).toArray) : InC w (some ⟨g, 0, none⟩) l.length l := by
  refine ⟨fun _ => ⟨g, 0, rfl, h.lt, fun k e hk j u hu => ?_⟩, Nat.le_refl _, hl⟩
  have hj : j < 7 := (List.getElem?_eq_some_iff.1 hu).1
  have h1 := h.cell (0 + k * 7 + j)
  rw [h1, List.getElem?_toArray, Nat.zero_add, flatC_at hk j hj, hu]
def GivesC (l : List Cl) (W : World) (e : Ending) (w' : World) : Prop := ∃ A c, e = .returned (.slice A l.length c) ∧ InC w' A c l ∧ Below W.heap.size W w'
set_option maxRecDepth 100000 in
set_option maxHeartbeats 1000000 in
theorem whole8_c (x : Cl) (w : World) : Calls Try.prog 23 #[.agg #[.int .i64 x.r, .int .i64 x.m0, .int .i64 x.m1, .int .i64 x.w, .int .i64 x.pen.fg, .int .i64 x.pen.bg, .int .i64 x.pen.fl]] w (GivesC (wholeL x) w) := by
  obtain ⟨r, m0, m1, cw, ⟨a, b, f⟩⟩ := x
  simp only
  have hb : Below w.heap.size w (w.alloc (.cells #[.int .i64 r, .int .i64 m0, .int .i64 m1, .int .i64 cw, .int .i64 a, .int .i64 b, .int .i64 f] 29)) := (Below.refl _ _).alloc (Nat.le_refl _) _
  have HB := Lib.hid hb
  by_cases h2 : cw = 2
  · have e2 : (cw == 2) = true := by rw [h2]; rfl
    have HW : Hid (wholeL ⟨r, m0, m1, cw, ⟨a, b, f⟩⟩ = [⟨r, m0, m1, cw, ⟨a, b, f⟩⟩, halfC ⟨a, b, f⟩]) := Lib.hid (by unfold wholeL; rw [if_pos h2])
    generalize wholeL ⟨r, m0, m1, cw, ⟨a, b, f⟩⟩ = WL at *
    clear h2 hb
    go_enter Try.func23, Try.ntmps23
    go_wp2_with fail
    go_ret
    rw [HW.out]
    refine ⟨_, _, rfl, lit_in _ _ 29 [⟨r, m0, m1, cw, ⟨a, b, f⟩⟩, halfC ⟨a, b, f⟩] (by simp [maxLen]) ?_, HB.out.alloc (by simp) _⟩
    exact box8_1 w _ _ _
  · have e2 : (cw == 2) = false := beq_eq_false_iff_ne.2 h2
    have HW : Hid (wholeL ⟨r, m0, m1, cw, ⟨a, b, f⟩⟩ = [⟨r, m0, m1, cw, ⟨a, b, f⟩⟩]) := Lib.hid (by unfold wholeL; rw [if_neg h2])
    generalize wholeL ⟨r, m0, m1, cw, ⟨a, b, f⟩⟩ = WL at *
    clear h2 hb
    go_enter Try.func23, Try.ntmps23
    go_wp2_with fail
    go_ret
    rw [HW.out]
    refine ⟨_, _, rfl, lit_in _ _ 29 [⟨r, m0, m1, cw, ⟨a, b, f⟩⟩] (by simp [maxLen]) ?_, HB.out.alloc (by simp) _⟩
    exact box8_1 w _ _ _
/- A row of cells that is mended where it lies. -/
structure MdM (w wr : World) (base g c : Nat) (l : List Cl) (i : Nat) : Prop where
  own : OwnC wr base (some ⟨g, 0, none⟩) c (hybL l i)
  bl : Below g w wr
  gl : g < wr.heap.size
theorem hyb8_self {l : List Cl} {i : Nat} : (hybL l i)[i]? = l[i]? := by rw [hyb_at, if_neg (by omega)]
theorem MdM.on {w wr v : World} {base g c : Nat} {l : List Cl} {i : Nat} (h : MdM w wr base g c l i) (hv : Below wr.heap.size wr v) : MdM w v base g c l i :=
  ⟨h.own.on hv, h.bl.trans (hv.mono (Nat.le_of_lt h.gl)), Nat.lt_of_lt_of_le h.gl hv.size⟩
theorem MdM.skip {w wr : World} {base g c : Nat} {l : List Cl} {i : Nat} (h : MdM w wr base g c l i) (hb : ¬ BadAt (hybL l i) i) : MdM w wr base g c l (i + 1) :=
  ⟨by rw [← hyb_skip (fun k => hb ((hyb_bad l i).2 k))]; exact h.own, h.bl, h.gl⟩
theorem MdM.put {w wr : World} {base g c : Nat} {l : List Cl} {i : Nat} {x : Cl} (h : MdM w wr base g c l i) (hx : (hybL l i)[i]? = some x) (hb : BadAt (hybL l i) i) : MdM w (putC wr g i (blankC x.pen)) base g c l (i + 1) := by
  have hl : l[i]? = some x := by rw [← hyb8_self]; exact hx
  have hi : i < l.length := (List.getElem?_eq_some_iff.1 hl).1
  have hst := hyb_step hl
  rw [if_pos ((hyb_bad l i).1 hb)] at hst
  have ho := h.own.put (k := i) (by rw [hyb_len]; exact hi) (blankC x.pen)
  rw [hst] at ho
  exact ⟨ho, putC_below h.bl (Nat.le_refl _), by unfold putC; simpa using h.gl⟩
theorem MdM.cells {w wr : World} {base g c : Nat} {l : List Cl} {i k : Nat} {x : Cl} (h : MdM w wr base g c l i) (hx : (hybL l i)[k]? = some x) :
    wr.cell? ⟨g, k * 7, none⟩ = some (.int .i64 x.r) ∧ wr.cell? ⟨g, k * 7 + 1, none⟩ = some (.int .i64 x.m0) ∧ wr.cell? ⟨g, k * 7 + 2, none⟩ = some (.int .i64 x.m1) ∧ wr.cell? ⟨g, k * 7 + 3, none⟩ = some (.int .i64 x.w) ∧
    wr.cell? ⟨g, k * 7 + 4, none⟩ = some (.int .i64 x.pen.fg) ∧ wr.cell? ⟨g, k * 7 + 5, none⟩ = some (.int .i64 x.pen.bg) ∧ wr.cell? ⟨g, k * 7 + 6, none⟩ = some (.int .i64 x.pen.fl) := by
  obtain ⟨b, o, e, _, hc⟩ := h.own.in_.at_ hx
  injection e with e
  injection e with e1 e2
  subst e1; subst e2
  simpa only [Nat.zero_add] using hc
theorem MdM.free {w wr : World} {base g c : Nat} {l : List Cl} {i : Nat} (h : MdM w wr base g c l i) (k : Nat) (hi : 0 < l.length) :
    wr.frozen? ⟨g, k * 7, none⟩ = false ∧ wr.frozen? ⟨g, k * 7 + 1, none⟩ = false ∧ wr.frozen? ⟨g, k * 7 + 2, none⟩ = false ∧ wr.frozen? ⟨g, k * 7 + 3, none⟩ = false ∧
    wr.frozen? ⟨g, k * 7 + 4, none⟩ = false ∧ wr.frozen? ⟨g, k * 7 + 5, none⟩ = false ∧ wr.frozen? ⟨g, k * 7 + 6, none⟩ = false := by
  obtain ⟨g', e, _, _, hf⟩ := h.own.at_ (by intro h0; have := hyb_len l i; rw [h0] at this; simp at this; omega)
  injection e with e
  injection e with e1
  subst e1
  exact ⟨hf _, hf _, hf _, hf _, hf _, hf _, hf _⟩
theorem results_nil8 {fn : Func} (h : fn.results = #[]) (tmps : Array Value) (w : World) : (results fn tmps).run Try.prog w = .ok (.tuple #[]) w := by
  simp [results, h, go_sem]
def MendR (base g c : Nat) (l : List Cl) (w : World) (e : Ending) (w' : World) : Prop := e = .returned (.tuple #[]) ∧ MdM w w' base g c l l.length
set_option maxRecDepth 100000 in
set_option maxHeartbeats 1000000 in
theorem mend8_c (base g c : Nat) (l : List Cl) (n : Nat) (hn : n = l.length) (w : World) (hown : OwnC w base (some ⟨g, 0, none⟩) c l) (hg : g < w.heap.size) : Calls Try.prog 32 #[.slice (some ⟨g, 0, none⟩) n c] w (MendR base g c l w) := by
  have hcap := hown.cap
  unfold maxLen at hcap
  obtain ⟨hc1, hc2⟩ := hcap
  have HM0 : Hid (MdM w w base g c l 0) := Lib.hid ⟨by rw [hyb_zero]; exact hown, Below.refl _ _, hg⟩
  have HN := Lib.hid hn
  have hn1 : n ≤ c := by omega
  clear hown hg hn hc1
  go_enter Try.func32, Try.ntmps32
  go_wp2_with fail
  go_loopw [5] (fun u5 wr => ∃ i : Nat, i ≤ n ∧ u5 = .int .i64 (i : Int) ∧ Hid (MdM w wr base g c l i)) (fun u5 _ => n - (intOf u5).toNat)
  case atStart => exact ⟨0, Nat.zero_le _, rfl, HM0⟩
  case round =>
    obtain ⟨i, hi, rfl, HM⟩ := hrel
    clear HM0
    by_cases hlt : i < n
    · have z1 : (i : Int) < (n : Int) := by omega
      have hL : (hybL l i).length = n := by rw [hyb_len]; exact HN.out.symm
      have hpos : 0 < l.length := by have := HN.out; omega
      obtain ⟨x, hx⟩ : ∃ x, (hybL l i)[i]? = some x := ⟨_, List.getElem?_eq_getElem (by omega)⟩
      have htorn : ∀ V, InC V (some ⟨g, 0, none⟩) c (hybL l i) → Calls Try.prog 22 #[.slice (some ⟨g, 0, none⟩) n c, .int .i64 (i : Int)] V fun e w' => e = .returned (.bool (decide (BadAt (hybL l i) i))) ∧ V = w' := fun V hV => by
        have := torn8_c (some ⟨g, 0, none⟩) c (hybL l i) i V hV (by omega)
        rwa [hL] at this
      have HX := Lib.hid hx
      have ht := htorn wr HM.out.own.in_
      clear hx hL htorn
      cases hbad : decide (BadAt (hybL l i) i) with
      | false =>
        rw [hbad] at ht
        have HNB := Lib.hid (of_decide_eq_false hbad)
        clear hbad
        go_wp2_with fail
        refine ht.mono ?_
        rintro e v1 ⟨rfl, rfl⟩
        clear ht
        go_wp2_with fail
        exact ⟨⟨i + 1, by omega, by go_num, Lib.hid (HM.out.skip HNB.out)⟩, by simp [intOf]; omega⟩
      | true =>
        rw [hbad] at ht
        have HBD := Lib.hid (of_decide_eq_true hbad)
        clear hbad
        obtain ⟨-, -, -, -, k4, k5, k6⟩ := HM.out.cells HX.out
        go_wp2_with fail
        refine ht.mono ?_
        rintro e v1 ⟨rfl, rfl⟩
        clear ht
        go_wp2_with fail
        have hbk := blank8_p x.pen wr
        refine hbk.mono ?_
        rintro e v1 ⟨rfl, hv1⟩
        have HM1 := Lib.hid (HM.out.on hv1)
        clear hv1 k4 k5 k6 HM hbk
        obtain ⟨f0, f1, f2, f3, f4, f5, f6⟩ := HM1.out.free i hpos
        obtain ⟨m0, m1, m2, m3, m4, m5, m6⟩ := HM1.out.cells HX.out
        go_wp2_with fail
        exact ⟨⟨i + 1, by omega, by go_num, Lib.hid (HM1.out.put HX.out HBD.out)⟩, by simp [intOf]; omega⟩
    · obtain rfl : i = n := by omega
      have z1 : ¬ (i : Int) < (i : Int) := by omega
      go_wp2_with fail
      refine bodyPost_ret (results_nil8 rfl _ _) rfl ⟨rfl, ?_⟩
      rw [← HN.out]; exact HM.out
/- Blanks. -/
structure BkM (w wr : World) (n i : Nat) (p : Pn) : Prop where
  own : OwnC wr w.heap.size (some ⟨w.heap.size + 1, 0, none⟩) n (List.replicate i (blankC p) ++ List.replicate (n - i) zeroC)
  bx : Box wr w.heap.size 27 #[.int .i64 p.fg, .int .i64 p.bg, .int .i64 p.fl]
  bl : Below w.heap.size w wr
theorem BkM.on {w wr v : World} {n i : Nat} {p : Pn} (h : BkM w wr n i p) (hv : Below wr.heap.size wr v) : BkM w v n i p :=
  ⟨h.own.on hv, h.bx.below hv h.bx.lt, h.bl.trans (hv.mono h.bl.size)⟩
theorem BkM.put {w wr : World} {n i : Nat} {p : Pn} (h : BkM w wr n i p) (hi : i < n) : BkM w (putC wr (w.heap.size + 1) i (blankC p)) n (i + 1) p := by
  have ho := h.own.put (k := i) (by simp; omega) (blankC p)
  rw [rep_set n i _ _ hi] at ho
  refine ⟨ho, ?_, putC_below h.bl (by omega)⟩
  have hg : w.heap.size ≠ w.heap.size + 1 := by omega
  unfold putC
  exact ((((((h.bx.far (p := ⟨_, _, none⟩) hg _).far (p := ⟨_, _, none⟩) hg _).far (p := ⟨_, _, none⟩) hg _).far (p := ⟨_, _, none⟩) hg _).far (p := ⟨_, _, none⟩) hg _).far (p := ⟨_, _, none⟩) hg _).far (p := ⟨_, _, none⟩) hg _
theorem BkM.cells {w wr : World} {n i : Nat} {p : Pn} (h : BkM w wr n i p) (hi : i < n) :
    (wr.frozen? ⟨w.heap.size + 1, i * 7, none⟩ = false ∧ wr.frozen? ⟨w.heap.size + 1, i * 7 + 1, none⟩ = false ∧ wr.frozen? ⟨w.heap.size + 1, i * 7 + 2, none⟩ = false ∧ wr.frozen? ⟨w.heap.size + 1, i * 7 + 3, none⟩ = false ∧
    wr.frozen? ⟨w.heap.size + 1, i * 7 + 4, none⟩ = false ∧ wr.frozen? ⟨w.heap.size + 1, i * 7 + 5, none⟩ = false ∧ wr.frozen? ⟨w.heap.size + 1, i * 7 + 6, none⟩ = false) ∧
    (wr.cell? ⟨w.heap.size + 1, i * 7, none⟩ = some (.int .i64 0) ∧ wr.cell? ⟨w.heap.size + 1, i * 7 + 1, none⟩ = some (.int .i64 0) ∧ wr.cell? ⟨w.heap.size + 1, i * 7 + 2, none⟩ = some (.int .i64 0) ∧ wr.cell? ⟨w.heap.size + 1, i * 7 + 3, none⟩ = some (.int .i64 0) ∧
    wr.cell? ⟨w.heap.size + 1, i * 7 + 4, none⟩ = some (.int .i64 0) ∧ wr.cell? ⟨w.heap.size + 1, i * 7 + 5, none⟩ = some (.int .i64 0) ∧ wr.cell? ⟨w.heap.size + 1, i * 7 + 6, none⟩ = some (.int .i64 0)) := by
  have hx : (List.replicate i (blankC p) ++ List.replicate (n - i) zeroC)[i]? = some zeroC := by
    rw [List.getElem?_append_right (by simp), List.length_replicate, Nat.sub_self, List.getElem?_replicate, if_pos (by omega)]
  obtain ⟨g', e, _, _, hf⟩ := h.own.at_ (by intro h0; rw [h0] at hx; simp at hx)
  injection e with e
  injection e with e1
  subst e1
  obtain ⟨b, o, e, _, hc⟩ := h.own.in_.at_ hx
  injection e with e
  injection e with e1 e2
  subst e1; subst e2
  refine ⟨⟨hf _, hf _, hf _, hf _, hf _, hf _, hf _⟩, ?_⟩
  simp only [Nat.zero_add] at hc
  exact hc
def Gives8B (n : Nat) (p : Pn) (W : World) (e : Ending) (w' : World) : Prop := ∃ A c, e = .returned (.slice A n c) ∧ InC w' A c (List.replicate n (blankC p)) ∧ Below W.heap.size W w'
set_option maxRecDepth 100000 in
set_option maxHeartbeats 1000000 in
theorem blanks8_c (n : Nat) (hn : n ≤ 8192) (p : Pn) (w : World) : Calls Try.prog 27 #[.int .i64 (n : Int), .agg #[.int .i64 p.fg, .int .i64 p.bg, .int .i64 p.fl]] w (Gives8B n p w) := by
  have hb0 : Box (w.alloc (.cells #[.int .i64 p.fg, .int .i64 p.bg, .int .i64 p.fl] 27)) w.heap.size 27 #[.int .i64 p.fg, .int .i64 p.bg, .int .i64 p.fl] := Box.new w _ _
  have hb1 : Below w.heap.size w (w.alloc (.cells #[.int .i64 p.fg, .int .i64 p.bg, .int .i64 p.fl] 27)) := (Below.refl _ _).alloc (Nat.le_refl _) _
  have hs : (w.alloc (.cells #[.int .i64 p.fg, .int .i64 p.bg, .int .i64 p.fl] 27)).heap.size = w.heap.size + 1 := by simp
  have HB := Lib.hid (And.intro hb0 (And.intro hb1 hs))
  clear hb0 hb1 hs
  go_enter Try.func27, Try.ntmps27
  go_upto_region 1 with fail
  generalize w.alloc (.cells #[.int .i64 p.fg, .int .i64 p.bg, .int .i64 p.fl] 27) = W at *
  have hs := HB.out.2.2
  go_wp2_with (refine wpList_make_cells rfl _ _ rfl w.heap.size n .i64 .i64 _ _ rfl rfl rfl rfl (by omega) (by omega) ?_)
  intro w2 hown hbel
  have HM0 : Hid (BkM w w2 n 0 p) := Lib.hid ⟨by simpa using hown, HB.out.1.below hbel (by omega), HB.out.2.1.trans (hbel.mono (by omega))⟩
  clear hown hbel HB hs
  go_wp2_with fail
  go_loopw [11] (fun u11 wr => ∃ i : Nat, i ≤ n ∧ u11 = .int .i64 (i : Int) ∧ Hid (BkM w wr n i p)) (fun u11 _ => n - (intOf u11).toNat)
  case atStart => exact ⟨0, Nat.zero_le _, rfl, HM0⟩
  case round =>
    obtain ⟨i, hi, rfl, HM⟩ := hrel
    clear HM0
    by_cases hlt : i < n
    · have z1 : (i : Int) < (n : Int) := by omega
      obtain ⟨k0, k1, k2⟩ : wr.cell? ⟨w.heap.size, 0, none⟩ = some (.int .i64 p.fg) ∧ wr.cell? ⟨w.heap.size, 1, none⟩ = some (.int .i64 p.bg) ∧ wr.cell? ⟨w.heap.size, 2, none⟩ = some (.int .i64 p.fl) := ⟨HM.out.bx.cell 0, HM.out.bx.cell 1, HM.out.bx.cell 2⟩
      go_wp2_with fail
      refine (blank8_p p wr).mono ?_
      rintro e v1 ⟨rfl, hv1⟩
      have HM1 := Lib.hid (HM.out.on hv1)
      clear hv1 k0 k1 k2 HM
      obtain ⟨⟨f0, f1, f2, f3, f4, f5, f6⟩, m0, m1, m2, m3, m4, m5, m6⟩ := HM1.out.cells hlt
      go_wp2_with fail
      exact ⟨⟨i + 1, by omega, by go_num, Lib.hid (HM1.out.put hlt)⟩, by simp [intOf]; omega⟩
    · obtain rfl : i = n := by omega
      have z1 : ¬ (i : Int) < (i : Int) := by omega
      go_wp2_with fail
      go_ret
      refine ⟨_, _, rfl, ?_, HM.out.bl⟩
      have := HM.out.own.in_
      simpa using this
end Go.Proofs.Ytflpelpgnjdnkaa
