/- A row is mended as the document says, walked. -/
import Derived.Test.YtcadbapccdclaaaRefRow
import Derived.Test.YtcadbapccdclaaaMath08d
namespace Go.Proofs.Ytcadbapccdclaaa
open Go Go.RowKit
set_option linter.unusedVariables false
set_option linter.unusedSimpArgs false

set_option maxRecDepth 100000 in
set_option maxHeartbeats 1000000 in
theorem rWith_c (r : Rw) (A B : Option Addr) (c d : Nat) (l : List Cl) (n : Nat) (hn : n = l.length) (w : World) : Calls Try.prog 39 #[.agg #[.slice A r.cs.length c, .bool r.wrap, .int .i64 r.dir, .bool r.ex], .slice B n d] w fun e w' => e = .returned (.agg #[.slice B n d, .bool r.wrap, .int .i64 r.dir, .bool r.ex]) ∧ Below w.heap.size w w' := by
  have HNL := Lib.hid hn
  clear hn
  generalize r.cs.length = m
  generalize r.wrap = y1
  generalize r.dir = y2
  generalize r.ex = y3
  have hX : Box ((w.alloc (.cells #[.slice A m c, .bool y1, .int .i64 y2, .bool y3] 35)).alloc (.cells #[.slice none 0 0, .bool false, .int .i64 0, .bool false] 35)) (w.heap.size + 1) 35 #[.slice none 0 0, .bool false, .int .i64 0, .bool false] := box_at1 w _ _ _
  have hY : Box ((w.alloc (.cells #[.slice A m c, .bool y1, .int .i64 y2, .bool y3] 35)).alloc (.cells #[.slice none 0 0, .bool false, .int .i64 0, .bool false] 35)) w.heap.size 35 #[.slice A m c, .bool y1, .int .i64 y2, .bool y3] := (Box.new w _ _).alloc _
  have hb : Below w.heap.size w ((w.alloc (.cells #[.slice A m c, .bool y1, .int .i64 y2, .bool y3] 35)).alloc (.cells #[.slice none 0 0, .bool false, .int .i64 0, .bool false] 35)) := ((Below.refl _ _).alloc (Nat.le_refl _) _).alloc (by simp) _
  go_enter Try.func39, Try.ntmps39
  go_upto_region 1 with fail
  generalize (w.alloc (.cells #[.slice A m c, .bool y1, .int .i64 y2, .bool y3] 35)).alloc (.cells #[.slice none 0 0, .bool false, .int .i64 0, .bool false] 35) = W at *
  have f0 : W.frozen? ⟨w.heap.size, 0, none⟩ = false := hY.free 0
  have k0 : W.cell? ⟨w.heap.size, 0, none⟩ = some (.slice A m c) := hY.cell 0
  have HH := Lib.hid (And.intro hX (And.intro hY hb))
  clear hX hY hb
  go_upto_region 2 with fail
  have hY1 : Box (W.setCell ⟨w.heap.size, 0, none⟩ (.slice B n d)) w.heap.size 35 #[.slice B n d, .bool y1, .int .i64 y2, .bool y3] := HH.out.2.1.set_ 0 (.slice B n d)
  have hX1 : Box (W.setCell ⟨w.heap.size, 0, none⟩ (.slice B n d)) (w.heap.size + 1) 35 #[.slice none 0 0, .bool false, .int .i64 0, .bool false] := HH.out.1.far (p := ⟨w.heap.size, 0, none⟩) (by simp) _
  have hb1 : Below w.heap.size w (W.setCell ⟨w.heap.size, 0, none⟩ (.slice B n d)) := HH.out.2.2.setCell (p := ⟨w.heap.size, 0, none⟩) (Nat.le_refl _) _
  clear f0 k0 HH
  generalize W.setCell ⟨w.heap.size, 0, none⟩ (.slice B n d) = W1 at *
  obtain ⟨k0, k1, k2, k3⟩ : W1.cell? ⟨w.heap.size, 0, none⟩ = some (.slice B n d) ∧ W1.cell? ⟨w.heap.size, 1, none⟩ = some (.bool y1) ∧ W1.cell? ⟨w.heap.size, 2, none⟩ = some (.int .i64 y2) ∧ W1.cell? ⟨w.heap.size, 3, none⟩ = some (.bool y3) := ⟨hY1.cell 0, hY1.cell 1, hY1.cell 2, hY1.cell 3⟩
  obtain ⟨f0, f1, f2, f3⟩ : W1.frozen? ⟨w.heap.size + 1, 0, none⟩ = false ∧ W1.frozen? ⟨w.heap.size + 1, 1, none⟩ = false ∧ W1.frozen? ⟨w.heap.size + 1, 2, none⟩ = false ∧ W1.frozen? ⟨w.heap.size + 1, 3, none⟩ = false := ⟨hX1.free 0, hX1.free 1, hX1.free 2, hX1.free 3⟩
  obtain ⟨j0, j1, j2, j3⟩ : W1.cell? ⟨w.heap.size + 1, 0, none⟩ = some (.slice none 0 0) ∧ W1.cell? ⟨w.heap.size + 1, 1, none⟩ = some (.bool false) ∧ W1.cell? ⟨w.heap.size + 1, 2, none⟩ = some (.int .i64 0) ∧ W1.cell? ⟨w.heap.size + 1, 3, none⟩ = some (.bool false) := ⟨hX1.cell 0, hX1.cell 1, hX1.cell 2, hX1.cell 3⟩
  have hp4 := hX1.put4 hb1 (Nat.le_succ _) (.slice B n d) (.bool y1) (.int .i64 y2) (.bool y3)
  have HP := Lib.hid hp4
  clear hX1 hY1 hb1 hp4
  go_wp2_with fail
  have hn := HNL.out
  subst hn
  refine bodyPost_ret (ret_rw rfl ⟨l, y1, y2, y3⟩ B d _ _ (w.heap.size + 1) 35 rfl ?_) rfl ⟨rfl, HP.out.2⟩
  exact HP.out.1
/-- A row as one says it. -/
structure MdT (w wr : World) (A : Option Addr) (c : Nat) (l : List Cl) (y1 : Bool) (y2 : Int) (y3 : Bool) (B : Option Addr) (d i : Nat) : Prop where
  bx : Box wr (w.heap.size + 1) 35 #[.slice none 0 0, .bool false, .int .i64 0, .bool false]
  ba : Box wr w.heap.size 35 #[.slice A l.length c, .bool y1, .int .i64 y2, .bool y3]
  bl : Below w.heap.size w wr
  own : OwnC wr (w.heap.size + 2) B d (hybL l i)
theorem MdT.on {w wr v : World} {A : Option Addr} {c : Nat} {l : List Cl} {y1 : Bool} {y2 : Int} {y3 : Bool} {B : Option Addr} {d i : Nat} (h : MdT w wr A c l y1 y2 y3 B d i) (hv : Below wr.heap.size wr v) : MdT w v A c l y1 y2 y3 B d i :=
  ⟨h.bx.below hv h.bx.lt, h.ba.below hv h.ba.lt, h.bl.trans (hv.mono h.bl.size), h.own.on hv⟩
theorem MdT.skip {w wr : World} {A : Option Addr} {c : Nat} {l : List Cl} {y1 : Bool} {y2 : Int} {y3 : Bool} {B : Option Addr} {d i : Nat} (h : MdT w wr A c l y1 y2 y3 B d i) (hb : ¬ BadAt (hybL l i) i) : MdT w wr A c l y1 y2 y3 B d (i + 1) :=
  ⟨h.bx, h.ba, h.bl, by rw [← hyb_skip (fun k => hb ((hyb_bad l i).2 k))]; exact h.own⟩
theorem hyb_self {l : List Cl} {i : Nat} : (hybL l i)[i]? = l[i]? := by rw [hyb_at, if_neg (by omega)]
theorem MdT.put {w wr : World} {A : Option Addr} {c : Nat} {l : List Cl} {y1 : Bool} {y2 : Int} {y3 : Bool} {g d i : Nat} {x : Cl} (h : MdT w wr A c l y1 y2 y3 (some ⟨g, 0, none⟩) d i) (hx : (hybL l i)[i]? = some x) (hb : BadAt (hybL l i) i) : MdT w (putC wr g i (blankC x.pen)) A c l y1 y2 y3 (some ⟨g, 0, none⟩) d (i + 1) := by
  have hge : w.heap.size + 2 ≤ g := by
    obtain ⟨g', e, hg, _, _⟩ := h.own.at_ (by intro h0; rw [h0] at hx; simp at hx)
    injection e with e
    injection e with e1
    omega
  have hl : l[i]? = some x := by rw [← hyb_self]; exact hx
  have hi : i < l.length := (List.getElem?_eq_some_iff.1 hl).1
  have hst := hyb_step hl
  rw [if_pos ((hyb_bad l i).1 hb)] at hst
  have ho := h.own.put (k := i) (by rw [hyb_len]; exact hi) (blankC x.pen)
  rw [hst] at ho
  refine ⟨?_, ?_, putC_below h.bl (by omega), ho⟩
  · have hg : w.heap.size + 1 ≠ g := by omega
    unfold putC
    exact ((((((h.bx.far (p := ⟨g, _, none⟩) hg _).far (p := ⟨g, _, none⟩) hg _).far (p := ⟨g, _, none⟩) hg _).far (p := ⟨g, _, none⟩) hg _).far (p := ⟨g, _, none⟩) hg _).far (p := ⟨g, _, none⟩) hg _).far (p := ⟨g, _, none⟩) hg _
  · have hg : w.heap.size ≠ g := by omega
    unfold putC
    exact ((((((h.ba.far (p := ⟨g, _, none⟩) hg _).far (p := ⟨g, _, none⟩) hg _).far (p := ⟨g, _, none⟩) hg _).far (p := ⟨g, _, none⟩) hg _).far (p := ⟨g, _, none⟩) hg _).far (p := ⟨g, _, none⟩) hg _).far (p := ⟨g, _, none⟩) hg _
theorem MdT.cells {w wr : World} {A : Option Addr} {c : Nat} {l : List Cl} {y1 : Bool} {y2 : Int} {y3 : Bool} {g d i k : Nat} {x : Cl} (h : MdT w wr A c l y1 y2 y3 (some ⟨g, 0, none⟩) d i) (hx : (hybL l i)[k]? = some x) :
    wr.cell? ⟨g, k * 7, none⟩ = some (.int .i64 x.r) ∧ wr.cell? ⟨g, k * 7 + 1, none⟩ = some (.int .i64 x.m0) ∧ wr.cell? ⟨g, k * 7 + 2, none⟩ = some (.int .i64 x.m1) ∧ wr.cell? ⟨g, k * 7 + 3, none⟩ = some (.int .i64 x.w) ∧
    wr.cell? ⟨g, k * 7 + 4, none⟩ = some (.int .i64 x.pen.fg) ∧ wr.cell? ⟨g, k * 7 + 5, none⟩ = some (.int .i64 x.pen.bg) ∧ wr.cell? ⟨g, k * 7 + 6, none⟩ = some (.int .i64 x.pen.fl) := by
  obtain ⟨b, o, e, _, hc⟩ := h.own.in_.at_ hx
  injection e with e
  injection e with e1 e2
  subst e1; subst e2
  simpa only [Nat.zero_add] using hc
theorem MdT.free {w wr : World} {A : Option Addr} {c : Nat} {l : List Cl} {y1 : Bool} {y2 : Int} {y3 : Bool} {g d i : Nat} (h : MdT w wr A c l y1 y2 y3 (some ⟨g, 0, none⟩) d i) (k : Nat) (hi : 0 < l.length) :
    wr.frozen? ⟨g, k * 7, none⟩ = false ∧ wr.frozen? ⟨g, k * 7 + 1, none⟩ = false ∧ wr.frozen? ⟨g, k * 7 + 2, none⟩ = false ∧ wr.frozen? ⟨g, k * 7 + 3, none⟩ = false ∧
    wr.frozen? ⟨g, k * 7 + 4, none⟩ = false ∧ wr.frozen? ⟨g, k * 7 + 5, none⟩ = false ∧ wr.frozen? ⟨g, k * 7 + 6, none⟩ = false := by
  obtain ⟨g', e, _, _, hf⟩ := h.own.at_ (by intro h0; have := hyb_len l i; rw [h0] at this; simp at this; omega)
  injection e with e
  injection e with e1
  subst e1
  exact ⟨hf _, hf _, hf _, hf _, hf _, hf _, hf _⟩
theorem empty_own (W : World) (b : Nat) (hb : b ≤ W.heap.size) : OwnC (W.alloc (.cells #[] 47)) b (some ⟨W.heap.size, 0, none⟩) 0 [] :=
  ⟨rfl, .inr ⟨W.heap.size, 0, #[], rfl, hb, heap_alloc_new W _, Nat.le_refl _, by simp [maxLen], rfl, rfl⟩⟩
set_option maxRecDepth 100000 in
set_option maxHeartbeats 1000000 in
theorem rMend_c (r : Rw) (A : Option Addr) (c : Nat) (w : World) (hin : InC w A c r.cs) (hlen : r.cs.length ≤ 8192) : Calls Try.prog 30 #[.agg #[.slice A r.cs.length c, .bool r.wrap, .int .i64 r.dir, .bool r.ex]] w (GivesRow { r with cs := mendL r.cs } w) := by
  obtain ⟨l, y1, y2, y3⟩ := r
  simp only at hin hlen ⊢
  have hX : Box ((w.alloc (.cells #[.slice A l.length c, .bool y1, .int .i64 y2, .bool y3] 35)).alloc (.cells #[.slice none 0 0, .bool false, .int .i64 0, .bool false] 35)) (w.heap.size + 1) 35 #[.slice none 0 0, .bool false, .int .i64 0, .bool false] := box_at1 w _ _ _
  have hY : Box ((w.alloc (.cells #[.slice A l.length c, .bool y1, .int .i64 y2, .bool y3] 35)).alloc (.cells #[.slice none 0 0, .bool false, .int .i64 0, .bool false] 35)) w.heap.size 35 #[.slice A l.length c, .bool y1, .int .i64 y2, .bool y3] := (Box.new w _ _).alloc _
  have hb : Below w.heap.size w ((w.alloc (.cells #[.slice A l.length c, .bool y1, .int .i64 y2, .bool y3] 35)).alloc (.cells #[.slice none 0 0, .bool false, .int .i64 0, .bool false] 35)) := ((Below.refl _ _).alloc (Nat.le_refl _) _).alloc (by simp) _
  have hin1 := hin.on hb
  have hs : ((w.alloc (.cells #[.slice A l.length c, .bool y1, .int .i64 y2, .bool y3] 35)).alloc (.cells #[.slice none 0 0, .bool false, .int .i64 0, .bool false] 35)).heap.size = w.heap.size + 2 := by simp
  clear hin
  go_enter Try.func30, Try.ntmps30
  go_upto_region 1 with fail
  generalize (w.alloc (.cells #[.slice A l.length c, .bool y1, .int .i64 y2, .bool y3] 35)).alloc (.cells #[.slice none 0 0, .bool false, .int .i64 0, .bool false] 35) = W at *
  have k0 : (W.alloc (.cells #[] 47)).cell? ⟨w.heap.size, 0, none⟩ = some (.slice A l.length c) := (hY.alloc _).cell 0
  have hal : Below W.heap.size W (W.alloc (.cells #[] 47)) := (Below.refl _ _).alloc (Nat.le_refl _) _
  have HO := Lib.hid (empty_own W (w.heap.size + 2) (by omega))
  have HI := Lib.hid (hin1.on hal)
  have hz : w.heap.size + 2 ≤ (W.alloc (.cells #[] 47)).heap.size := by simp; omega
  have HH := Lib.hid (And.intro (hX.alloc (.cells #[] 47)) (And.intro (hY.alloc (.cells #[] 47)) (And.intro (hb.trans (hal.mono hb.size)) hs)))
  clear hX hY hb hin1 hs hal
  go_wp2_with (at_builtin; refine wpList_append_cells rfl _ _ rfl (w.heap.size + 2) 0 (some ⟨W.heap.size, 0, none⟩) [] 0 rfl rfl HO.out A c l l.length rfl rfl HI.out (by simp; omega) hz ?_)
  intro B d w2 hown hO
  try simp only [List.nil_append] at hown hO ⊢
  have hW := HH.out.2.2.2
  have hx2 := hO.box HH.out.1 (by simp [Value.ownBlock]; omega)
  have hy2 := hO.box HH.out.2.1 (by simp [Value.ownBlock]; omega)
  have hb2 : Below w.heap.size w w2 := HH.out.2.2.1.trans (hO.belowBase (by simp; omega) (fun g hg => by simp [Value.ownBlock] at hg; omega))
  have HM0 : Hid (MdT w w2 A c l y1 y2 y3 B d 0) := Lib.hid ⟨hx2, hy2, hb2, by rw [hyb_zero]; exact hown⟩
  clear hx2 hy2 hb2 hown hO HO HI HH k0 hW hz
  go_wp2_with fail
  go_loopw [4] (fun u4 wr => ∃ i : Nat, i ≤ l.length ∧ u4 = .int .i64 (i : Int) ∧ Hid (MdT w wr A c l y1 y2 y3 B d i)) (fun u4 _ => l.length - (intOf u4).toNat)
  case atStart => exact ⟨0, Nat.zero_le _, rfl, HM0⟩
  case round =>
    obtain ⟨i, hi, rfl, HM⟩ := hrel
    clear HM0
    by_cases hlt : i < l.length
    · have z1 : (i : Int) < (l.length : Int) := by omega
      have hL := hyb_len l i
      have hpos : 0 < l.length := by omega
      obtain ⟨g, rfl, -, -, -⟩ := HM.out.own.at_ (by intro h0; rw [h0] at hL; simp at hL; omega)
      have hcap := HM.out.own.cap
      rw [hL] at hcap
      obtain ⟨x, hx⟩ : ∃ x, (hybL l i)[i]? = some x := ⟨_, List.getElem?_eq_getElem (by omega)⟩
      have hwx : wAt (hybL l i) i = x.w := wAt_some hx
      obtain ⟨-, -, -, k3, k4, k5, k6⟩ := HM.out.cells hx
      have HX := Lib.hid hx
      by_cases w0 : x.w = 2
      · have w1 : True := trivial
        have w2 : (x.w == 2) = true := by rw [w0]; rfl
        have w3 : (x.w == 0) = false := by rw [w0]; rfl
        by_cases hn : i + 1 < l.length
        · obtain ⟨y, hy⟩ : ∃ y, (hybL l i)[i + 1]? = some y := ⟨_, List.getElem?_eq_getElem (by omega)⟩
          have hwy : wAt (hybL l i) (i + 1) = y.w := wAt_some hy
          obtain ⟨-, -, -, n3, -, -, -⟩ := HM.out.cells hy
          have zn : ¬ (i : Int) + 1 ≥ (l.length : Int) := by omega
          have zn2 : (i : Int) + 1 < (l.length : Int) := by omega
          by_cases hy0 : y.w = 0
          · have w4 : (y.w != 0) = false := by rw [hy0]; rfl
            have HNB : Hid (¬ BadAt (hybL l i) i) := Lib.hid (by unfold BadAt; omega)
            clear hx hy hwx hwy w0 hy0 hL
            go_wp2_with fail
            exact ⟨⟨i + 1, by omega, by go_num, Lib.hid (HM.out.skip HNB.out)⟩, by simp [intOf]; omega⟩
          · have w4 : (y.w != 0) = true := bne_iff_ne.2 hy0
            have HBD : Hid (BadAt (hybL l i) i) := Lib.hid (by unfold BadAt; omega)
            clear hx hy hwx hwy w0 hy0 hL
            go_wp2_with fail
            refine (rBlank_c x.pen wr).mono ?_
            rintro e v1 ⟨rfl, hv1⟩
            have HM1 := Lib.hid (HM.out.on hv1)
            clear hv1 w4 n3 zn zn2 w1 w2 w3 k3 k4 k5 k6 HM
            obtain ⟨f0, f1, f2, f3, f4, f5, f6⟩ := HM1.out.free i hpos
            obtain ⟨m0, m1, m2, m3, m4, m5, m6⟩ := HM1.out.cells HX.out
            go_wp2_with fail
            exact ⟨⟨i + 1, by omega, by go_num, Lib.hid (HM1.out.put HX.out HBD.out)⟩, by simp [intOf]; omega⟩
        · have hwn : wAt (hybL l i) (i + 1) = 1 := wAt_none (by omega)
          have zn : (i : Int) + 1 ≥ (l.length : Int) := by omega
          have HBD : Hid (BadAt (hybL l i) i) := Lib.hid (by unfold BadAt; omega)
          clear hx hwx hwn w0 hL
          go_wp2_with fail
          refine (rBlank_c x.pen wr).mono ?_
          rintro e v1 ⟨rfl, hv1⟩
          have HM1 := Lib.hid (HM.out.on hv1)
          clear hv1 zn w1 w2 w3 k3 k4 k5 k6 HM
          obtain ⟨f0, f1, f2, f3, f4, f5, f6⟩ := HM1.out.free i hpos
          obtain ⟨m0, m1, m2, m3, m4, m5, m6⟩ := HM1.out.cells HX.out
          go_wp2_with fail
          exact ⟨⟨i + 1, by omega, by go_num, Lib.hid (HM1.out.put HX.out HBD.out)⟩, by simp [intOf]; omega⟩
      · have w2 : (x.w == 2) = false := beq_eq_false_iff_ne.2 w0
        have w1 : True := trivial
        by_cases hx0 : x.w = 0
        · have w3 : (x.w == 0) = true := by rw [hx0]; rfl
          by_cases hi0 : i = 0
          · have HBD : Hid (BadAt (hybL l i) i) := Lib.hid (by unfold BadAt; omega)
            have zi : ((i : Int) == 0) = true := by rw [hi0]; rfl
            clear hx hwx w0 hx0 hL hi0
            go_wp2_with fail
            refine (rBlank_c x.pen wr).mono ?_
            rintro e v1 ⟨rfl, hv1⟩
            have HM1 := Lib.hid (HM.out.on hv1)
            clear hv1 zi w1 w2 w3 k3 k4 k5 k6 HM
            obtain ⟨f0, f1, f2, f3, f4, f5, f6⟩ := HM1.out.free i hpos
            obtain ⟨m0, m1, m2, m3, m4, m5, m6⟩ := HM1.out.cells HX.out
            go_wp2_with fail
            exact ⟨⟨i + 1, by omega, by go_num, Lib.hid (HM1.out.put HX.out HBD.out)⟩, by simp [intOf]; omega⟩
          · obtain ⟨j, rfl⟩ : ∃ j, i = j + 1 := ⟨i - 1, by omega⟩
            obtain ⟨y, hy⟩ : ∃ y, (hybL l (j + 1))[j]? = some y := ⟨_, List.getElem?_eq_getElem (by omega)⟩
            have hwy : wAt (hybL l (j + 1)) (j + 1 - 1) = y.w := wAt_some hy
            obtain ⟨-, -, -, n3, -, -, -⟩ := HM.out.cells hy
            have zi : ((j : Int) + 1 == 0) = false := beq_eq_false_iff_ne.2 (by omega)
            have ej : ((j + 1 : Nat) : Int) = (j : Int) + 1 := by omega
            simp only [ej] at z1 ⊢
            by_cases hy0 : y.w = 2
            · have w4 : (y.w != 2) = false := by rw [hy0]; rfl
              have HNB : Hid (¬ BadAt (hybL l (j + 1)) (j + 1)) := Lib.hid (by unfold BadAt; omega)
              clear hx hy hwx hwy w0 hy0 hL hx0 hi0 ej
              go_wp2_with fail
              exact ⟨⟨j + 1 + 1, by omega, by go_num, Lib.hid (HM.out.skip HNB.out)⟩, by simp [intOf]; omega⟩
            · have w4 : (y.w != 2) = true := bne_iff_ne.2 hy0
              have HBD : Hid (BadAt (hybL l (j + 1)) (j + 1)) := Lib.hid (by unfold BadAt; omega)
              clear hx hy hwx hwy w0 hy0 hL hx0 hi0 ej
              go_wp2_with fail
              refine (rBlank_c x.pen wr).mono ?_
              rintro e v1 ⟨rfl, hv1⟩
              have HM1 := Lib.hid (HM.out.on hv1)
              clear hv1 w4 n3 zi w1 w2 w3 k3 k4 k5 k6 HM
              obtain ⟨f0, f1, f2, f3, f4, f5, f6⟩ := HM1.out.free (j + 1) hpos
              obtain ⟨m0, m1, m2, m3, m4, m5, m6⟩ := HM1.out.cells HX.out
              go_wp2_with fail
              exact ⟨⟨j + 1 + 1, by omega, by go_num, Lib.hid (HM1.out.put HX.out HBD.out)⟩, by simp [intOf]; omega⟩
        · have w3 : (x.w == 0) = false := beq_eq_false_iff_ne.2 hx0
          have HNB : Hid (¬ BadAt (hybL l i) i) := Lib.hid (by unfold BadAt; omega)
          clear hx hwx w0 hx0 hL
          go_wp2_with fail
          exact ⟨⟨i + 1, by omega, by go_num, Lib.hid (HM.out.skip HNB.out)⟩, by simp [intOf]; omega⟩
    · obtain rfl : i = l.length := by omega
      have z1 : ¬ (l.length : Int) < (l.length : Int) := by omega
      have hown := HM.out.own
      rw [hyb_all] at hown
      have hwith := fun V => rWith_c ⟨l, y1, y2, y3⟩ A B c d (mendL l) l.length (mend_len l).symm V
      simp only at hwith
      obtain ⟨j0, j1, j2, j3⟩ : wr.cell? ⟨w.heap.size, 0, none⟩ = some (.slice A l.length c) ∧ wr.cell? ⟨w.heap.size, 1, none⟩ = some (.bool y1) ∧ wr.cell? ⟨w.heap.size, 2, none⟩ = some (.int .i64 y2) ∧ wr.cell? ⟨w.heap.size, 3, none⟩ = some (.bool y3) := ⟨HM.out.ba.cell 0, HM.out.ba.cell 1, HM.out.ba.cell 2, HM.out.ba.cell 3⟩
      have HE := Lib.hid (And.intro HM.out.bx (And.intro HM.out.bl hown))
      have HWI := Lib.hid hwith
      clear hown hwith HM
      go_wp2_with fail
      refine (HWI.out wr).mono ?_
      rintro e v1 ⟨rfl, hv1⟩
      have hx1 := HE.out.1.below hv1 HE.out.1.lt
      have hb1 := HE.out.2.1.trans (hv1.mono HE.out.2.1.size)
      have ho1 := HE.out.2.2.on hv1
      obtain ⟨f0, f1, f2, f3⟩ : v1.frozen? ⟨w.heap.size + 1, 0, none⟩ = false ∧ v1.frozen? ⟨w.heap.size + 1, 1, none⟩ = false ∧ v1.frozen? ⟨w.heap.size + 1, 2, none⟩ = false ∧ v1.frozen? ⟨w.heap.size + 1, 3, none⟩ = false := ⟨hx1.free 0, hx1.free 1, hx1.free 2, hx1.free 3⟩
      obtain ⟨m0, m1, m2, m3⟩ : v1.cell? ⟨w.heap.size + 1, 0, none⟩ = some (.slice none 0 0) ∧ v1.cell? ⟨w.heap.size + 1, 1, none⟩ = some (.bool false) ∧ v1.cell? ⟨w.heap.size + 1, 2, none⟩ = some (.int .i64 0) ∧ v1.cell? ⟨w.heap.size + 1, 3, none⟩ = some (.bool false) := ⟨hx1.cell 0, hx1.cell 1, hx1.cell 2, hx1.cell 3⟩
      have HP := Lib.hid (hx1.put4 hb1 (Nat.le_succ _) (.slice B l.length d) (.bool y1) (.int .i64 y2) (.bool y3))
      have HQ := Lib.hid (ho1.far4 hx1 (by decide) (.slice B l.length d) (.bool y1) (.int .i64 y2) (.bool y3))
      clear hx1 hb1 ho1 hv1 j0 j1 j2 j3 HE HWI
      go_wp2_with fail
      refine bodyPost_ret (ret_rw rfl ⟨mendL l, y1, y2, y3⟩ B d _ _ (w.heap.size + 1) 35 rfl ?_) rfl ⟨B, d, rfl, HQ.out.in_, HP.out.2⟩
      have e : rwCells ⟨mendL l, y1, y2, y3⟩ B d = #[.slice B l.length d, .bool y1, .int .i64 y2, .bool y3] := by unfold rwCells; simp only [mend_len]
      rw [e]
      exact HP.out.1
end Go.Proofs.Ytcadbapccdclaaa
