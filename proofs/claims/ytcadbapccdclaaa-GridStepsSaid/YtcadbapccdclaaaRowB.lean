/- Package row, walked: blanks. -/
import Derived.Test.YtcadbapccdclaaaRowA
import Derived.Test.YtcadbapccdclaaaMath08e
namespace Go.Proofs.Ytcadbapccdclaaa
open Go Go.RowKit
set_option linter.unusedVariables false
set_option linter.unusedSimpArgs false

/- Blanks. -/
structure BkM (w wr : World) (n i : Nat) (p : Pn) : Prop where
  own : OwnC wr w.heap.size (some ⟨w.heap.size + 1, 0, none⟩) n (List.replicate i (blankC p) ++ List.replicate (n - i) zeroC)
  bx : Box wr w.heap.size 31 #[.int .i64 p.fg, .int .i64 p.bg, .int .i64 p.fl]
  bl : Below w.heap.size w wr
theorem BkM.on {w wr v : World} {n i : Nat} {p : Pn} (h : BkM w wr n i p) (hv : Below wr.heap.size wr v) : BkM w v n i p :=
  ⟨h.own.on hv, h.bx.below hv h.bx.lt, h.bl.trans (hv.mono h.bl.size)⟩
theorem BkM.put {w wr : World} {n i : Nat} {p : Pn} (h : BkM w wr n i p) (hi : i < n) : BkM w (putC wr (w.heap.size + 1) i (blankC p)) n (i + 1) p := by
  have ho := h.own.put (k := i) (by simp; omega) (blankC p)
  rw [rep_set n i _ _ hi] at ho
  refine ⟨ho, ?_, putC_below h.bl (by omega)⟩
  have hg : w.heap.size ≠ w.heap.size + 1 := by omega
  unfold putC
  exact ((((((h.bx.far (p := ⟨_, _, none⟩) hg _).far (p := ⟨_, _, none⟩) hg _).far (p := ⟨_, _, none⟩) hg _).far (p := ⟨_, _, none⟩) hg _).far (p := ⟨_, _, none⟩) hg _).far (p := ⟨_, _, none⟩) hg _).far (p := ⟨_, _, none⟩) hg _
theorem BkM.cells {w wr : World} {n i : Nat} {p : Pn} (h : BkM w wr n i p) (hi : i < n) :
    (wr.frozen? ⟨w.heap.size + 1, i * 7, none⟩ = false ∧ wr.frozen? ⟨w.heap.size + 1, i * 7 + 1, none⟩ = false ∧ wr.frozen? ⟨w.heap.size + 1, i * 7 + 2, none⟩ = false ∧ wr.frozen? ⟨w.heap.size + 1, i * 7 + 3, none⟩ = false ∧
    wr.frozen? ⟨w.heap.size + 1, i * 7 + 4, none⟩ = false ∧ wr.frozen? ⟨w.heap.size + 1, i * 7 + 5, none⟩ = false ∧ wr.frozen? ⟨w.heap.size + 1, i * 7 + 6, none⟩ = false) ∧
    (wr.cell? ⟨w.heap.size + 1, i * 7, none⟩ = some (.int .i64 0) ∧ wr.cell? ⟨w.heap.size + 1, i * 7 + 1, none⟩ = some (.int .i64 0) ∧ wr.cell? ⟨w.heap.size + 1, i * 7 + 2, none⟩ = some (.int .i64 0) ∧ wr.cell? ⟨w.heap.size + 1, i * 7 + 3, none⟩ = some (.int .i64 0) ∧
    wr.cell? ⟨w.heap.size + 1, i * 7 + 4, none⟩ = some (.int .i64 0) ∧ wr.cell? ⟨w.heap.size + 1, i * 7 + 5, none⟩ = some (.int .i64 0) ∧ wr.cell? ⟨w.heap.size + 1, i * 7 + 6, none⟩ = some (.int .i64 0)) := by
  have hx : (List.replicate i (blankC p) ++ List.replicate (n - i) zeroC)[i]? = some zeroC := by
    rw [List.getElem?_append_right (by simp), List.length_replicate, Nat.sub_self, List.getElem?_replicate, if_pos (by omega)]
  obtain ⟨g', e, _, _, hf⟩ := h.own.at_ (by intro h0; rw [h0] at hx; simp at hx)
  injection e with e
  injection e with e1
  subst e1
  obtain ⟨b, o, e, _, hc⟩ := h.own.in_.at_ hx
  injection e with e
  injection e with e1 e2
  subst e1; subst e2
  refine ⟨⟨hf _, hf _, hf _, hf _, hf _, hf _, hf _⟩, ?_⟩
  simp only [Nat.zero_add] at hc
  exact hc
def Gives8B (n : Nat) (p : Pn) (W : World) (e : Ending) (w' : World) : Prop := ∃ A c, e = .returned (.slice A n c) ∧ InC w' A c (List.replicate n (blankC p)) ∧ Below W.heap.size W w'
/-- Blanks, in a block of the call's own. -/
def Gives8O (n : Nat) (p : Pn) (W : World) (e : Ending) (w' : World) : Prop := ∃ A c, e = .returned (.slice A n c) ∧ OwnC w' W.heap.size A c (List.replicate n (blankC p)) ∧ Below W.heap.size W w'
set_option maxRecDepth 100000 in
set_option maxHeartbeats 1000000 in
theorem blanks8_o (n : Nat) (hn : n ≤ 8192) (p : Pn) (w : World) : Calls Try.prog 40 #[.int .i64 (n : Int), .agg #[.int .i64 p.fg, .int .i64 p.bg, .int .i64 p.fl]] w (Gives8O n p w) := by
  have hb0 : Box (w.alloc (.cells #[.int .i64 p.fg, .int .i64 p.bg, .int .i64 p.fl] 31)) w.heap.size 31 #[.int .i64 p.fg, .int .i64 p.bg, .int .i64 p.fl] := Box.new w _ _
  have hb1 : Below w.heap.size w (w.alloc (.cells #[.int .i64 p.fg, .int .i64 p.bg, .int .i64 p.fl] 31)) := (Below.refl _ _).alloc (Nat.le_refl _) _
  have hs : (w.alloc (.cells #[.int .i64 p.fg, .int .i64 p.bg, .int .i64 p.fl] 31)).heap.size = w.heap.size + 1 := by simp
  have HB := Lib.hid (And.intro hb0 (And.intro hb1 hs))
  clear hb0 hb1 hs
  go_enter Try.func40, Try.ntmps40
  go_upto_region 1 with fail
  generalize w.alloc (.cells #[.int .i64 p.fg, .int .i64 p.bg, .int .i64 p.fl] 31) = W at *
  have hs := HB.out.2.2
  go_wp2_with (refine wpList_make_cells rfl _ _ rfl w.heap.size n .i64 .i64 _ _ rfl rfl rfl rfl (by omega) (by omega) ?_)
  intro w2 hown hbel
  have HM0 : Hid (BkM w w2 n 0 p) := Lib.hid ⟨by simpa using hown, HB.out.1.below hbel (by omega), HB.out.2.1.trans (hbel.mono (by omega))⟩
  clear hown hbel HB hs
  go_wp2_with fail
  go_loopw [11] (fun u11 wr => ∃ i : Nat, i ≤ n ∧ u11 = .int .i64 (i : Int) ∧ Hid (BkM w wr n i p)) (fun u11 _ => n - (intOf u11).toNat)
  case atStart => exact ⟨0, Nat.zero_le _, rfl, HM0⟩
  case round =>
    obtain ⟨i, hi, rfl, HM⟩ := hrel
    clear HM0
    by_cases hlt : i < n
    · have z1 : (i : Int) < (n : Int) := by omega
      obtain ⟨k0, k1, k2⟩ : wr.cell? ⟨w.heap.size, 0, none⟩ = some (.int .i64 p.fg) ∧ wr.cell? ⟨w.heap.size, 1, none⟩ = some (.int .i64 p.bg) ∧ wr.cell? ⟨w.heap.size, 2, none⟩ = some (.int .i64 p.fl) := ⟨HM.out.bx.cell 0, HM.out.bx.cell 1, HM.out.bx.cell 2⟩
      go_wp2_with fail
      refine (blank8_p p wr).mono ?_
      rintro e v1 ⟨rfl, hv1⟩
      have HM1 := Lib.hid (HM.out.on hv1)
      clear hv1 k0 k1 k2 HM
      obtain ⟨⟨f0, f1, f2, f3, f4, f5, f6⟩, m0, m1, m2, m3, m4, m5, m6⟩ := HM1.out.cells hlt
      go_wp2_with fail
      exact ⟨⟨i + 1, by omega, by go_num, Lib.hid (HM1.out.put hlt)⟩, by simp [intOf]; omega⟩
    · obtain rfl : i = n := by omega
      have z1 : ¬ (i : Int) < (i : Int) := by omega
      go_wp2_with fail
      go_ret
      refine ⟨_, _, rfl, ?_, HM.out.bl⟩
      have := HM.out.own
      simpa using this
theorem blanks8_c (n : Nat) (hn : n ≤ 8192) (p : Pn) (w : World) : Calls Try.prog 40 #[.int .i64 (n : Int), .agg #[.int .i64 p.fg, .int .i64 p.bg, .int .i64 p.fl]] w (Gives8B n p w) :=
  (blanks8_o n hn p w).mono fun e w' ⟨A, c, he, ho, hb⟩ => ⟨A, c, he, ho.in_, hb⟩
end Go.Proofs.Ytcadbapccdclaaa
