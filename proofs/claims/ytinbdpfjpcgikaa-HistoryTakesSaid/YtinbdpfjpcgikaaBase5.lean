/- Package history, walked: a row, from the last one on. What is kept, in a call's own variables. Package history, walked: none. Rows turned round, in their place. Package history, walked: the last rows that may be. Package history, walked: Push. The document's Cells and Same, walked. The document's Few and Same of rows, walked. The document's blank cell and letter, walked. A row is mended as the document says, walked. -/
import Derived.Test.YtinbdpfjpcgikaaBase4
import Derived.Laws.ResultCell
import Derived.Test.YtinbdpfjpcgikaaChecked
import Derived.Deep.DeepCutAuto
namespace Go.Proofs.Ytinbdpfjpcgikaa
open Go Go.RowKit
set_option linter.unusedVariables false
set_option linter.unusedSimpArgs false

theorem retR10 {fn : Func} {p u : Tmp} (h : fn.results = #[.cell p 35, .tmp u]) (A : Option Addr) (n c : Nat) (b1 : Bool) (i : Int) (b2 : Bool) (tmps : Array Value) (W : World) (g : Nat) (t : TypeId) (x : Value) (hp : tmps.getD p undef = .pointer (some ⟨g, 0, none⟩)) (hx : tmps.getD u undef = x) (hg : Box W g t #[.slice A n c, .bool b1, .int .i64 i, .bool b2]) :
    (results fn tmps).run Try.prog W = .ok (.tuple #[.agg #[.slice A n c, .bool b1, .int .i64 i, .bool b2], x]) W := by
  rw [results_cell_tmp h, hp, hx]
  have := run_loadVar_row (P := Try.prog) W g t 35 #[.slice A n c, .bool b1, .int .i64 i, .bool b2] (0, 0) _ hg Try.underlying35 rfl (by kernel_rfl)
  simp [asAddr, Result.andThen, this]
/-- What is kept in the call's own variable, and a row's place. -/
structure At10M (w W : World) (A : Option Addr) (c : Nat) (es : List Rl) (m : Int) : Prop where
  b1 : Box W w.heap.size 27 #[.slice A es.length c, .int .i64 m]
  b2 : Box W (w.heap.size + 1) 35 #[.slice none 0 0, .bool false, .int .i64 0, .bool false]
  ik : InG W A c es
  bl : Below w.heap.size w W
theorem At10M.on {w W V : World} {A : Option Addr} {c : Nat} {es : List Rl} {m : Int} (h : At10M w W A c es m) (hb : Below W.heap.size W V) : At10M w V A c es m :=
  ⟨h.b1.below hb h.b1.lt, h.b2.below hb h.b2.lt, h.ik.on hb, h.bl.trans (hb.mono h.bl.size)⟩
theorem at10_not {k : Kp} {n : Int} (h : ¬ AtK k n) : atK k n = zeroR := by unfold atK; rw [if_neg h]
set_option maxRecDepth 100000 in
set_option maxHeartbeats 1000000 in
theorem at10_c : At10C := by
  intro A c es m n w hin hok hm hes hn
  have hbl : Below w.heap.size w ((w.alloc (.cells #[.slice A es.length c, .int .i64 m] 27)).alloc (.cells #[.slice none 0 0, .bool false, .int .i64 0, .bool false] 35)) := ((Below.refl _ _).alloc (Nat.le_refl _) _).alloc (by simp) _
  have HK : Hid (At10M w ((w.alloc (.cells #[.slice A es.length c, .int .i64 m] 27)).alloc (.cells #[.slice none 0 0, .bool false, .int .i64 0, .bool false] 35)) A c es m) := Lib.hid ⟨(Box.new w _ _).alloc _, box8_1 w _ _ _, hin.on hbl, hbl⟩
  have hmax := hin.rows.max
  have hcap := hin.rows.cap
  unfold maxLen at hmax
  unfold I64 at hn
  obtain ⟨hn0, hn1⟩ := hn
  have hs := fun V hI => sane10_c A c es m V hI hok hm hes
  have HSS := Lib.hid hs
  generalize hD : decide (AtK ⟨rws es, m⟩ n) = D
  generalize hR : atK ⟨rws es, m⟩ n = R
  have HD := Lib.hid (And.intro hD hR)
  clear hbl hin hok hm hs hD hR
  have fin : ∀ W, At10M w W A c es m → R = zeroR → ∃ x : Rl, (Ending.returned (.tuple #[.agg #[.slice none 0 0, .bool false, .int .i64 0, .bool false], .bool false]) : Ending) = .returned (.tuple #[.agg #[.slice x.A x.r.cs.length x.c, .bool x.r.wrap, .int .i64 x.r.dir, .bool x.r.ex], .bool false]) ∧ InC ((((W.setCell ⟨w.heap.size + 1, 0, none⟩ (.slice none 0 0)).setCell ⟨w.heap.size + 1, 1, none⟩ (.bool false)).setCell ⟨w.heap.size + 1, 2, none⟩ (.int .i64 0)).setCell ⟨w.heap.size + 1, 3, none⟩ (.bool false)) x.A x.c x.r.cs ∧ x.r = R ∧ Below w.heap.size w ((((W.setCell ⟨w.heap.size + 1, 0, none⟩ (.slice none 0 0)).setCell ⟨w.heap.size + 1, 1, none⟩ (.bool false)).setCell ⟨w.heap.size + 1, 2, none⟩ (.int .i64 0)).setCell ⟨w.heap.size + 1, 3, none⟩ (.bool false)) := fun W hK hR => ⟨⟨none, 0, zeroR⟩, rfl, InC.nil (Nat.zero_le _), hR.symm, (hK.b2.put4r hK.bl (Nat.le_succ _) _ _ _ _).2⟩
  have FIN := Lib.hid fin
  clear fin
  go_enter Try.func12, Try.ntmps12
  go_upto_region 1 with fail
  generalize (w.alloc (.cells #[.slice A es.length c, .int .i64 m] 27)).alloc (.cells #[.slice none 0 0, .bool false, .int .i64 0, .bool false] 35) = W at *
  obtain ⟨k0, k1⟩ : W.cell? ⟨w.heap.size, 0, none⟩ = some (.slice A es.length c) ∧ W.cell? ⟨w.heap.size, 1, none⟩ = some (.int .i64 m) := ⟨HK.out.b1.cell 0, HK.out.b1.cell 1⟩
  have h1 := HSS.out W HK.out.ik
  cases hq : decide (SaneK ⟨rws es, m⟩) with
  | false =>
    rw [hq] at h1
    have HF : Hid (D = false ∧ R = zeroR) := Lib.hid (by
      have hne : ¬ AtK ⟨rws es, m⟩ n := fun h => of_decide_eq_false hq h.1
      exact ⟨by rw [← HD.out.1]; exact decide_eq_false hne, by rw [← HD.out.2]; exact at10_not hne⟩)
    clear hq
    go_wp2_with fail
    refine h1.mono ?_
    rintro e v1 ⟨rfl, hb⟩
    have HK1 := Lib.hid (HK.out.on hb)
    clear hb h1 k0 k1 HK
    obtain ⟨⟨f0, f1, f2, f3⟩, j0, j1, j2, j3⟩ : (v1.frozen? ⟨w.heap.size + 1, 0, none⟩ = false ∧ v1.frozen? ⟨w.heap.size + 1, 1, none⟩ = false ∧ v1.frozen? ⟨w.heap.size + 1, 2, none⟩ = false ∧ v1.frozen? ⟨w.heap.size + 1, 3, none⟩ = false) ∧ v1.cell? ⟨w.heap.size + 1, 0, none⟩ = some (.slice none 0 0) ∧ v1.cell? ⟨w.heap.size + 1, 1, none⟩ = some (.bool false) ∧ v1.cell? ⟨w.heap.size + 1, 2, none⟩ = some (.int .i64 0) ∧ v1.cell? ⟨w.heap.size + 1, 3, none⟩ = some (.bool false) := ⟨⟨HK1.out.b2.free 0, HK1.out.b2.free 1, HK1.out.b2.free 2, HK1.out.b2.free 3⟩, HK1.out.b2.cell 0, HK1.out.b2.cell 1, HK1.out.b2.cell 2, HK1.out.b2.cell 3⟩
    go_wp2_with fail
    have hf := FIN.out v1 HK1.out HF.out.2
    rw [HF.out.1]
    exact bodyPost_ret (retR10 rfl none 0 0 false 0 false _ _ (w.heap.size + 1) 35 (.bool false) rfl rfl (HK1.out.b2.put4r HK1.out.bl (Nat.le_succ _) _ _ _ _).1) rfl hf
  | true =>
    rw [hq] at h1
    have HS := Lib.hid (of_decide_eq_true hq)
    clear hq
    go_wp2_with fail
    refine h1.mono ?_
    rintro e v1 ⟨rfl, hb⟩
    have HK1 := Lib.hid (HK.out.on hb)
    clear hb h1 k0 k1 HK
    obtain ⟨k0, k1⟩ : v1.cell? ⟨w.heap.size, 0, none⟩ = some (.slice A es.length c) ∧ v1.cell? ⟨w.heap.size, 1, none⟩ = some (.int .i64 m) := ⟨HK1.out.b1.cell 0, HK1.out.b1.cell 1⟩
    obtain ⟨⟨f0, f1, f2, f3⟩, j0, j1, j2, j3⟩ : (v1.frozen? ⟨w.heap.size + 1, 0, none⟩ = false ∧ v1.frozen? ⟨w.heap.size + 1, 1, none⟩ = false ∧ v1.frozen? ⟨w.heap.size + 1, 2, none⟩ = false ∧ v1.frozen? ⟨w.heap.size + 1, 3, none⟩ = false) ∧ v1.cell? ⟨w.heap.size + 1, 0, none⟩ = some (.slice none 0 0) ∧ v1.cell? ⟨w.heap.size + 1, 1, none⟩ = some (.bool false) ∧ v1.cell? ⟨w.heap.size + 1, 2, none⟩ = some (.int .i64 0) ∧ v1.cell? ⟨w.heap.size + 1, 3, none⟩ = some (.bool false) := ⟨⟨HK1.out.b2.free 0, HK1.out.b2.free 1, HK1.out.b2.free 2, HK1.out.b2.free 3⟩, HK1.out.b2.cell 0, HK1.out.b2.cell 1, HK1.out.b2.cell 2, HK1.out.b2.cell 3⟩
    rcases (show n < 0 ∨ (0 ≤ n ∧ (es.length : Int) ≤ n) ∨ (0 ≤ n ∧ n < es.length) by omega) with q | ⟨q, q'⟩ | ⟨q, q'⟩
    · have HF : Hid (D = false ∧ R = zeroR) := Lib.hid (by
        have hne : ¬ AtK ⟨rws es, m⟩ n := fun h => by have := h.2.1; omega
        exact ⟨by rw [← HD.out.1]; exact decide_eq_false hne, by rw [← HD.out.2]; exact at10_not hne⟩)
      go_wp2_with fail
      have hf := FIN.out v1 HK1.out HF.out.2
      rw [HF.out.1]
      exact bodyPost_ret (retR10 rfl none 0 0 false 0 false _ _ (w.heap.size + 1) 35 (.bool false) rfl rfl (HK1.out.b2.put4r HK1.out.bl (Nat.le_succ _) _ _ _ _).1) rfl hf
    · have HF : Hid (D = false ∧ R = zeroR) := Lib.hid (by
        have hne : ¬ AtK ⟨rws es, m⟩ n := fun h => by have := h.2.2; simp only [rws_length] at this; omega
        exact ⟨by rw [← HD.out.1]; exact decide_eq_false hne, by rw [← HD.out.2]; exact at10_not hne⟩)
      have z0 : ¬ n < 0 := by omega
      have z1 : n ≥ (es.length : Int) := by omega
      go_wp2_with fail
      have hf := FIN.out v1 HK1.out HF.out.2
      rw [HF.out.1]
      exact bodyPost_ret (retR10 rfl none 0 0 false 0 false _ _ (w.heap.size + 1) 35 (.bool false) rfl rfl (HK1.out.b2.put4r HK1.out.bl (Nat.le_succ _) _ _ _ _).1) rfl hf
    · obtain ⟨N, rfl⟩ : ∃ N : Nat, n = N := ⟨n.toNat, by omega⟩
      have ha : AtK ⟨rws es, m⟩ (N : Int) := ⟨HS.out, q, by simp only [rws_length]; exact q'⟩
      obtain ⟨i, hi⟩ : ∃ i : Nat, es.length - 1 - N = i := ⟨_, rfl⟩
      have hii : (es.length : Int) - 1 - (N : Int) = (i : Int) := by omega
      have hil : i < es.length := by omega
      obtain ⟨x, hx⟩ : ∃ x, es[i]? = some x := ⟨_, List.getElem?_eq_getElem hil⟩
      have HF : Hid (D = true ∧ R = x.r) := Lib.hid ⟨by rw [← HD.out.1]; exact decide_eq_true ha, by
        rw [← HD.out.2]
        unfold atK
        rw [if_pos ha]
        simp only [rws_length, Int.toNat_natCast]
        rw [hi, rws_at hx]
        rfl⟩
      have z0 : ¬ (N : Int) < 0 := by omega
      have z1 : ¬ (N : Int) ≥ (es.length : Int) := by omega
      have zi : (i : Int) < (es.length : Int) := by omega
      obtain ⟨b, o, rfl, hB, p0, p1, p2, p3⟩ := HK1.out.ik.rows.at_ hx
      have HXI := Lib.hid (HK1.out.ik.els x (List.mem_of_getElem? hx))
      clear ha hi hx hB
      go_wp2_with fail
      rw [HF.out.1, HF.out.2]
      have hp4 := HK1.out.b2.put4r HK1.out.bl (Nat.le_succ _) (.slice x.A x.r.cs.length x.c) (.bool x.r.wrap) (.int .i64 x.r.dir) (.bool x.r.ex)
      refine bodyPost_ret (retR10 rfl x.A x.r.cs.length x.c x.r.wrap x.r.dir x.r.ex _ _ (w.heap.size + 1) 35 (.bool true) rfl rfl hp4.1) rfl ⟨x, rfl, HXI.out.far4 HK1.out.b2 (by simp) _ _ _ _, rfl, hp4.2⟩
end Go.Proofs.Ytinbdpfjpcgikaa

namespace Go.Proofs.Ytinbdpfjpcgikaa
open Go Go.RowKit
set_option linter.unusedVariables false
set_option linter.unusedSimpArgs false

theorem retK10 {fn : Func} {p : Tmp} (h : fn.results = #[.cell p 27]) (A : Option Addr) (n c : Nat) (m : Int) (tmps : Array Value) (W : World) (g : Nat) (t : TypeId) (hp : tmps.getD p undef = .pointer (some ⟨g, 0, none⟩)) (hg : Box W g t #[.slice A n c, .int .i64 m]) :
    (results fn tmps).run Try.prog W = .ok (.agg #[.slice A n c, .int .i64 m]) W :=
  results_cell_row h tmps W g t #[.slice A n c, .int .i64 m] (0, 0) _ hp hg Try.underlying27 rfl (by kernel_rfl)
theorem box10_1 (w : World) (o : Obj) (t : TypeId) (cs : Array Value) : Box ((w.alloc o).alloc (.cells cs t)) (w.heap.size + 1) t cs := by
  have h := Box.new (w.alloc o) t cs
  simpa using h
/-- What is kept, and the answer's place. -/
structure Kp10M (w W : World) (A : Option Addr) (c : Nat) (es : List Rl) (m : Int) : Prop where
  b1 : Box W w.heap.size 27 #[.slice A es.length c, .int .i64 m]
  b2 : Box W (w.heap.size + 1) 27 #[.slice none 0 0, .int .i64 0]
  ik : InG W A c es
  bl : Below w.heap.size w W
theorem Kp10M.on {w W V : World} {A : Option Addr} {c : Nat} {es : List Rl} {m : Int} (h : Kp10M w W A c es m) (hb : Below W.heap.size W V) : Kp10M w V A c es m :=
  ⟨h.b1.below hb h.b1.lt, h.b2.below hb h.b2.lt, h.ik.on hb, h.bl.trans (hb.mono h.bl.size)⟩
theorem Kp10M.new {w : World} {A : Option Addr} {c : Nat} {es : List Rl} {m : Int} (h : InG w A c es) : Kp10M w ((w.alloc (.cells #[.slice A es.length c, .int .i64 m] 27)).alloc (.cells #[.slice none 0 0, .int .i64 0] 27)) A c es m :=
  have hb : Below w.heap.size w ((w.alloc (.cells #[.slice A es.length c, .int .i64 m] 27)).alloc (.cells #[.slice none 0 0, .int .i64 0] 27)) := ((Below.refl _ _).alloc (Nat.le_refl _) _).alloc (by simp) _
  ⟨(Box.new w _ _).alloc _, box10_1 w _ _ _, h.on hb, hb⟩
end Go.Proofs.Ytinbdpfjpcgikaa

namespace Go.Proofs.Ytinbdpfjpcgikaa
open Go Go.RowKit
set_option linter.unusedVariables false
set_option linter.unusedSimpArgs false

set_option maxRecDepth 100000 in
set_option maxHeartbeats 1000000 in
theorem new10_c : New10C := by
  intro n w hn
  have hw := fun V => within10_c n 200 V hn (by unfold I64; decide)
  have hbl : Below w.heap.size w (w.alloc (.cells #[.slice none 0 0, .int .i64 0] 27)) := (Below.refl _ _).alloc (Nat.le_refl _) _
  have HB := Lib.hid (And.intro (Box.new w 27 #[.slice none 0 0, .int .i64 0]) hbl)
  unfold newK
  generalize max 0 (min n 200) = K at *
  clear hbl hn
  go_enter Try.func26, Try.ntmps26
  go_upto_region 1 with fail
  generalize w.alloc (.cells #[.slice none 0 0, .int .i64 0] 27) = W at *
  have h1 := hw W
  go_wp2_with fail
  refine h1.mono ?_
  rintro e v1 ⟨rfl, rfl⟩
  obtain ⟨f0, f1, j0, j1⟩ : W.frozen? ⟨w.heap.size, 0, none⟩ = false ∧ W.frozen? ⟨w.heap.size, 1, none⟩ = false ∧ W.cell? ⟨w.heap.size, 0, none⟩ = some (.slice none 0 0) ∧ W.cell? ⟨w.heap.size, 1, none⟩ = some (.int .i64 0) := ⟨HB.out.1.free 0, HB.out.1.free 1, HB.out.1.cell 0, HB.out.1.cell 1⟩
  clear hw h1
  go_wp2_with fail
  refine bodyPost_ret (retK10 rfl none 0 0 K _ _ w.heap.size 27 rfl ((HB.out.1.set_ 0 (.slice none 0 0)).set_ 1 (.int .i64 K))) rfl ⟨none, 0, [], rfl, InG.nil (Nat.zero_le _), rfl, (HB.out.2.setCell (p := ⟨w.heap.size, 0, none⟩) (Nat.le_refl _) _).setCell (p := ⟨w.heap.size, 1, none⟩) (Nat.le_refl _) _⟩
end Go.Proofs.Ytinbdpfjpcgikaa

namespace Go.Proofs.Ytinbdpfjpcgikaa
open Go Go.RowKit
set_option linter.unusedVariables false
set_option linter.unusedSimpArgs false

theorem OwnG.cells4 {w : World} {base g d : Nat} {l : List Rl} (h : OwnG w base (some ⟨g, 0, none⟩) d l) {k : Nat} {e : Rl} (hk : l[k]? = some e) :
    (w.frozen? ⟨g, k * 4, none⟩ = false ∧ w.frozen? ⟨g, k * 4 + 1, none⟩ = false ∧ w.frozen? ⟨g, k * 4 + 2, none⟩ = false ∧ w.frozen? ⟨g, k * 4 + 3, none⟩ = false) ∧
    (w.cell? ⟨g, k * 4, none⟩ = some (.slice e.A e.r.cs.length e.c) ∧ w.cell? ⟨g, k * 4 + 1, none⟩ = some (.bool e.r.wrap) ∧ w.cell? ⟨g, k * 4 + 2, none⟩ = some (.int .i64 e.r.dir) ∧ w.cell? ⟨g, k * 4 + 3, none⟩ = some (.bool e.r.ex)) := by
  obtain ⟨g', e1, _, _, hf⟩ := h.at_ (by rintro rfl; simp at hk)
  injection e1 with e1
  injection e1 with e1
  subst e1
  obtain ⟨b, o, e2, _, hc⟩ := h.in_.at_ hk
  injection e2 with e2
  injection e2 with e2 e3
  subst e2; subst e3
  simp only [Nat.zero_add] at hc
  exact ⟨⟨hf _, hf _, hf _, hf _⟩, hc⟩
/-- Turned so far: the outer i on either side. -/
def TurnL (es cur : List Rl) (i : Nat) : Prop := cur.length = es.length ∧ ∀ t, cur[t]? = if t < i ∨ es.length - i ≤ t then es.reverse[t]? else es[t]?
theorem TurnL.zero (es : List Rl) : TurnL es es 0 := ⟨rfl, fun t => by
  by_cases h : es.length ≤ t
  · rw [if_pos (by omega), List.getElem?_eq_none h, List.getElem?_eq_none (by simpa using h)]
  · rw [if_neg (by omega)]⟩
theorem TurnL.last {es cur : List Rl} {i : Nat} (h : TurnL es cur i) (hi : es.length ≤ 2 * i + 1) : cur = es.reverse := by
  apply List.ext_getElem?
  intro t
  rw [h.2 t]
  by_cases q : t < i ∨ es.length - i ≤ t
  · rw [if_pos q]
  · rw [if_neg q, List.getElem?_reverse (by omega)]
    congr 1
    omega
theorem TurnL.step {es cur : List Rl} {i j : Nat} (h : TurnL es cur i) (hj : i + j + 1 = es.length) (hij : i < j) {x y : Rl} (hx : cur[i]? = some x) (hy : cur[j]? = some y) : TurnL es ((cur.set i y).set j x) (i + 1) := by
  have h1 := h.2 i
  have h2 := h.2 j
  rw [if_neg (by omega)] at h1 h2
  refine ⟨by simp [h.1], fun t => ?_⟩
  rw [List.getElem?_set, List.length_set, List.getElem?_set, h.1]
  by_cases q : j = t
  · subst q
    rw [if_pos rfl, if_pos (by omega), if_pos (by omega), List.getElem?_reverse (by omega), show es.length - 1 - j = i from by omega, ← h1, hx]
  · rw [if_neg q]
    by_cases q2 : i = t
    · subst q2
      rw [if_pos rfl, if_pos (by omega), if_pos (by omega), List.getElem?_reverse (by omega), show es.length - 1 - i = j from by omega, ← h2, hy]
    · rw [if_neg q2, h.2 t]
      by_cases q3 : t < i ∨ es.length - i ≤ t
      · rw [if_pos q3, if_pos (by omega)]
      · rw [if_neg q3, if_neg (by omega)]
set_option maxRecDepth 100000 in
set_option maxHeartbeats 1000000 in
theorem rev10_c (A : Option Addr) (c base : Nat) (es : List Rl) (w : World) (hown : OwnG w base A c es) (hl : es.length ≤ 1000000) :
    Calls Try.prog 40 #[.slice A es.length c] w fun e w' => e = .returned (.tuple #[]) ∧ OwnG w' base A c es.reverse ∧ Below base w w' := by
  obtain ⟨n, hn⟩ : ∃ n, es.length = n := ⟨_, rfl⟩
  have hcap := hown.cap
  have hbl0 : Below base w w := Below.refl _ _
  rw [hn] at hl hcap ⊢
  have HN := Lib.hid hn
  have HT0 : Hid (OwnG w base A c es ∧ Below base w w) := Lib.hid ⟨hown, hbl0⟩
  clear hown hn hbl0
  go_enter Try.func40, Try.ntmps40
  go_wp2_with fail
  go_loopw [2, 3] (fun u2 u3 wr => ∃ (i : Nat) (J : Int) (cur : List Rl), u2 = .int .i64 (i : Int) ∧ u3 = .int .i64 J ∧ Hid (J = (n : Int) - 1 - i ∧ i ≤ n) ∧ Hid (OwnG wr base A c cur ∧ Below base w wr) ∧ Hid (TurnL es cur i)) (fun u2 _ _ => n - (intOf u2).toNat)
  case atStart => exact ⟨0, _, es, rfl, rfl, Lib.hid ⟨by omega, Nat.zero_le _⟩, HT0, Lib.hid (TurnL.zero es)⟩
  case round =>
    obtain ⟨i, J, cur, rfl, rfl, HJ, HO, HT⟩ := hrel
    clear HT0
    by_cases hlt : (i : Int) < J
    · obtain ⟨j, rfl⟩ : ∃ j : Nat, J = j := ⟨J.toNat, by omega⟩
      have hij : i < j := by omega
      have hjn : j < n := by have := HJ.out.1; omega
      have zi : (i : Int) < (n : Int) := by omega
      have zj : (j : Int) < (n : Int) := by omega
      have hcl : cur.length = n := by rw [HT.out.1, HN.out]
      obtain ⟨x, hx⟩ : ∃ x, cur[i]? = some x := ⟨_, List.getElem?_eq_getElem (by omega)⟩
      obtain ⟨y, hy⟩ : ∃ y, cur[j]? = some y := ⟨_, List.getElem?_eq_getElem (by omega)⟩
      obtain ⟨g, rfl, hbg, hgw, -⟩ := HO.out.1.at_ (by rintro rfl; simp at hx)
      have HST := Lib.hid (HT.out.step (by have := HJ.out.1; have := HN.out; omega) hij hx hy)
      obtain ⟨⟨f0, f1, f2, f3⟩, p0, p1, p2, p3⟩ := HO.out.1.cells4 hx
      obtain ⟨-, q0, q1, q2, q3⟩ := HO.out.1.cells4 hy
      have HCL := Lib.hid hcl
      have HY := Lib.hid hy
      clear hx hy hcl HT
      have HB1 : Hid (Below g wr (putG wr g i y)) := Lib.hid (putG_below (Below.refl _ _) (Nat.le_refl _))
      have HP1 : Hid (OwnG (putG wr g i y) base (some ⟨g, 0, none⟩) c (cur.set i y)) := Lib.hid (HO.out.1.put (by have := HCL.out; omega) y)
      have HBB : Hid (Below base w (putG wr g i y)) := Lib.hid (putG_below HO.out.2 hbg)
      have HY2 : Hid ((cur.set i y)[j]? = some y) := Lib.hid (by rw [List.getElem?_set, if_neg (by omega)]; exact HY.out)
      go_wp2_with fail
      refine region_plan2 [([0, 1, 2, 3, 4, 5, 6, 8, 9, 10], [])] 5 7 11 [([], [11]), ([12], [13]), ([14], [15])] [([], [7]), ([12], [13]), ([14], [15])] (fun w' => ∃ u : Ext wr g, w' = u.val) (by kernel_rfl) (by kernel_rfl) (fun _ _ _ _ _ h => h) ⟨⟨_, (Below.refl _ _).drew⟩, rfl⟩ ?_
      simp only [wpPlanK, sel, List.take_succ_cons, List.take_zero, List.drop_succ_cons, List.drop_zero, List.cons_append, List.nil_append]
      repeat (go_big_quiet_step (fail))
      refine wpQuiet_nil ?_
      simp only [wpChain]
      refine ⟨?_, ?_⟩
      · go_wp2_with fail
        refine ⟨⟨⟨_, (Below.refl _ _).drew⟩, rfl⟩, ?_⟩
        simp only [wpPlan, sel, List.take_succ_cons, List.take_zero, List.drop_succ_cons, List.drop_zero, List.cons_append, List.nil_append]
        repeat (go_big_quiet_step (fail))
        refine wpQuiet_nil ?_
        unfold wpChain
        go_wp2_with fail
        refine ⟨⟨⟨_, (Below.refl _ _).drew⟩, rfl⟩, ?_⟩
        unfold wpChain
        repeat (go_big_quiet_step (fail))
        refine wpQuiet_nil ?_
        unfold wpChain
        go_wp2_with fail
        refine ⟨⟨⟨_, HB1.out.drew⟩, rfl⟩, ?_⟩
        unfold wpChain
        clear f0 f1 f2 f3 p0 p1 p2 p3 q0 q1 q2 q3
        obtain ⟨⟨f0, f1, f2, f3⟩, p0, p1, p2, p3⟩ := HP1.out.cells4 HY2.out
        unfold putG at HB1 HP1 HBB f0 f1 f2 f3 p0 p1 p2 p3
        generalize (((wr.setCell ⟨g, i * 4, none⟩ (.slice y.A y.r.cs.length y.c)).setCell ⟨g, i * 4 + 1, none⟩ (.bool y.r.wrap)).setCell ⟨g, i * 4 + 2, none⟩ (.int .i64 y.r.dir)).setCell ⟨g, i * 4 + 3, none⟩ (.bool y.r.ex) = V at *
        repeat (go_big_quiet_step (fail))
        refine wpQuiet_nil ?_
        unfold wpChain
        have HB2 : Hid (Below g wr (putG V g j x)) := Lib.hid (putG_below HB1.out (Nat.le_refl _))
        have HP2 : Hid (OwnG (putG V g j x).drew base (some ⟨g, 0, none⟩) c ((cur.set i y).set j x)) := Lib.hid ((HP1.out.put (by rw [List.length_set]; have := HCL.out; omega) x).on (Below.refl _ _).drew)
        have HB3 : Hid (Below base w (putG V g j x).drew) := Lib.hid ((putG_below HBB.out hbg).drew)
        go_wp2_with fail
        refine ⟨⟨⟨_, HB2.out.drew⟩, rfl⟩, ?_⟩
        unfold wpChain
        go_wp2_with fail
        exact ⟨⟨i + 1, _, _, by go_num, rfl, Lib.hid ⟨by have := HJ.out.1; omega, by omega⟩, Lib.hid ⟨HP2.out, HB3.out⟩, HST⟩, by simp [intOf]; omega⟩
      · go_wp2_with fail
        refine ⟨⟨⟨_, (Below.refl _ _).drew⟩, rfl⟩, ?_⟩
        simp only [wpPlan, sel, List.take_succ_cons, List.take_zero, List.drop_succ_cons, List.drop_zero, List.cons_append, List.nil_append]
        repeat (go_big_quiet_step (fail))
        refine wpQuiet_nil ?_
        unfold wpChain
        go_wp2_with fail
        refine ⟨⟨⟨_, (Below.refl _ _).drew⟩, rfl⟩, ?_⟩
        unfold wpChain
        repeat (go_big_quiet_step (fail))
        refine wpQuiet_nil ?_
        unfold wpChain
        go_wp2_with fail
        refine ⟨⟨⟨_, HB1.out.drew⟩, rfl⟩, ?_⟩
        unfold wpChain
        clear f0 f1 f2 f3 p0 p1 p2 p3 q0 q1 q2 q3
        obtain ⟨⟨f0, f1, f2, f3⟩, p0, p1, p2, p3⟩ := HP1.out.cells4 HY2.out
        unfold putG at HB1 HP1 HBB f0 f1 f2 f3 p0 p1 p2 p3
        generalize (((wr.setCell ⟨g, i * 4, none⟩ (.slice y.A y.r.cs.length y.c)).setCell ⟨g, i * 4 + 1, none⟩ (.bool y.r.wrap)).setCell ⟨g, i * 4 + 2, none⟩ (.int .i64 y.r.dir)).setCell ⟨g, i * 4 + 3, none⟩ (.bool y.r.ex) = V at *
        repeat (go_big_quiet_step (fail))
        refine wpQuiet_nil ?_
        unfold wpChain
        have HB2 : Hid (Below g wr (putG V g j x)) := Lib.hid (putG_below HB1.out (Nat.le_refl _))
        have HP2 : Hid (OwnG (putG V g j x).drew base (some ⟨g, 0, none⟩) c ((cur.set i y).set j x)) := Lib.hid ((HP1.out.put (by rw [List.length_set]; have := HCL.out; omega) x).on (Below.refl _ _).drew)
        have HB3 : Hid (Below base w (putG V g j x).drew) := Lib.hid ((putG_below HBB.out hbg).drew)
        go_wp2_with fail
        refine ⟨⟨⟨_, HB2.out.drew⟩, rfl⟩, ?_⟩
        unfold wpChain
        go_wp2_with fail
        exact ⟨⟨i + 1, _, _, by go_num, rfl, Lib.hid ⟨by have := HJ.out.1; omega, by omega⟩, Lib.hid ⟨HP2.out, HB3.out⟩, HST⟩, by simp [intOf]; omega⟩
    · have HE : Hid (cur = es.reverse) := Lib.hid (HT.out.last (by have := HJ.out.1; have := HN.out; omega))
      go_wp2_with fail
      go_end0
      exact ⟨rfl, HE.out ▸ HO.out.1, HO.out.2⟩
end Go.Proofs.Ytinbdpfjpcgikaa

namespace Go.Proofs.Ytinbdpfjpcgikaa
open Go Go.RowKit
set_option linter.unusedVariables false
set_option linter.unusedSimpArgs false

/-- Rows that may be, gathered from the end on. -/
structure LsM (w wr : World) (es : List Rl) (N : Nat) (X : Option Addr) (x : Nat) (al : List Rl) (k : Nat) : Prop where
  ow : OwnG wr w.heap.size X x al
  bl : Below w.heap.size w wr
  el : ∀ e ∈ al, e ∈ es
  fo : rws al = (sanes (rws (es.drop k))).reverse
  le : al.length ≤ N
theorem LsM.on {w wr v : World} {es : List Rl} {N : Nat} {X : Option Addr} {x : Nat} {al : List Rl} {k : Nat} (h : LsM w wr es N X x al k) (hb : Below wr.heap.size wr v) : LsM w v es N X x al k :=
  ⟨h.ow.on hb, h.bl.trans (hb.mono h.bl.size), h.el, h.fo, h.le⟩
theorem sanes_len (l : List Rw) : (sanes l).length ≤ l.length := List.length_filter_le _ _
theorem LsM.few {w wr : World} {es : List Rl} {N : Nat} {X : Option Addr} {x : Nat} {al : List Rl} {k : Nat} (h : LsM w wr es N X x al k) : al.length ≤ es.length := by
  have h1 := congrArg List.length h.fo
  rw [rws_length, List.length_reverse] at h1
  have h2 := sanes_len (rws (es.drop k))
  rw [rws_length, List.length_drop] at h2
  omega
theorem LsM.end_ {w wr : World} {es : List Rl} {N : Nat} {X : Option Addr} {x : Nat} {al : List Rl} {k : Nat} (h : LsM w wr es N X x al k) (he : k = 0 ∨ N ≤ al.length) : rws al.reverse = lastL N (sanes (rws es)) := by
  have e1 : rws al.reverse = sanes (rws (es.drop k)) := by
    have e0 : rws al.reverse = (rws al).reverse := by simp [rws]
    rw [e0, h.fo, List.reverse_reverse]
  have hl : (sanes (rws (es.drop k))).length = al.length := by rw [← e1, rws_length, List.length_reverse]
  have e2 : sanes (rws es) = sanes (rws (es.take k)) ++ sanes (rws (es.drop k)) := by rw [← sanes_app, ← rws_app, List.take_append_drop]
  rw [e1, e2, lastL_app (by have := h.le; omega)]
  rcases he with rfl | he
  · simp [rws, sanes, lastL]
  · rw [hl, show N - al.length = 0 from by omega]
    unfold lastL
    rw [Nat.sub_zero, List.drop_length, List.nil_append]
theorem drop_cons_at {es : List Rl} {k : Nat} {y : Rl} (h : es[k]? = some y) : es.drop k = y :: es.drop (k + 1) := by
  obtain ⟨hk, he⟩ := List.getElem?_eq_some_iff.1 h
  rw [List.drop_eq_getElem_cons hk, he]
theorem LsM.skip {w wr : World} {es : List Rl} {N : Nat} {X : Option Addr} {x : Nat} {al : List Rl} {k : Nat} {y : Rl} (h : LsM w wr es N X x al (k + 1)) (hy : es[k]? = some y) (hs : ¬ SaneR y.r) : LsM w wr es N X x al k :=
  ⟨h.ow, h.bl, h.el, by rw [drop_cons_at hy, h.fo]; simp [rws, sanes, hs], h.le⟩
theorem LsM.more {w wr v : World} {es : List Rl} {N : Nat} {X X' : Option Addr} {x x' : Nat} {al : List Rl} {k : Nat} {y : Rl} (h : LsM w wr es N X x al (k + 1)) (hy : es[k]? = some y) (hs : SaneR y.r) (hN : al.length < N) (ho : OwnG v w.heap.size X' x' (al ++ [y])) (hb : Below w.heap.size w v) : LsM w v es N X' x' (al ++ [y]) k :=
  ⟨ho, hb, fun e he => (List.mem_append.1 he).elim (h.el e) (fun q => by simp at q; rw [q]; exact List.mem_of_getElem? hy), by
    rw [drop_cons_at hy, rws_app, h.fo]
    simp [rws, sanes, hs], by rw [List.length_append]; simp; omega⟩
set_option maxRecDepth 100000 in
set_option maxHeartbeats 1000000 in
theorem lastSane10_c (A : Option Addr) (c : Nat) (es : List Rl) (most : Int) (w : World) (hin : InG w A c es) (hok : RsOk (rws es)) (hes : es.length ≤ 1000) (hm : I64 most) :
    Calls Try.prog 34 #[.slice A es.length c, .int .i64 most] w (GivesG (lastL most.toNat (sanes (rws es))) w) := by
  unfold I64 at hm
  obtain ⟨hm0, hm1⟩ := hm
  have hcap := hin.rows.cap
  have HIN := Lib.hid (And.intro hin hok)
  have HM0 : Hid (LsM w w es most.toNat none 0 [] es.length) := Lib.hid ⟨nil_ownG w _, Below.refl _ _, by simp, by simp [rws, sanes], Nat.zero_le _⟩
  generalize hR : lastL most.toNat (sanes (rws es)) = R
  have HR := Lib.hid hR
  clear hin hok hR
  go_enter Try.func34, Try.ntmps34
  go_wp2_with fail
  go_loopw [5, 6] (fun u5 u6 wr => ∃ (k : Nat) (K : Int) (X : Option Addr) (x : Nat) (al : List Rl), u6 = .int .i64 K ∧ u5 = .slice X (List.length al) x ∧ Hid (K = (k : Int) - 1 ∧ k ≤ es.length) ∧ Hid (LsM w wr es most.toNat X x al k)) (fun _ u6 _ => (intOf u6 + 1).toNat)
  case atStart => exact ⟨es.length, _, none, 0, [], rfl, rfl, Lib.hid ⟨by omega, Nat.le_refl _⟩, HM0⟩
  case round =>
    obtain ⟨k, K, X, x, al, rfl, rfl, HK, HM⟩ := hrel
    clear HM0
    have hal : al.length ≤ 1000 := by have := HM.out.few; omega
    have hxc := HM.out.ow.cap
    have fin : (k = 0 ∨ most.toNat ≤ al.length) → ∀ wz, OwnG wz w.heap.size X x al.reverse → Below w.heap.size wr wz → GivesG R w (.returned (.slice X (List.length al) x)) wz := fun h wz ho hb =>
      ⟨X, x, al.reverse, by rw [List.length_reverse], ⟨ho.in_, fun e he => (HIN.out.1.els e (HM.out.el e (by simpa using he))).on (HM.out.bl.trans hb)⟩, by rw [← HR.out]; exact HM.out.end_ h, HM.out.bl.trans hb⟩
    have hrev := rev10_c X x w.heap.size al wr HM.out.ow (by omega)
    have HFIN := Lib.hid fin
    clear fin
    by_cases h0 : 0 ≤ K
    · obtain ⟨k, rfl⟩ : ∃ k' : Nat, k = k' + 1 := ⟨k - 1, by have := HK.out.1; omega⟩
      obtain rfl : K = (k : Int) := by have := HK.out.1; omega
      have hkl : k < es.length := by have := HK.out.2; omega
      have z0 : (k : Int) ≥ 0 := by omega
      have zk : (k : Int) < (es.length : Int) := by omega
      by_cases h1 : (al.length : Int) < most
      · obtain ⟨y, hy⟩ : ∃ y, es[k]? = some y := ⟨_, List.getElem?_eq_getElem hkl⟩
        have hI := HIN.out.1.on HM.out.bl
        obtain ⟨b, o, rfl, hB, p0, p1, p2, p3⟩ := hI.rows.at_ hy
        have hsn := sane8_b y.r y.A y.c wr (hI.els y (List.mem_of_getElem? hy)) (HIN.out.2 y.r (List.mem_map.2 ⟨y, List.mem_of_getElem? hy, rfl⟩))
        have HY := Lib.hid hy
        clear hI hy hB hrev HFIN
        cases hsr : decide (SaneR y.r) with
        | false =>
          rw [hsr] at hsn
          have HS := Lib.hid (of_decide_eq_false hsr)
          clear hsr
          go_wp2_with fail
          refine hsn.mono ?_
          rintro e v4 ⟨rfl, hb⟩
          have HM4 := Lib.hid ((HM.out.on hb).skip HY.out HS.out)
          clear hb hsn p0 p1 p2 p3 HM
          go_wp2_with fail
          exact ⟨⟨k, _, X, x, al, rfl, rfl, Lib.hid ⟨by omega, by omega⟩, HM4⟩, by simp [intOf]⟩
        | true =>
          rw [hsr] at hsn
          have HS := Lib.hid (of_decide_eq_true hsr)
          clear hsr
          go_wp2_with fail
          refine hsn.mono ?_
          rintro e v4 ⟨rfl, hb⟩
          have HM4 := Lib.hid (HM.out.on hb)
          clear hb hsn p0 p1 p2 p3 HM
          have hI := HIN.out.1.on HM4.out.bl
          obtain ⟨hB, p0, p1, p2, p3⟩ := hI.rows.at2 HY.out
          have hal4 : Below v4.heap.size v4 (v4.alloc (.cells #[.slice y.A y.r.cs.length y.c, .bool y.r.wrap, .int .i64 y.r.dir, .bool y.r.ex] 35)) := (Below.refl _ _).alloc (Nat.le_refl _) _
          have HM5 := Lib.hid (HM4.out.on hal4)
          have HRD : Hid (RdG (v4.alloc (.cells #[.slice y.A y.r.cs.length y.c, .bool y.r.wrap, .int .i64 y.r.dir, .bool y.r.ex] 35)) (some ⟨v4.heap.size, 0, none⟩) 1 [y]) := Lib.hid (by
            refine ⟨fun _ => ⟨v4.heap.size, 0, rfl, by simp, fun k e hk j u hu => ?_⟩, by simp, by simp [maxLen]⟩
            have hk0 : k = 0 := by have := (List.getElem?_eq_some_iff.1 hk).1; simp at this; omega
            subst hk0
            simp at hk
            subst hk
            have h9 := (Box.new v4 35 #[.slice y.A y.r.cs.length y.c, .bool y.r.wrap, .int .i64 y.r.dir, .bool y.r.ex]).cell (0 + 0 * 4 + j)
            rw [h9]
            simpa [rlCells] using hu)
          have hz5 : w.heap.size ≤ (v4.alloc (.cells #[.slice y.A y.r.cs.length y.c, .bool y.r.wrap, .int .i64 y.r.dir, .bool y.r.ex] 35)).heap.size := HM5.out.bl.size
          clear hI hB hal4 HM4
          go_upto_region 6 with fail
          go_wp2_with (at_builtin; refine wpList_append_rows rfl _ _ rfl w.heap.size x X al al.length rfl rfl HM5.out.ow (some ⟨v4.heap.size, 0, none⟩) 1 [y] 1 rfl rfl HRD.out (by simp; omega) hz5 ?_)
          intro B' d' v6 how hO
          have hb6 := hO.belowBase hz5 (fun g hg => (own_block HM5.out.ow hg).1)
          have HM6 := Lib.hid (HM5.out.more HY.out HS.out (by omega) how (HM5.out.bl.trans hb6))
          have hlen : (al ++ [y]).length = al.length + 1 := by simp
          clear how hO hb6 hz5 p0 p1 p2 p3 HM5 HRD
          go_wp2_with fail
          exact ⟨⟨k, _, B', d', al ++ [y], rfl, by rw [hlen], Lib.hid ⟨by omega, by omega⟩, HM6⟩, by simp [intOf]⟩
      · go_wp2_with fail
        refine hrev.mono ?_
        rintro e v5 ⟨rfl, hor, hbr⟩
        have hG := HFIN.out (.inr (by omega)) v5 hor hbr
        clear hor hbr hrev
        go_wp2_with fail
        go_ret
        exact hG
    · have hk0 : k = 0 := by have := HK.out.1; omega
      have z0 : ¬ K ≥ 0 := by omega
      go_wp2_with fail
      refine hrev.mono ?_
      rintro e v5 ⟨rfl, hor, hbr⟩
      have hG := HFIN.out (.inl hk0) v5 hor hbr
      clear hor hbr hrev
      go_wp2_with fail
      go_ret
      exact hG
end Go.Proofs.Ytinbdpfjpcgikaa

namespace Go.Proofs.Ytinbdpfjpcgikaa
open Go Go.RowKit
set_option linter.unusedVariables false
set_option linter.unusedSimpArgs false

theorem lastL_two (n : Nat) (a b : List Rw) : lastL n (a ++ b) = lastL (n - (lastL n b).length) a ++ lastL n b := by
  by_cases h : b.length ≤ n
  · rw [lastL_all h, lastL_app h]
  · have hl : (lastL n b).length = n := by rw [lastL_len]; omega
    rw [hl, Nat.sub_self]
    unfold lastL
    rw [Nat.sub_zero, List.drop_length, List.nil_append, List.length_append, List.drop_append, List.drop_of_length_le (by omega), List.nil_append]
    congr 1
    omega
theorem from_last {es : List Rl} {m : Int} {n : Nat} (hm : 0 ≤ m) (hn : (n : Int) ≤ m) : rws (es.drop (fromL (m - n) es.length)) = lastL (m.toNat - n) (rws es) := by
  rw [rws_drop]
  unfold lastL fromL
  rw [rws_length]
  congr 1
  omega
theorem from_all {m : Int} {N : Nat} (h : (N : Int) ≤ m) : fromL m N = 0 := by unfold fromL; omega
set_option maxRecDepth 100000 in
set_option maxHeartbeats 1000000 in
theorem push10_c : Push10C := by
  intro A c es m B d fs w hin hok hm hes hil hlk hfs
  have HK := Lib.hid (Kp10M.new (m := m) hin)
  have HIL := Lib.hid (And.intro hil hlk)
  have hs := fun V hI => sane10_c A c es m V hI hok hm hes
  have HSK := Lib.hid hs
  have hce := hin.rows.cap
  have hcf := hil.rows.cap
  unfold I64 at hm
  obtain ⟨hm0, hm1⟩ := hm
  have HNOT : Hid (¬ SaneK ⟨rws es, m⟩ → pushK ⟨rws es, m⟩ (rws fs) = ⟨[], 0⟩) := Lib.hid fun h => by unfold pushK; rw [if_neg h]
  have HYES : Hid (SaneK ⟨rws es, m⟩ → pushK ⟨rws es, m⟩ (rws fs) = ⟨lastL m.toNat (rws es ++ sanes (rws fs)), m⟩) := Lib.hid fun h => by unfold pushK; rw [if_pos h]
  generalize pushK ⟨rws es, m⟩ (rws fs) = R at *
  clear hin hil hok hlk hs
  go_enter Try.func18, Try.ntmps18
  go_upto_region 1 with fail
  generalize (w.alloc (.cells #[.slice A es.length c, .int .i64 m] 27)).alloc (.cells #[.slice none 0 0, .int .i64 0] 27) = W at *
  obtain ⟨k0, k1⟩ : W.cell? ⟨w.heap.size, 0, none⟩ = some (.slice A es.length c) ∧ W.cell? ⟨w.heap.size, 1, none⟩ = some (.int .i64 m) := ⟨HK.out.b1.cell 0, HK.out.b1.cell 1⟩
  have h1 := HSK.out W HK.out.ik
  cases hq : decide (SaneK ⟨rws es, m⟩) with
  | false =>
    rw [hq] at h1
    have HF := Lib.hid (HNOT.out (of_decide_eq_false hq))
    clear hq
    go_wp2_with fail
    refine h1.mono ?_
    rintro e v1 ⟨rfl, hb⟩
    have HK1 := Lib.hid (HK.out.on hb)
    clear hb h1 k0 k1 HK
    obtain ⟨f0, f1, j0, j1⟩ : v1.frozen? ⟨w.heap.size + 1, 0, none⟩ = false ∧ v1.frozen? ⟨w.heap.size + 1, 1, none⟩ = false ∧ v1.cell? ⟨w.heap.size + 1, 0, none⟩ = some (.slice none 0 0) ∧ v1.cell? ⟨w.heap.size + 1, 1, none⟩ = some (.int .i64 0) := ⟨HK1.out.b2.free 0, HK1.out.b2.free 1, HK1.out.b2.cell 0, HK1.out.b2.cell 1⟩
    go_wp2_with fail
    refine bodyPost_ret (retK10 rfl none 0 0 0 _ _ (w.heap.size + 1) 27 rfl ((HK1.out.b2.set_ 0 (.slice none 0 0)).set_ 1 (.int .i64 0))) rfl ⟨none, 0, [], by rw [HF.out]; rfl, InG.nil (Nat.zero_le _), by rw [HF.out]; rfl, (HK1.out.bl.setCell (p := ⟨w.heap.size + 1, 0, none⟩) (Nat.le_succ _) _).setCell (p := ⟨w.heap.size + 1, 1, none⟩) (Nat.le_succ _) _⟩
  | true =>
    rw [hq] at h1
    have HS := Lib.hid (of_decide_eq_true hq)
    have HF := Lib.hid (HYES.out (of_decide_eq_true hq))
    clear hq
    obtain ⟨hc0, hc1⟩ : 0 ≤ m ∧ m ≤ 200 := ⟨HS.out.2.1, HS.out.2.2.1⟩
    go_wp2_with fail
    refine h1.mono ?_
    rintro e v1 ⟨rfl, hb⟩
    have HK1 := Lib.hid (HK.out.on hb)
    clear hb h1 k0 k1 HK
    obtain ⟨k0, k1⟩ : v1.cell? ⟨w.heap.size, 0, none⟩ = some (.slice A es.length c) ∧ v1.cell? ⟨w.heap.size, 1, none⟩ = some (.int .i64 m) := ⟨HK1.out.b1.cell 0, HK1.out.b1.cell 1⟩
    have h2 := lastSane10_c B d fs m v1 (HIL.out.1.on HK1.out.bl) HIL.out.2 hfs (by unfold I64; omega)
    go_wp2_with fail
    refine h2.mono ?_
    rintro e v2 ⟨X, x, cs, rfl, hcs, hrc, hb⟩
    have HK2 := Lib.hid (HK1.out.on hb)
    have hcl : (cs.length : Int) ≤ m := by
      have := congrArg List.length hrc
      rw [rws_length, lastL_len] at this
      omega
    have HCS := Lib.hid (And.intro hcs hrc)
    have hxc := hcs.rows.cap
    clear hb h2 k0 k1 HK1 hcs hrc
    obtain ⟨k0, k1⟩ : v2.cell? ⟨w.heap.size, 0, none⟩ = some (.slice A es.length c) ∧ v2.cell? ⟨w.heap.size, 1, none⟩ = some (.int .i64 m) := ⟨HK2.out.b1.cell 0, HK2.out.b1.cell 1⟩
    have h3 := last10_c A c es (m - (cs.length : Int)) v2 HK2.out.ik (by unfold I64; omega) (by omega)
    have HRD := Lib.hid (from_last (es := es) hc0 hcl)
    have hdl : (es.drop (fromL (m - (cs.length : Int)) es.length)).length + cs.length ≤ m.toNat := by
      have := congrArg List.length HRD.out
      rw [rws_length, lastL_len] at this
      omega
    generalize es.drop (fromL (m - (cs.length : Int)) es.length) = ds at *
    go_wp2_with fail
    refine h3.mono ?_
    rintro e v3 ⟨Y, rfl, hds, rfl⟩
    have HDS := Lib.hid hds
    clear h3 hds
    have m0 := Ext.cell (w := v2) (B := w.heap.size + 1) (p := ⟨w.heap.size, 0, none⟩) (Nat.lt_succ_self _) k0
    have m1 := Ext.cell (w := v2) (B := w.heap.size + 1) (p := ⟨w.heap.size, 1, none⟩) (Nat.lt_succ_self _) k1
    have hz2 : w.heap.size + 1 < v2.heap.size := HK2.out.b2.lt
    go_upto_region 5 with fail
    refine region_plan [([0, 1, 3, 4, 6, 7], [2, 5]), ([8], [9])] (fun w' => ∃ u : Ext v2 (w.heap.size + 1), w' = u.val) (by kernel_rfl) (by kernel_rfl) (fun _ _ _ _ _ h => h) ⟨⟨_, (Below.refl _ _).drew⟩, rfl⟩ ?_
    simp only [wpPlan, sel, List.take_succ_cons, List.take_zero, List.drop_succ_cons, List.drop_zero, List.cons_append, List.nil_append]
    repeat (go_big_quiet_step (fail))
    refine wpQuiet_nil ?_
    unfold wpChain
    clear m0 m1 k0 k1
    have HDR : Hid (Below v2.heap.size v2 v2.drew) := Lib.hid (Below.refl _ _).drew
    go_wp2_with (at_builtin; refine wpList_append_full rfl _ _ rfl Y ds _ _ rfl rfl rfl (HDS.out.rows.on HDR.out) X x cs _ rfl rfl (HCS.out.1.rows.on HDR.out) (by omega) ?_)
    intro B5 d5 v5 hrd hb5
    have hb5' : Below v2.heap.size v2 v5 := HDR.out.trans (hb5.mono (by simp))
    have HK5 := Lib.hid (HK2.out.on hb5')
    have HI5 : Hid (InG v5 B5 d5 (ds ++ cs)) := Lib.hid ⟨hrd, fun e he => (List.mem_append.1 he).elim (fun h => (HDS.out.els e h).on hb5') (fun h => (HCS.out.1.els e h).on hb5')⟩
    have HB5 : Hid (Below (w.heap.size + 1) v2 v5) := Lib.hid (hb5'.mono (Nat.le_of_lt hz2))
    have hlen : (ds ++ cs).length = ds.length + cs.length := List.length_append
    have HRW : Hid (rws (ds ++ cs) = lastL m.toNat (rws es ++ sanes (rws fs))) := Lib.hid (by
      rw [rws_app, HRD.out, HCS.out.2, lastL_two, ← HCS.out.2, rws_length])
    clear hrd hb5 hb5' HDS HCS HRD HK2 HDR
    have h5 := last10_c B5 d5 (ds ++ cs) m v5 HI5.out (by unfold I64; omega) (by omega)
    rw [from_all (by omega), List.drop_zero, hlen] at h5
    have HLEN := Lib.hid hlen
    clear hlen
    generalize ds ++ cs = zs at *
    generalize ds.length + cs.length = q at *
    go_wp2_with fail
    refine ⟨⟨⟨_, HB5.out⟩, rfl⟩, ?_⟩
    unfold wpChain
    go_wp2_with fail
    refine h5.mono ?_
    rintro e v6 ⟨Z, rfl, hzs, rfl⟩
    have HZS := Lib.hid hzs
    clear h5 hzs
    go_wp2_with fail
    refine ⟨⟨⟨_, HB5.out⟩, rfl⟩, ?_⟩
    unfold wpChain
    repeat (go_big_quiet_step (fail))
    refine wpQuiet_nil ?_
    unfold wpChain
    obtain ⟨f0, f1, j0, j1⟩ : v5.frozen? ⟨w.heap.size + 1, 0, none⟩ = false ∧ v5.frozen? ⟨w.heap.size + 1, 1, none⟩ = false ∧ v5.cell? ⟨w.heap.size + 1, 0, none⟩ = some (.slice none 0 0) ∧ v5.cell? ⟨w.heap.size + 1, 1, none⟩ = some (.int .i64 0) := ⟨HK5.out.b2.free 0, HK5.out.b2.free 1, HK5.out.b2.cell 0, HK5.out.b2.cell 1⟩
    have HST : Hid (Below (w.heap.size + 1) v2 ((v5.setCell ⟨w.heap.size + 1, 0, none⟩ (.slice Z q q)).setCell ⟨w.heap.size + 1, 1, none⟩ (.int .i64 m))) := Lib.hid ((HB5.out.setCell (p := ⟨w.heap.size + 1, 0, none⟩) (Nat.le_refl _) _).setCell (p := ⟨w.heap.size + 1, 1, none⟩) (Nat.le_refl _) _)
    go_wp2_with fail
    refine ⟨⟨⟨_, HST.out⟩, rfl⟩, ?_⟩
    unfold wpChain
    go_wp2_with fail
    refine bodyPost_ret (retK10 rfl Z q q m _ _ (w.heap.size + 1) 27 rfl ((HK5.out.b2.set_ 0 (.slice Z q q)).set_ 1 (.int .i64 m))) rfl ⟨Z, q, zs, by rw [HF.out, HLEN.out], ((HLEN.out ▸ HZS.out : InG v5 Z q zs).far1 HK5.out.b2 (by simp) 0 _).far1 (HK5.out.b2.set_ 0 _) (by simp) 1 _, ?_, (HK5.out.bl.setCell (p := ⟨w.heap.size + 1, 0, none⟩) (Nat.le_succ _) _).setCell (p := ⟨w.heap.size + 1, 1, none⟩) (Nat.le_succ _) _⟩
    rw [HF.out]
    exact HRW.out
end Go.Proofs.Ytinbdpfjpcgikaa

namespace Go.Proofs.Ytinbdpfjpcgikaa
open Go Go.RowKit
set_option linter.unusedVariables false
set_option linter.unusedSimpArgs false

set_option maxRecDepth 100000 in
set_option maxHeartbeats 4000000 in
theorem cells_c (A B : Option Addr) (a b : List Cl) (c d : Nat) (w : World) (ha : InC w A c a) (hb : InC w B d b) :
    Calls Try.prog 33 #[.slice A a.length c, .slice B b.length d] w fun e w' => e = .returned (.bool (decide (a = b))) ∧ Below w.heap.size w w' := by
  have hl := ha.len
  have hl2 := hb.len
  unfold maxLen at hl hl2
  generalize hR : decide (a = b) = R
  have HR := Lib.hid hR
  have HA := Lib.hid ha
  have HB := Lib.hid hb
  clear hR ha hb
  by_cases hn : a.length = b.length
  · have en : ((a.length : Int) != (b.length : Int)) = false := by rw [hn]; simp
    have HN := Lib.hid hn
    clear hn
    go_enter Try.func33, Try.ntmps33
    go_wp2_with fail
    clear en
    go_loopw [5] (fun u5 wr => ∃ k : Nat, k ≤ a.length ∧ u5 = .int .i64 (k : Int) ∧ Hid (a.take k = b.take k) ∧ Below w.heap.size w wr) (fun u5 _ => a.length - (intOf u5).toNat)
    case atStart => exact ⟨0, Nat.zero_le _, rfl, Lib.hid rfl, Below.refl _ _⟩
    case round =>
      obtain ⟨k, hk, rfl, HT, hbel⟩ := hrel
      by_cases hlt : k < a.length
      · have hlt2 : k < b.length := by have := HN.out; omega
        obtain ⟨x, hx⟩ : ∃ x, a[k]? = some x := ⟨_, List.getElem?_eq_getElem hlt⟩
        obtain ⟨y, hy⟩ : ∃ y, b[k]? = some y := ⟨_, List.getElem?_eq_getElem hlt2⟩
        obtain ⟨g1, o1, rfl, pb, p0, p1, p2, p3, p4, p5, p6⟩ := (HA.out.on hbel).at_ hx
        obtain ⟨g2, o2, rfl, qb, q0, q1, q2, q3, q4, q5, q6⟩ := (HB.out.on hbel).at_ hy
        have m0 := Ext.cell (w := wr) (B := wr.heap.size) (p := ⟨g1, o1 + k * 7, none⟩) pb p0
        have m1 := Ext.cell (w := wr) (B := wr.heap.size) (p := ⟨g1, o1 + k * 7 + 1, none⟩) pb p1
        have m2 := Ext.cell (w := wr) (B := wr.heap.size) (p := ⟨g1, o1 + k * 7 + 2, none⟩) pb p2
        have m3 := Ext.cell (w := wr) (B := wr.heap.size) (p := ⟨g1, o1 + k * 7 + 3, none⟩) pb p3
        have m4 := Ext.cell (w := wr) (B := wr.heap.size) (p := ⟨g1, o1 + k * 7 + 4, none⟩) pb p4
        have m5 := Ext.cell (w := wr) (B := wr.heap.size) (p := ⟨g1, o1 + k * 7 + 5, none⟩) pb p5
        have m6 := Ext.cell (w := wr) (B := wr.heap.size) (p := ⟨g1, o1 + k * 7 + 6, none⟩) pb p6
        have n0 := Ext.cell (w := wr) (B := wr.heap.size) (p := ⟨g2, o2 + k * 7, none⟩) qb q0
        have n1 := Ext.cell (w := wr) (B := wr.heap.size) (p := ⟨g2, o2 + k * 7 + 1, none⟩) qb q1
        have n2 := Ext.cell (w := wr) (B := wr.heap.size) (p := ⟨g2, o2 + k * 7 + 2, none⟩) qb q2
        have n3 := Ext.cell (w := wr) (B := wr.heap.size) (p := ⟨g2, o2 + k * 7 + 3, none⟩) qb q3
        have n4 := Ext.cell (w := wr) (B := wr.heap.size) (p := ⟨g2, o2 + k * 7 + 4, none⟩) qb q4
        have n5 := Ext.cell (w := wr) (B := wr.heap.size) (p := ⟨g2, o2 + k * 7 + 5, none⟩) qb q5
        have n6 := Ext.cell (w := wr) (B := wr.heap.size) (p := ⟨g2, o2 + k * 7 + 6, none⟩) qb q6
        have hne := cell_neq x y
        have hca := HA.out.cap
        have hcb := HB.out.cap
        unfold clV at hne
        have HX := Lib.hid (And.intro hx hy)
        have z1 : (k : Int) < (a.length : Int) := by omega
        have z2 : (k : Int) < (b.length : Int) := by omega
        clear hx hy p0 p1 p2 p3 p4 p5 p6 q0 q1 q2 q3 q4 q5 q6
        go_upto_region 6 with fail
        cases hxy : decide (x = y) with
        | true =>
          rw [hxy] at hne
          have HS : Hid (a.take (k + 1) = b.take (k + 1)) := Lib.hid (by rw [take_snoc HX.out.1, take_snoc HX.out.2, HT.out, of_decide_eq_true hxy])
          clear hxy
          refine region_plan [([0, 1, 2, 3, 4, 5, 6, 7, 8], [])] (fun w' => ∃ u : Ext wr wr.heap.size, w' = u.val) (by kernel_rfl) (by kernel_rfl) (fun _ _ _ _ _ h => h) ⟨⟨_, (Below.refl _ _).drew⟩, rfl⟩ ?_
          simp only [wpPlan, sel, List.take_succ_cons, List.take_zero, List.drop_succ_cons, List.drop_zero, List.cons_append, List.nil_append]
          repeat (go_big_quiet_step (fail))
          refine wpQuiet_nil ?_
          unfold wpChain
          go_wp2_with fail
          exact ⟨⟨k + 1, by omega, by simp, HS, hbel.drew⟩, by simp [intOf]; omega⟩
        | false =>
          rw [hxy] at hne
          have HS : Hid (R = false) := Lib.hid (by
            rw [← HR.out]
            refine decide_eq_false fun h => ?_
            subst h
            have h1 := HX.out.1.symm.trans HX.out.2
            injection h1 with h1
            exact of_decide_eq_false hxy h1)
          clear hxy
          refine region_plan [([0, 1, 2, 3, 4, 5, 6, 7, 8], [])] (fun w' => ∃ u : Ext wr wr.heap.size, w' = u.val) (by kernel_rfl) (by kernel_rfl) (fun _ _ _ _ _ h => h) ⟨⟨_, (Below.refl _ _).drew⟩, rfl⟩ ?_
          simp only [wpPlan, sel, List.take_succ_cons, List.take_zero, List.drop_succ_cons, List.drop_zero, List.cons_append, List.nil_append]
          repeat (go_big_quiet_step (fail))
          refine wpQuiet_nil ?_
          unfold wpChain
          go_wp2_with fail
          go_ret
          exact ⟨ret_bool HS.out.symm, hbel.drew⟩
      · have hke : k = a.length := by omega
        have HS : Hid (R = true) := Lib.hid (by
          rw [← HR.out]
          have h := HT.out
          rw [hke, List.take_length, HN.out, List.take_length] at h
          exact decide_eq_true h)
        have z1 : ¬ (k : Int) < (a.length : Int) := by omega
        clear hke
        go_wp2_with fail
        go_ret
        exact ⟨ret_bool HS.out.symm, hbel⟩
  · have en : ((a.length : Int) != (b.length : Int)) = true := by simp; omega
    have HS : Hid (R = false) := Lib.hid (by rw [← HR.out]; exact decide_eq_false fun h => hn (by rw [h]))
    clear hn
    go_enter Try.func33, Try.ntmps33
    go_wp2_with fail
    go_ret
    exact ⟨ret_bool HS.out.symm, Below.refl _ _⟩
/-- Are two rows the same? -/
def sameB (a b : Rw) : Bool := decide (a.cs = b.cs) && ((a.wrap == b.wrap) && ((a.dir == b.dir) && (a.ex == b.ex)))
theorem same_iff {a b : Rw} : sameB a b = true ↔ a = b := by
  obtain ⟨ac, aw, ad, ae⟩ := a
  obtain ⟨bc, bw, bd, be⟩ := b
  simp [sameB]
set_option maxRecDepth 100000 in
set_option maxHeartbeats 4000000 in
theorem same_c (a b : Rw) (A B : Option Addr) (c d : Nat) (w : World) (ha : InC w A c a.cs) (hb : InC w B d b.cs) :
    Calls Try.prog 17 #[rwV a A c, rwV b B d] w fun e w' => e = .returned (.bool (decide (a = b))) ∧ Below w.heap.size w w' := by
  have e : decide (a = b) = sameB a b := by
    cases h : sameB a b with
    | true => exact decide_eq_true (same_iff.1 h)
    | false => exact decide_eq_false fun k => by rw [same_iff.2 k] at h; cases h
  rw [e]
  clear e
  have hbel : Below w.heap.size w ((w.alloc (.cells #[.slice A a.cs.length c, .bool a.wrap, .int .i64 a.dir, .bool a.ex] 35)).alloc (.cells #[.slice B b.cs.length d, .bool b.wrap, .int .i64 b.dir, .bool b.ex] 35)) := ((Below.refl _ _).alloc (Nat.le_refl _) _).alloc (by simp) _
  have hB1 : Box ((w.alloc (.cells #[.slice A a.cs.length c, .bool a.wrap, .int .i64 a.dir, .bool a.ex] 35)).alloc (.cells #[.slice B b.cs.length d, .bool b.wrap, .int .i64 b.dir, .bool b.ex] 35)) w.heap.size 35 #[.slice A a.cs.length c, .bool a.wrap, .int .i64 a.dir, .bool a.ex] := (Box.new w _ _).alloc _
  have hB2 : Box ((w.alloc (.cells #[.slice A a.cs.length c, .bool a.wrap, .int .i64 a.dir, .bool a.ex] 35)).alloc (.cells #[.slice B b.cs.length d, .bool b.wrap, .int .i64 b.dir, .bool b.ex] 35)) (w.heap.size + 1) 35 #[.slice B b.cs.length d, .bool b.wrap, .int .i64 b.dir, .bool b.ex] := by
    have h := Box.new (w.alloc (.cells #[.slice A a.cs.length c, .bool a.wrap, .int .i64 a.dir, .bool a.ex] 35)) 35 #[.slice B b.cs.length d, .bool b.wrap, .int .i64 b.dir, .bool b.ex]
    simpa using h
  have hcc := cells_c A B a.cs b.cs c d _ (ha.on hbel) (hb.on hbel)
  generalize hR : sameB a b = R
  have HR := Lib.hid hR
  have HB := Lib.hid (And.intro hB1 (And.intro hB2 hbel))
  clear hR ha hb hB1 hB2 hbel
  simp only [rwV_eq]
  go_enter Try.func17, Try.ntmps17
  cases hcs : decide (a.cs = b.cs) with
  | false =>
    have HS : Hid (R = false) := Lib.hid (by rw [← HR.out]; unfold sameB; rw [hcs]; rfl)
    rw [hcs] at hcc
    clear hcs HR
    go_wp2_with fail
    refine hcc.mono ?_
    rintro e w1 ⟨rfl, hb1⟩
    have hb2 := HB.out.2.2.trans (hb1.mono HB.out.2.2.size)
    clear hcc hb1
    go_wp2_with fail
    go_ret
    exact ⟨ret_bool HS.out.symm, hb2⟩
  | true =>
    rw [hcs] at hcc
    go_wp2_with fail
    refine hcc.mono ?_
    rintro e w1 ⟨rfl, hb1⟩
    have hb2 := HB.out.2.2.trans (hb1.mono HB.out.2.2.size)
    have k1 := HB.out.1.below hb1 HB.out.1.lt
    have k2 := HB.out.2.1.below hb1 HB.out.2.1.lt
    obtain ⟨a1, a2, a3⟩ : w1.cell? ⟨w.heap.size, 1, none⟩ = some (.bool a.wrap) ∧ w1.cell? ⟨w.heap.size, 2, none⟩ = some (.int .i64 a.dir) ∧ w1.cell? ⟨w.heap.size, 3, none⟩ = some (.bool a.ex) := ⟨k1.cell 1, k1.cell 2, k1.cell 3⟩
    obtain ⟨b1, b2, b3⟩ : w1.cell? ⟨w.heap.size + 1, 1, none⟩ = some (.bool b.wrap) ∧ w1.cell? ⟨w.heap.size + 1, 2, none⟩ = some (.int .i64 b.dir) ∧ w1.cell? ⟨w.heap.size + 1, 3, none⟩ = some (.bool b.ex) := ⟨k2.cell 1, k2.cell 2, k2.cell 3⟩
    have HS : Hid (R = ((a.wrap == b.wrap) && ((a.dir == b.dir) && (a.ex == b.ex)))) := Lib.hid (by rw [← HR.out]; unfold sameB; rw [hcs]; rfl)
    have HB2 := Lib.hid hb2
    clear hcs HR hcc hb1 hb2 k1 k2 HB
    generalize a.wrap = x1 at *
    generalize b.wrap = y1 at *
    generalize a.ex = x3 at *
    generalize b.ex = y3 at *
    generalize a.dir = x2 at *
    generalize b.dir = y2 at *
    cases e1 : (x1 == y1) with
    | false =>
      have HS2 : Hid (R = false) := Lib.hid (by rw [HS.out, e1]; rfl)
      go_wp2_with fail
      go_ret
      exact ⟨ret_bool HS2.out.symm, HB2.out⟩
    | true =>
      cases e2 : (x2 == y2) with
      | false =>
        have HS2 : Hid (R = false) := Lib.hid (by rw [HS.out, e1, e2]; rfl)
        go_wp2_with fail
        go_ret
        exact ⟨ret_bool HS2.out.symm, HB2.out⟩
      | true =>
        have HS2 : Hid (R = (x3 == y3)) := Lib.hid (by rw [HS.out, e1, e2]; rfl)
        go_wp2_with fail
        go_ret
        exact ⟨ret_bool HS2.out.symm, HB2.out⟩
end Go.Proofs.Ytinbdpfjpcgikaa

namespace Go.Proofs.Ytinbdpfjpcgikaa
open Go Go.RowKit
set_option linter.unusedVariables false
set_option linter.unusedSimpArgs false

def FewR (l : List Rw) : Prop := l.length ≤ 60 ∧ ∀ r ∈ l, r.cs.length ≤ 100
instance (l : List Rw) : Decidable (FewR l) := inferInstanceAs (Decidable (_ ∧ _))
set_option maxRecDepth 100000 in
set_option maxHeartbeats 4000000 in
theorem few_c (A : Option Addr) (c : Nat) (l : List Rl) (w : World) (ha : InG w A c l) :
    Calls Try.prog 8 #[.slice A l.length c] w fun e w' => e = .returned (.bool (decide (FewR (rws l)))) ∧ Below w.heap.size w w' := by
  have hl := ha.rows.len
  unfold maxLen at hl
  generalize hR : decide (FewR (rws l)) = R
  have HR := Lib.hid hR
  have HA := Lib.hid ha
  clear hR ha
  by_cases hn : l.length ≤ 60
  · have zn : ¬ (l.length : Int) > 60 := by omega
    have HN := Lib.hid hn
    clear hn
    go_enter Try.func8, Try.ntmps8
    go_wp2_with fail
    clear zn
    go_loopw [3] (fun u3 wr => ∃ k : Nat, k ≤ l.length ∧ u3 = .int .i64 (k : Int) ∧ Hid (∀ e ∈ l.take k, e.r.cs.length ≤ 100) ∧ Below w.heap.size w wr) (fun u3 _ => l.length - (intOf u3).toNat)
    case atStart => exact ⟨0, Nat.zero_le _, rfl, Lib.hid (by simp), Below.refl _ _⟩
    case round =>
      obtain ⟨k, hk, rfl, HT, hbel⟩ := hrel
      by_cases hlt : k < l.length
      · obtain ⟨x, hx⟩ : ∃ x, l[k]? = some x := ⟨_, List.getElem?_eq_getElem hlt⟩
        obtain ⟨g1, o1, rfl, pb, p0, p1, p2, p3⟩ := (HA.out.on hbel).rows.at_ hx
        have hca := HA.out.rows.cap
        have z1 : (k : Int) < (l.length : Int) := by omega
        have HX := Lib.hid hx
        clear hx p1 p2 p3
        by_cases hc : x.r.cs.length ≤ 100
        · have z2 : ¬ (x.r.cs.length : Int) > 100 := by omega
          have HS : Hid (∀ e ∈ l.take (k + 1), e.r.cs.length ≤ 100) := Lib.hid (by
            rw [take_snoc HX.out]
            intro e he
            rcases List.mem_append.1 he with h | h
            · exact HT.out e h
            · simp at h; subst h; exact hc)
          clear hc
          go_wp2_with fail
          exact ⟨⟨k + 1, by omega, by simp, HS, hbel⟩, by simp [intOf]; omega⟩
        · have z2 : (x.r.cs.length : Int) > 100 := by omega
          have HS : Hid (R = false) := Lib.hid (by
            rw [← HR.out]
            exact decide_eq_false fun h => hc (h.2 x.r (by unfold rws; exact List.mem_map.2 ⟨x, List.mem_of_getElem? HX.out, rfl⟩)))
          clear hc
          go_wp2_with fail
          go_ret
          exact ⟨ret_bool HS.out.symm, hbel⟩
      · have hke : k = l.length := by omega
        have HS : Hid (R = true) := Lib.hid (by
          rw [← HR.out]
          have h := HT.out
          rw [hke, List.take_length] at h
          refine decide_eq_true ⟨by rw [rws_length]; exact HN.out, fun r hr => ?_⟩
          obtain ⟨e, he, rfl⟩ := List.mem_map.1 hr
          exact h e he)
        have z1 : ¬ (k : Int) < (l.length : Int) := by omega
        clear hke
        go_wp2_with fail
        go_ret
        exact ⟨ret_bool HS.out.symm, hbel⟩
  · have zn : (l.length : Int) > 60 := by omega
    have HS : Hid (R = false) := Lib.hid (by rw [← HR.out]; exact decide_eq_false fun h => hn (by have := h.1; rw [rws_length] at this; exact this))
    clear hn
    go_enter Try.func8, Try.ntmps8
    go_wp2_with fail
    go_ret
    exact ⟨ret_bool HS.out.symm, Below.refl _ _⟩
set_option maxRecDepth 100000 in
set_option maxHeartbeats 4000000 in
theorem same9_c (A B : Option Addr) (a b : List Rl) (c d : Nat) (w : World) (ha : InG w A c a) (hb : InG w B d b) :
    Calls Try.prog 16 #[.slice A a.length c, .slice B b.length d] w fun e w' => e = .returned (.bool (decide (rws a = rws b))) ∧ Below w.heap.size w w' := by
  have hl := ha.rows.len
  have hl2 := hb.rows.len
  unfold maxLen at hl hl2
  generalize hR : decide (rws a = rws b) = R
  have HR := Lib.hid hR
  have HA := Lib.hid ha
  have HB := Lib.hid hb
  clear hR ha hb
  by_cases hn : a.length = b.length
  · have en : ((a.length : Int) != (b.length : Int)) = false := by rw [hn]; simp
    have HN := Lib.hid hn
    clear hn
    go_enter Try.func16, Try.ntmps16
    go_wp2_with fail
    clear en
    go_loopw [5] (fun u5 wr => ∃ k : Nat, k ≤ a.length ∧ u5 = .int .i64 (k : Int) ∧ Hid ((rws a).take k = (rws b).take k) ∧ Below w.heap.size w wr) (fun u5 _ => a.length - (intOf u5).toNat)
    case atStart => exact ⟨0, Nat.zero_le _, rfl, Lib.hid rfl, Below.refl _ _⟩
    case round =>
      obtain ⟨k, hk, rfl, HT, hbel⟩ := hrel
      by_cases hlt : k < a.length
      · have hlt2 : k < b.length := by have := HN.out; omega
        obtain ⟨x, hx⟩ : ∃ x, a[k]? = some x := ⟨_, List.getElem?_eq_getElem hlt⟩
        obtain ⟨y, hy⟩ : ∃ y, b[k]? = some y := ⟨_, List.getElem?_eq_getElem hlt2⟩
        have hxi := (HA.out.on hbel).els x (List.mem_of_getElem? hx)
        have hyi := (HB.out.on hbel).els y (List.mem_of_getElem? hy)
        have hs : ∀ V, Below wr.heap.size wr V → Calls Try.prog 17 #[.agg #[.slice x.A x.r.cs.length x.c, .bool x.r.wrap, .int .i64 x.r.dir, .bool x.r.ex], .agg #[.slice y.A y.r.cs.length y.c, .bool y.r.wrap, .int .i64 y.r.dir, .bool y.r.ex]] V (fun e w' => e = .returned (.bool (decide (x.r = y.r))) ∧ Below V.heap.size V w') := fun V hV => same_c x.r y.r x.A y.A x.c y.c V (hxi.on hV) (hyi.on hV)
        obtain ⟨g1, o1, rfl, pb, p0, p1, p2, p3⟩ := (HA.out.on hbel).rows.at_ hx
        obtain ⟨g2, o2, rfl, qb, q0, q1, q2, q3⟩ := (HB.out.on hbel).rows.at_ hy
        have m0 := Ext.cell (w := wr) (B := wr.heap.size) (p := ⟨g1, o1 + k * 4, none⟩) pb p0
        have m1 := Ext.cell (w := wr) (B := wr.heap.size) (p := ⟨g1, o1 + k * 4 + 1, none⟩) pb p1
        have m2 := Ext.cell (w := wr) (B := wr.heap.size) (p := ⟨g1, o1 + k * 4 + 2, none⟩) pb p2
        have m3 := Ext.cell (w := wr) (B := wr.heap.size) (p := ⟨g1, o1 + k * 4 + 3, none⟩) pb p3
        have n0 := Ext.cell (w := wr) (B := wr.heap.size) (p := ⟨g2, o2 + k * 4, none⟩) qb q0
        have n1 := Ext.cell (w := wr) (B := wr.heap.size) (p := ⟨g2, o2 + k * 4 + 1, none⟩) qb q1
        have n2 := Ext.cell (w := wr) (B := wr.heap.size) (p := ⟨g2, o2 + k * 4 + 2, none⟩) qb q2
        have n3 := Ext.cell (w := wr) (B := wr.heap.size) (p := ⟨g2, o2 + k * 4 + 3, none⟩) qb q3
        have hca := HA.out.rows.cap
        have hcb := HB.out.rows.cap
        have HX := Lib.hid (And.intro (rws_at hx) (rws_at hy))
        have HBEL := Lib.hid hbel
        have CS := Lib.hid hs
        have z1 : (k : Int) < (a.length : Int) := by omega
        have z2 : (k : Int) < (b.length : Int) := by omega
        clear hx hy p0 p1 p2 p3 q0 q1 q2 q3 hbel hs hxi hyi
        go_upto_region 6 with fail
        cases hxy : decide (x.r = y.r) with
        | true =>
          rw [hxy] at CS
          have HS : Hid ((rws a).take (k + 1) = (rws b).take (k + 1)) := Lib.hid (by rw [take_snoc HX.out.1, take_snoc HX.out.2, HT.out, of_decide_eq_true hxy])
          clear hxy
          refine region_plan [([0, 1, 2, 3, 4, 5, 6, 7], [8]), ([9], [])] (fun w' => ∃ u : Ext wr wr.heap.size, w' = u.val) (by kernel_rfl) (by kernel_rfl) (fun _ _ _ _ _ h => h) ⟨⟨_, (Below.refl _ _).drew⟩, rfl⟩ ?_
          simp only [wpPlan, sel, List.take_succ_cons, List.take_zero, List.drop_succ_cons, List.drop_zero, List.cons_append, List.nil_append]
          repeat (go_big_quiet_step (fail))
          refine wpQuiet_nil ?_
          unfold wpChain
          go_wp2_with fail
          refine (CS.out _ (Below.refl wr.heap.size wr).drew).mono ?_
          rintro e v1 ⟨rfl, hv1⟩
          have HV1 : Below wr.heap.size wr v1 := (Below.refl wr.heap.size wr).drew.trans hv1
          clear hv1
          go_wp2_with fail
          refine ⟨⟨⟨_, HV1⟩, rfl⟩, ?_⟩
          unfold wpChain
          repeat (go_big_quiet_step (fail))
          refine wpQuiet_nil ?_
          unfold wpChain
          go_wp2_with fail
          exact ⟨⟨k + 1, by omega, by simp, HS, HBEL.out.trans (HV1.mono HBEL.out.size)⟩, by simp [intOf]; omega⟩
        | false =>
          rw [hxy] at CS
          have HS : Hid (R = false) := Lib.hid (by
            rw [← HR.out]
            refine decide_eq_false fun h => ?_
            have h1 := HX.out.1
            rw [h] at h1
            have h2 := h1.symm.trans HX.out.2
            injection h2 with h2
            exact of_decide_eq_false hxy h2)
          clear hxy
          refine region_plan [([0, 1, 2, 3, 4, 5, 6, 7], [8]), ([9], [])] (fun w' => ∃ u : Ext wr wr.heap.size, w' = u.val) (by kernel_rfl) (by kernel_rfl) (fun _ _ _ _ _ h => h) ⟨⟨_, (Below.refl _ _).drew⟩, rfl⟩ ?_
          simp only [wpPlan, sel, List.take_succ_cons, List.take_zero, List.drop_succ_cons, List.drop_zero, List.cons_append, List.nil_append]
          repeat (go_big_quiet_step (fail))
          refine wpQuiet_nil ?_
          unfold wpChain
          go_wp2_with fail
          refine (CS.out _ (Below.refl wr.heap.size wr).drew).mono ?_
          rintro e v1 ⟨rfl, hv1⟩
          have HV1 : Below wr.heap.size wr v1 := (Below.refl wr.heap.size wr).drew.trans hv1
          clear hv1
          go_wp2_with fail
          refine ⟨⟨⟨_, HV1⟩, rfl⟩, ?_⟩
          unfold wpChain
          repeat (go_big_quiet_step (fail))
          refine wpQuiet_nil ?_
          unfold wpChain
          go_wp2_with fail
          go_ret
          exact ⟨ret_bool HS.out.symm, HBEL.out.trans (HV1.mono HBEL.out.size)⟩
      · have hke : k = a.length := by omega
        have HS : Hid (R = true) := Lib.hid (by
          rw [← HR.out]
          have h := HT.out
          have h1 : (rws a).length = k := by rw [rws_length]; exact hke.symm
          have h2 : (rws b).length = k := by rw [rws_length, ← HN.out]; exact hke.symm
          rw [List.take_of_length_le (by omega), List.take_of_length_le (by omega)] at h
          exact decide_eq_true h)
        have z1 : ¬ (k : Int) < (a.length : Int) := by omega
        clear hke
        go_wp2_with fail
        go_ret
        exact ⟨ret_bool HS.out.symm, hbel⟩
  · have en : ((a.length : Int) != (b.length : Int)) = true := by simp; omega
    have HS : Hid (R = false) := Lib.hid (by rw [← HR.out]; exact decide_eq_false fun h => hn (by have := congrArg List.length h; rw [rws_length, rws_length] at this; exact this))
    clear hn
    go_enter Try.func16, Try.ntmps16
    go_wp2_with fail
    go_ret
    exact ⟨ret_bool HS.out.symm, Below.refl _ _⟩
end Go.Proofs.Ytinbdpfjpcgikaa

namespace Go.Proofs.Ytinbdpfjpcgikaa
open Go Go.RowKit
set_option linter.unusedVariables false
set_option linter.unusedSimpArgs false

theorem ret_cl {fn : Func} {p : Tmp} (h : fn.results = #[.cell p 66]) (x : Cl) (tmps : Array Value) (W : World) (g : Nat) (t : TypeId) (hp : tmps.getD p undef = .pointer (some ⟨g, 0, none⟩)) (hg : Box W g t #[.int .i64 x.r, .int .i64 x.m0, .int .i64 x.m1, .int .i64 x.w, .int .i64 x.pen.fg, .int .i64 x.pen.bg, .int .i64 x.pen.fl]) :
    (results fn tmps).run Try.prog W = .ok (clV x) W :=
  results_cell_row h tmps W g t _ (0, 0) _ hp hg Try.underlying66 rfl (by kernel_rfl)
theorem ret_rw {fn : Func} {p : Tmp} (h : fn.results = #[.cell p 35]) (r : Rw) (A : Option Addr) (c : Nat) (tmps : Array Value) (W : World) (g : Nat) (t : TypeId) (hp : tmps.getD p undef = .pointer (some ⟨g, 0, none⟩)) (hg : Box W g t (rwCells r A c)) :
    (results fn tmps).run Try.prog W = .ok (rwV r A c) W :=
  results_cell_row h tmps W g t (rwCells r A c) (0, 0) _ hp hg Try.underlying35 rfl (by kernel_rfl)
theorem box_at1 (w : World) (o : Obj) (t : TypeId) (cs : Array Value) : Box ((w.alloc o).alloc (.cells cs t)) (w.heap.size + 1) t cs := by
  have h := Box.new (w.alloc o) t cs
  simpa using h
set_option maxRecDepth 100000 in
set_option maxHeartbeats 4000000 in
theorem rBlank_c (p : Pn) (w : World) : Calls Try.prog 49 #[.agg #[.int .i64 p.fg, .int .i64 p.bg, .int .i64 p.fl]] w fun e w' => e = .returned (.agg #[.int .i64 0, .int .i64 0, .int .i64 0, .int .i64 1, .int .i64 p.fg, .int .i64 p.bg, .int .i64 p.fl]) ∧ Below w.heap.size w w' := by
  go_enter Try.func49, Try.ntmps49
  go_wp2_with fail
  exact bodyPost_ret (ret_cl rfl (blankC p) _ _ _ _ rfl (box_at1 w _ _ _)) rfl ⟨rfl, ((Below.refl _ _).alloc (Nat.le_refl _) _).alloc (by simp) _⟩
theorem rLetter_c (n : Int) (w : World) : Calls Try.prog 47 #[.int .i64 n] w fun e w' => e = .returned (.bool (decide (LetC n))) ∧ w = w' := by
  rcases (show n < 0 ∨ (0 ≤ n ∧ n ≤ 1114111) ∨ (0 ≤ n ∧ 1114111 < n) by omega) with k | ⟨k, k'⟩ | ⟨k, k'⟩
  · rw [show decide (LetC n) = false from decide_eq_false (by unfold LetC; omega)]
    have z : ¬ 0 ≤ n := by omega
    go_enter Try.func47, Try.ntmps47
    go_wp2
    go_ret
    exact ⟨rfl, rfl⟩
  · rw [show decide (LetC n) = true from decide_eq_true (by unfold LetC; omega)]
    go_enter Try.func47, Try.ntmps47
    go_wp2
    go_ret
    exact ⟨rfl, rfl⟩
  · rw [show decide (LetC n) = false from decide_eq_false (by unfold LetC; omega)]
    have z : ¬ n ≤ 1114111 := by omega
    go_enter Try.func47, Try.ntmps47
    go_wp2
    go_ret
    exact ⟨rfl, rfl⟩
theorem rep_snoc (k : Nat) (x : Cl) : List.replicate k x ++ [x] = List.replicate (k + 1) x := by
  rw [List.replicate_succ']
theorem one_in (w : World) (g : Nat) (t : TypeId) (x : Cl) (h : Box w g t #[.int .i64 x.r, .int .i64 x.m0, .int .i64 x.m1, .int .i64 x.w, .int .i64 x.pen.fg, .int .i64 x.pen.bg, .int .i64 x.pen.fl]) : InC w (some ⟨g, 0, none⟩) 1 [x] := by
  refine ⟨fun _ => ⟨g, 0, rfl, h.lt, fun k e hk j u hu => ?_⟩, by simp, by simp [maxLen]⟩
  have hk0 : k = 0 := by
    have := (List.getElem?_eq_some_iff.1 hk).1
    simp at this; omega
  subst hk0
  simp at hk; subst hk
  have hj : j < 7 := (List.getElem?_eq_some_iff.1 hu).1
  have := h.cell j
  simp only [Nat.zero_mul, Nat.zero_add]
  rw [this, ← hu]
  match j, hj with
  | 0, _ => rfl
  | 1, _ => rfl
  | 2, _ => rfl
  | 3, _ => rfl
  | 4, _ => rfl
  | 5, _ => rfl
  | 6, _ => rfl
theorem Box.put4 {w W : World} {B g : Nat} {t : TypeId} {o0 o1 o2 o3 : Value} (h : Box W g t #[o0, o1, o2, o3]) (hb : Below B w W) (hg : B ≤ g) (v0 v1 v2 v3 : Value) :
    Box ((((W.setCell ⟨g, 0, none⟩ v0).setCell ⟨g, 1, none⟩ v1).setCell ⟨g, 2, none⟩ v2).setCell ⟨g, 3, none⟩ v3) g t #[v0, v1, v2, v3] ∧
    Below B w ((((W.setCell ⟨g, 0, none⟩ v0).setCell ⟨g, 1, none⟩ v1).setCell ⟨g, 2, none⟩ v2).setCell ⟨g, 3, none⟩ v3) :=
  have h0 : Box (W.setCell ⟨g, 0, none⟩ v0) g t #[v0, o1, o2, o3] := h.set_ 0 v0
  have h1 : Box ((W.setCell ⟨g, 0, none⟩ v0).setCell ⟨g, 1, none⟩ v1) g t #[v0, v1, o2, o3] := h0.set_ 1 v1
  have h2 : Box (((W.setCell ⟨g, 0, none⟩ v0).setCell ⟨g, 1, none⟩ v1).setCell ⟨g, 2, none⟩ v2) g t #[v0, v1, v2, o3] := h1.set_ 2 v2
  ⟨h2.set_ 3 v3, (((hb.setCell (p := ⟨g, 0, none⟩) hg v0).setCell (p := ⟨g, 1, none⟩) hg v1).setCell (p := ⟨g, 2, none⟩) hg v2).setCell (p := ⟨g, 3, none⟩) hg v3⟩
/-- A row's box is stored: cells that the call owns stay. -/
theorem OwnC.far4 {w : World} {base g : Nat} {A : Option Addr} {c : Nat} {l : List Cl} {t : TypeId} {cs : Array Value} (h : OwnC w base A c l) (hb : Box w g t cs) (hne : 66 ≠ t) (v0 v1 v2 v3 : Value) :
    OwnC ((((w.setCell ⟨g, 0, none⟩ v0).setCell ⟨g, 1, none⟩ v1).setCell ⟨g, 2, none⟩ v2).setCell ⟨g, 3, none⟩ v3) base A c l := by
  have hn := h.box hb hne
  unfold OwnC at h ⊢
  exact own_far (own_far (own_far (own_far h (p := ⟨g, 0, none⟩) hn v0) (p := ⟨g, 1, none⟩) hn v1) (p := ⟨g, 2, none⟩) hn v2) (p := ⟨g, 3, none⟩) hn v3
end Go.Proofs.Ytinbdpfjpcgikaa

namespace Go.Proofs.Ytinbdpfjpcgikaa
open Go Go.RowKit
set_option linter.unusedVariables false
set_option linter.unusedSimpArgs false

set_option maxRecDepth 100000 in
set_option maxHeartbeats 1000000 in
theorem rWith_c (r : Rw) (A B : Option Addr) (c d : Nat) (l : List Cl) (n : Nat) (hn : n = l.length) (w : World) : Calls Try.prog 50 #[.agg #[.slice A r.cs.length c, .bool r.wrap, .int .i64 r.dir, .bool r.ex], .slice B n d] w fun e w' => e = .returned (.agg #[.slice B n d, .bool r.wrap, .int .i64 r.dir, .bool r.ex]) ∧ Below w.heap.size w w' := by
  have HNL := Lib.hid hn
  clear hn
  generalize r.cs.length = m
  generalize r.wrap = y1
  generalize r.dir = y2
  generalize r.ex = y3
  have hX : Box ((w.alloc (.cells #[.slice A m c, .bool y1, .int .i64 y2, .bool y3] 35)).alloc (.cells #[.slice none 0 0, .bool false, .int .i64 0, .bool false] 35)) (w.heap.size + 1) 35 #[.slice none 0 0, .bool false, .int .i64 0, .bool false] := box_at1 w _ _ _
  have hY : Box ((w.alloc (.cells #[.slice A m c, .bool y1, .int .i64 y2, .bool y3] 35)).alloc (.cells #[.slice none 0 0, .bool false, .int .i64 0, .bool false] 35)) w.heap.size 35 #[.slice A m c, .bool y1, .int .i64 y2, .bool y3] := (Box.new w _ _).alloc _
  have hb : Below w.heap.size w ((w.alloc (.cells #[.slice A m c, .bool y1, .int .i64 y2, .bool y3] 35)).alloc (.cells #[.slice none 0 0, .bool false, .int .i64 0, .bool false] 35)) := ((Below.refl _ _).alloc (Nat.le_refl _) _).alloc (by simp) _
  go_enter Try.func50, Try.ntmps50
  go_upto_region 1 with fail
  generalize (w.alloc (.cells #[.slice A m c, .bool y1, .int .i64 y2, .bool y3] 35)).alloc (.cells #[.slice none 0 0, .bool false, .int .i64 0, .bool false] 35) = W at *
  have f0 : W.frozen? ⟨w.heap.size, 0, none⟩ = false := hY.free 0
  have k0 : W.cell? ⟨w.heap.size, 0, none⟩ = some (.slice A m c) := hY.cell 0
  have HH := Lib.hid (And.intro hX (And.intro hY hb))
  clear hX hY hb
  go_upto_region 2 with fail
  have hY1 : Box (W.setCell ⟨w.heap.size, 0, none⟩ (.slice B n d)) w.heap.size 35 #[.slice B n d, .bool y1, .int .i64 y2, .bool y3] := HH.out.2.1.set_ 0 (.slice B n d)
  have hX1 : Box (W.setCell ⟨w.heap.size, 0, none⟩ (.slice B n d)) (w.heap.size + 1) 35 #[.slice none 0 0, .bool false, .int .i64 0, .bool false] := HH.out.1.far (p := ⟨w.heap.size, 0, none⟩) (by simp) _
  have hb1 : Below w.heap.size w (W.setCell ⟨w.heap.size, 0, none⟩ (.slice B n d)) := HH.out.2.2.setCell (p := ⟨w.heap.size, 0, none⟩) (Nat.le_refl _) _
  clear f0 k0 HH
  generalize W.setCell ⟨w.heap.size, 0, none⟩ (.slice B n d) = W1 at *
  obtain ⟨k0, k1, k2, k3⟩ : W1.cell? ⟨w.heap.size, 0, none⟩ = some (.slice B n d) ∧ W1.cell? ⟨w.heap.size, 1, none⟩ = some (.bool y1) ∧ W1.cell? ⟨w.heap.size, 2, none⟩ = some (.int .i64 y2) ∧ W1.cell? ⟨w.heap.size, 3, none⟩ = some (.bool y3) := ⟨hY1.cell 0, hY1.cell 1, hY1.cell 2, hY1.cell 3⟩
  obtain ⟨f0, f1, f2, f3⟩ : W1.frozen? ⟨w.heap.size + 1, 0, none⟩ = false ∧ W1.frozen? ⟨w.heap.size + 1, 1, none⟩ = false ∧ W1.frozen? ⟨w.heap.size + 1, 2, none⟩ = false ∧ W1.frozen? ⟨w.heap.size + 1, 3, none⟩ = false := ⟨hX1.free 0, hX1.free 1, hX1.free 2, hX1.free 3⟩
  obtain ⟨j0, j1, j2, j3⟩ : W1.cell? ⟨w.heap.size + 1, 0, none⟩ = some (.slice none 0 0) ∧ W1.cell? ⟨w.heap.size + 1, 1, none⟩ = some (.bool false) ∧ W1.cell? ⟨w.heap.size + 1, 2, none⟩ = some (.int .i64 0) ∧ W1.cell? ⟨w.heap.size + 1, 3, none⟩ = some (.bool false) := ⟨hX1.cell 0, hX1.cell 1, hX1.cell 2, hX1.cell 3⟩
  have hp4 := hX1.put4 hb1 (Nat.le_succ _) (.slice B n d) (.bool y1) (.int .i64 y2) (.bool y3)
  have HP := Lib.hid hp4
  clear hX1 hY1 hb1 hp4
  go_wp2_with fail
  have hn := HNL.out
  subst hn
  refine bodyPost_ret (ret_rw rfl ⟨l, y1, y2, y3⟩ B d _ _ (w.heap.size + 1) 35 rfl ?_) rfl ⟨rfl, HP.out.2⟩
  exact HP.out.1
/-- A row as one says it. -/
structure MdT (w wr : World) (A : Option Addr) (c : Nat) (l : List Cl) (y1 : Bool) (y2 : Int) (y3 : Bool) (B : Option Addr) (d i : Nat) : Prop where
  bx : Box wr (w.heap.size + 1) 35 #[.slice none 0 0, .bool false, .int .i64 0, .bool false]
  ba : Box wr w.heap.size 35 #[.slice A l.length c, .bool y1, .int .i64 y2, .bool y3]
  bl : Below w.heap.size w wr
  own : OwnC wr (w.heap.size + 2) B d (hybL l i)
theorem MdT.on {w wr v : World} {A : Option Addr} {c : Nat} {l : List Cl} {y1 : Bool} {y2 : Int} {y3 : Bool} {B : Option Addr} {d i : Nat} (h : MdT w wr A c l y1 y2 y3 B d i) (hv : Below wr.heap.size wr v) : MdT w v A c l y1 y2 y3 B d i :=
  ⟨h.bx.below hv h.bx.lt, h.ba.below hv h.ba.lt, h.bl.trans (hv.mono h.bl.size), h.own.on hv⟩
theorem MdT.skip {w wr : World} {A : Option Addr} {c : Nat} {l : List Cl} {y1 : Bool} {y2 : Int} {y3 : Bool} {B : Option Addr} {d i : Nat} (h : MdT w wr A c l y1 y2 y3 B d i) (hb : ¬ BadAt (hybL l i) i) : MdT w wr A c l y1 y2 y3 B d (i + 1) :=
  ⟨h.bx, h.ba, h.bl, by rw [← hyb_skip (fun k => hb ((hyb_bad l i).2 k))]; exact h.own⟩
theorem hyb_self {l : List Cl} {i : Nat} : (hybL l i)[i]? = l[i]? := by rw [hyb_at, if_neg (by omega)]
theorem MdT.put {w wr : World} {A : Option Addr} {c : Nat} {l : List Cl} {y1 : Bool} {y2 : Int} {y3 : Bool} {g d i : Nat} {x : Cl} (h : MdT w wr A c l y1 y2 y3 (some ⟨g, 0, none⟩) d i) (hx : (hybL l i)[i]? = some x) (hb : BadAt (hybL l i) i) : MdT w (putC wr g i (blankC x.pen)) A c l y1 y2 y3 (some ⟨g, 0, none⟩) d (i + 1) := by
  have hge : w.heap.size + 2 ≤ g := by
    obtain ⟨g', e, hg, _, _⟩ := h.own.at_ (by intro h0; rw [h0] at hx; simp at hx)
    injection e with e
    injection e with e1
    omega
  have hl : l[i]? = some x := by rw [← hyb_self]; exact hx
  have hi : i < l.length := (List.getElem?_eq_some_iff.1 hl).1
  have hst := hyb_step hl
  rw [if_pos ((hyb_bad l i).1 hb)] at hst
  have ho := h.own.put (k := i) (by rw [hyb_len]; exact hi) (blankC x.pen)
  rw [hst] at ho
  refine ⟨?_, ?_, putC_below h.bl (by omega), ho⟩
  · have hg : w.heap.size + 1 ≠ g := by omega
    unfold putC
    exact ((((((h.bx.far (p := ⟨g, _, none⟩) hg _).far (p := ⟨g, _, none⟩) hg _).far (p := ⟨g, _, none⟩) hg _).far (p := ⟨g, _, none⟩) hg _).far (p := ⟨g, _, none⟩) hg _).far (p := ⟨g, _, none⟩) hg _).far (p := ⟨g, _, none⟩) hg _
  · have hg : w.heap.size ≠ g := by omega
    unfold putC
    exact ((((((h.ba.far (p := ⟨g, _, none⟩) hg _).far (p := ⟨g, _, none⟩) hg _).far (p := ⟨g, _, none⟩) hg _).far (p := ⟨g, _, none⟩) hg _).far (p := ⟨g, _, none⟩) hg _).far (p := ⟨g, _, none⟩) hg _).far (p := ⟨g, _, none⟩) hg _
theorem MdT.cells {w wr : World} {A : Option Addr} {c : Nat} {l : List Cl} {y1 : Bool} {y2 : Int} {y3 : Bool} {g d i k : Nat} {x : Cl} (h : MdT w wr A c l y1 y2 y3 (some ⟨g, 0, none⟩) d i) (hx : (hybL l i)[k]? = some x) :
    wr.cell? ⟨g, k * 7, none⟩ = some (.int .i64 x.r) ∧ wr.cell? ⟨g, k * 7 + 1, none⟩ = some (.int .i64 x.m0) ∧ wr.cell? ⟨g, k * 7 + 2, none⟩ = some (.int .i64 x.m1) ∧ wr.cell? ⟨g, k * 7 + 3, none⟩ = some (.int .i64 x.w) ∧
    wr.cell? ⟨g, k * 7 + 4, none⟩ = some (.int .i64 x.pen.fg) ∧ wr.cell? ⟨g, k * 7 + 5, none⟩ = some (.int .i64 x.pen.bg) ∧ wr.cell? ⟨g, k * 7 + 6, none⟩ = some (.int .i64 x.pen.fl) := by
  obtain ⟨b, o, e, _, hc⟩ := h.own.in_.at_ hx
  injection e with e
  injection e with e1 e2
  subst e1; subst e2
  simpa only [Nat.zero_add] using hc
theorem MdT.free {w wr : World} {A : Option Addr} {c : Nat} {l : List Cl} {y1 : Bool} {y2 : Int} {y3 : Bool} {g d i : Nat} (h : MdT w wr A c l y1 y2 y3 (some ⟨g, 0, none⟩) d i) (k : Nat) (hi : 0 < l.length) :
    wr.frozen? ⟨g, k * 7, none⟩ = false ∧ wr.frozen? ⟨g, k * 7 + 1, none⟩ = false ∧ wr.frozen? ⟨g, k * 7 + 2, none⟩ = false ∧ wr.frozen? ⟨g, k * 7 + 3, none⟩ = false ∧
    wr.frozen? ⟨g, k * 7 + 4, none⟩ = false ∧ wr.frozen? ⟨g, k * 7 + 5, none⟩ = false ∧ wr.frozen? ⟨g, k * 7 + 6, none⟩ = false := by
  obtain ⟨g', e, _, _, hf⟩ := h.own.at_ (by intro h0; have := hyb_len l i; rw [h0] at this; simp at this; omega)
  injection e with e
  injection e with e1
  subst e1
  exact ⟨hf _, hf _, hf _, hf _, hf _, hf _, hf _⟩
theorem empty_own (W : World) (b : Nat) (hb : b ≤ W.heap.size) : OwnC (W.alloc (.cells #[] 66)) b (some ⟨W.heap.size, 0, none⟩) 0 [] :=
  ⟨rfl, .inr ⟨W.heap.size, 0, #[], rfl, hb, heap_alloc_new W _, Nat.le_refl _, by simp [maxLen], rfl, rfl⟩⟩
set_option maxRecDepth 100000 in
set_option maxHeartbeats 1000000 in
theorem rMend_c (r : Rw) (A : Option Addr) (c : Nat) (w : World) (hin : InC w A c r.cs) (hlen : r.cs.length ≤ 8192) : Calls Try.prog 39 #[.agg #[.slice A r.cs.length c, .bool r.wrap, .int .i64 r.dir, .bool r.ex]] w (GivesRow { r with cs := mendL r.cs } w) := by
  obtain ⟨l, y1, y2, y3⟩ := r
  simp only at hin hlen ⊢
  have hX : Box ((w.alloc (.cells #[.slice A l.length c, .bool y1, .int .i64 y2, .bool y3] 35)).alloc (.cells #[.slice none 0 0, .bool false, .int .i64 0, .bool false] 35)) (w.heap.size + 1) 35 #[.slice none 0 0, .bool false, .int .i64 0, .bool false] := box_at1 w _ _ _
  have hY : Box ((w.alloc (.cells #[.slice A l.length c, .bool y1, .int .i64 y2, .bool y3] 35)).alloc (.cells #[.slice none 0 0, .bool false, .int .i64 0, .bool false] 35)) w.heap.size 35 #[.slice A l.length c, .bool y1, .int .i64 y2, .bool y3] := (Box.new w _ _).alloc _
  have hb : Below w.heap.size w ((w.alloc (.cells #[.slice A l.length c, .bool y1, .int .i64 y2, .bool y3] 35)).alloc (.cells #[.slice none 0 0, .bool false, .int .i64 0, .bool false] 35)) := ((Below.refl _ _).alloc (Nat.le_refl _) _).alloc (by simp) _
  have hin1 := hin.on hb
  have hs : ((w.alloc (.cells #[.slice A l.length c, .bool y1, .int .i64 y2, .bool y3] 35)).alloc (.cells #[.slice none 0 0, .bool false, .int .i64 0, .bool false] 35)).heap.size = w.heap.size + 2 := by simp
  clear hin
  go_enter Try.func39, Try.ntmps39
  go_upto_region 1 with fail
  generalize (w.alloc (.cells #[.slice A l.length c, .bool y1, .int .i64 y2, .bool y3] 35)).alloc (.cells #[.slice none 0 0, .bool false, .int .i64 0, .bool false] 35) = W at *
  have k0 : (W.alloc (.cells #[] 66)).cell? ⟨w.heap.size, 0, none⟩ = some (.slice A l.length c) := (hY.alloc _).cell 0
  have hal : Below W.heap.size W (W.alloc (.cells #[] 66)) := (Below.refl _ _).alloc (Nat.le_refl _) _
  have HO := Lib.hid (empty_own W (w.heap.size + 2) (by omega))
  have HI := Lib.hid (hin1.on hal)
  have hz : w.heap.size + 2 ≤ (W.alloc (.cells #[] 66)).heap.size := by simp; omega
  have HH := Lib.hid (And.intro (hX.alloc (.cells #[] 66)) (And.intro (hY.alloc (.cells #[] 66)) (And.intro (hb.trans (hal.mono hb.size)) hs)))
  clear hX hY hb hin1 hs hal
  go_wp2_with (at_builtin; refine wpList_append_cells rfl _ _ rfl (w.heap.size + 2) 0 (some ⟨W.heap.size, 0, none⟩) [] 0 rfl rfl HO.out A c l l.length rfl rfl HI.out (by simp; omega) hz ?_)
  intro B d w2 hown hO
  try simp only [List.nil_append] at hown hO ⊢
  have hW := HH.out.2.2.2
  have hx2 := hO.box HH.out.1 (by simp [Value.ownBlock]; omega)
  have hy2 := hO.box HH.out.2.1 (by simp [Value.ownBlock]; omega)
  have hb2 : Below w.heap.size w w2 := HH.out.2.2.1.trans (hO.belowBase (by simp; omega) (fun g hg => by simp [Value.ownBlock] at hg; omega))
  have HM0 : Hid (MdT w w2 A c l y1 y2 y3 B d 0) := Lib.hid ⟨hx2, hy2, hb2, by rw [hyb_zero]; exact hown⟩
  clear hx2 hy2 hb2 hown hO HO HI HH k0 hW hz
  go_wp2_with fail
  go_loopw [4] (fun u4 wr => ∃ i : Nat, i ≤ l.length ∧ u4 = .int .i64 (i : Int) ∧ Hid (MdT w wr A c l y1 y2 y3 B d i)) (fun u4 _ => l.length - (intOf u4).toNat)
  case atStart => exact ⟨0, Nat.zero_le _, rfl, HM0⟩
  case round =>
    obtain ⟨i, hi, rfl, HM⟩ := hrel
    clear HM0
    by_cases hlt : i < l.length
    · have z1 : (i : Int) < (l.length : Int) := by omega
      have hL := hyb_len l i
      have hpos : 0 < l.length := by omega
      obtain ⟨g, rfl, -, -, -⟩ := HM.out.own.at_ (by intro h0; rw [h0] at hL; simp at hL; omega)
      have hcap := HM.out.own.cap
      rw [hL] at hcap
      obtain ⟨x, hx⟩ : ∃ x, (hybL l i)[i]? = some x := ⟨_, List.getElem?_eq_getElem (by omega)⟩
      have hwx : wAt (hybL l i) i = x.w := wAt_some hx
      obtain ⟨-, -, -, k3, k4, k5, k6⟩ := HM.out.cells hx
      have HX := Lib.hid hx
      by_cases w0 : x.w = 2
      · have w1 : True := trivial
        have w2 : (x.w == 2) = true := by rw [w0]; rfl
        have w3 : (x.w == 0) = false := by rw [w0]; rfl
        by_cases hn : i + 1 < l.length
        · obtain ⟨y, hy⟩ : ∃ y, (hybL l i)[i + 1]? = some y := ⟨_, List.getElem?_eq_getElem (by omega)⟩
          have hwy : wAt (hybL l i) (i + 1) = y.w := wAt_some hy
          obtain ⟨-, -, -, n3, -, -, -⟩ := HM.out.cells hy
          have zn : ¬ (i : Int) + 1 ≥ (l.length : Int) := by omega
          have zn2 : (i : Int) + 1 < (l.length : Int) := by omega
          by_cases hy0 : y.w = 0
          · have w4 : (y.w != 0) = false := by rw [hy0]; rfl
            have HNB : Hid (¬ BadAt (hybL l i) i) := Lib.hid (by unfold BadAt; omega)
            clear hx hy hwx hwy w0 hy0 hL
            go_wp2_with fail
            exact ⟨⟨i + 1, by omega, by go_num, Lib.hid (HM.out.skip HNB.out)⟩, by simp [intOf]; omega⟩
          · have w4 : (y.w != 0) = true := bne_iff_ne.2 hy0
            have HBD : Hid (BadAt (hybL l i) i) := Lib.hid (by unfold BadAt; omega)
            clear hx hy hwx hwy w0 hy0 hL
            go_wp2_with fail
            refine (rBlank_c x.pen wr).mono ?_
            rintro e v1 ⟨rfl, hv1⟩
            have HM1 := Lib.hid (HM.out.on hv1)
            clear hv1 w4 n3 zn zn2 w1 w2 w3 k3 k4 k5 k6 HM
            obtain ⟨f0, f1, f2, f3, f4, f5, f6⟩ := HM1.out.free i hpos
            obtain ⟨m0, m1, m2, m3, m4, m5, m6⟩ := HM1.out.cells HX.out
            go_wp2_with fail
            exact ⟨⟨i + 1, by omega, by go_num, Lib.hid (HM1.out.put HX.out HBD.out)⟩, by simp [intOf]; omega⟩
        · have hwn : wAt (hybL l i) (i + 1) = 1 := wAt_none (by omega)
          have zn : (i : Int) + 1 ≥ (l.length : Int) := by omega
          have HBD : Hid (BadAt (hybL l i) i) := Lib.hid (by unfold BadAt; omega)
          clear hx hwx hwn w0 hL
          go_wp2_with fail
          refine (rBlank_c x.pen wr).mono ?_
          rintro e v1 ⟨rfl, hv1⟩
          have HM1 := Lib.hid (HM.out.on hv1)
          clear hv1 zn w1 w2 w3 k3 k4 k5 k6 HM
          obtain ⟨f0, f1, f2, f3, f4, f5, f6⟩ := HM1.out.free i hpos
          obtain ⟨m0, m1, m2, m3, m4, m5, m6⟩ := HM1.out.cells HX.out
          go_wp2_with fail
          exact ⟨⟨i + 1, by omega, by go_num, Lib.hid (HM1.out.put HX.out HBD.out)⟩, by simp [intOf]; omega⟩
      · have w2 : (x.w == 2) = false := beq_eq_false_iff_ne.2 w0
        have w1 : True := trivial
        by_cases hx0 : x.w = 0
        · have w3 : (x.w == 0) = true := by rw [hx0]; rfl
          by_cases hi0 : i = 0
          · have HBD : Hid (BadAt (hybL l i) i) := Lib.hid (by unfold BadAt; omega)
            have zi : ((i : Int) == 0) = true := by rw [hi0]; rfl
            clear hx hwx w0 hx0 hL hi0
            go_wp2_with fail
            refine (rBlank_c x.pen wr).mono ?_
            rintro e v1 ⟨rfl, hv1⟩
            have HM1 := Lib.hid (HM.out.on hv1)
            clear hv1 zi w1 w2 w3 k3 k4 k5 k6 HM
            obtain ⟨f0, f1, f2, f3, f4, f5, f6⟩ := HM1.out.free i hpos
            obtain ⟨m0, m1, m2, m3, m4, m5, m6⟩ := HM1.out.cells HX.out
            go_wp2_with fail
            exact ⟨⟨i + 1, by omega, by go_num, Lib.hid (HM1.out.put HX.out HBD.out)⟩, by simp [intOf]; omega⟩
          · obtain ⟨j, rfl⟩ : ∃ j, i = j + 1 := ⟨i - 1, by omega⟩
            obtain ⟨y, hy⟩ : ∃ y, (hybL l (j + 1))[j]? = some y := ⟨_, List.getElem?_eq_getElem (by omega)⟩
            have hwy : wAt (hybL l (j + 1)) (j + 1 - 1) = y.w := wAt_some hy
            obtain ⟨-, -, -, n3, -, -, -⟩ := HM.out.cells hy
            have zi : ((j : Int) + 1 == 0) = false := beq_eq_false_iff_ne.2 (by omega)
            have ej : ((j + 1 : Nat) : Int) = (j : Int) + 1 := by omega
            simp only [ej] at z1 ⊢
            by_cases hy0 : y.w = 2
            · have w4 : (y.w != 2) = false := by rw [hy0]; rfl
              have HNB : Hid (¬ BadAt (hybL l (j + 1)) (j + 1)) := Lib.hid (by unfold BadAt; omega)
              clear hx hy hwx hwy w0 hy0 hL hx0 hi0 ej
              go_wp2_with fail
              exact ⟨⟨j + 1 + 1, by omega, by go_num, Lib.hid (HM.out.skip HNB.out)⟩, by simp [intOf]; omega⟩
            · have w4 : (y.w != 2) = true := bne_iff_ne.2 hy0
              have HBD : Hid (BadAt (hybL l (j + 1)) (j + 1)) := Lib.hid (by unfold BadAt; omega)
              clear hx hy hwx hwy w0 hy0 hL hx0 hi0 ej
              go_wp2_with fail
              refine (rBlank_c x.pen wr).mono ?_
              rintro e v1 ⟨rfl, hv1⟩
              have HM1 := Lib.hid (HM.out.on hv1)
              clear hv1 w4 n3 zi w1 w2 w3 k3 k4 k5 k6 HM
              obtain ⟨f0, f1, f2, f3, f4, f5, f6⟩ := HM1.out.free (j + 1) hpos
              obtain ⟨m0, m1, m2, m3, m4, m5, m6⟩ := HM1.out.cells HX.out
              go_wp2_with fail
              exact ⟨⟨j + 1 + 1, by omega, by go_num, Lib.hid (HM1.out.put HX.out HBD.out)⟩, by simp [intOf]; omega⟩
        · have w3 : (x.w == 0) = false := beq_eq_false_iff_ne.2 hx0
          have HNB : Hid (¬ BadAt (hybL l i) i) := Lib.hid (by unfold BadAt; omega)
          clear hx hwx w0 hx0 hL
          go_wp2_with fail
          exact ⟨⟨i + 1, by omega, by go_num, Lib.hid (HM.out.skip HNB.out)⟩, by simp [intOf]; omega⟩
    · obtain rfl : i = l.length := by omega
      have z1 : ¬ (l.length : Int) < (l.length : Int) := by omega
      have hown := HM.out.own
      rw [hyb_all] at hown
      have hwith := fun V => rWith_c ⟨l, y1, y2, y3⟩ A B c d (mendL l) l.length (mend_len l).symm V
      simp only at hwith
      obtain ⟨j0, j1, j2, j3⟩ : wr.cell? ⟨w.heap.size, 0, none⟩ = some (.slice A l.length c) ∧ wr.cell? ⟨w.heap.size, 1, none⟩ = some (.bool y1) ∧ wr.cell? ⟨w.heap.size, 2, none⟩ = some (.int .i64 y2) ∧ wr.cell? ⟨w.heap.size, 3, none⟩ = some (.bool y3) := ⟨HM.out.ba.cell 0, HM.out.ba.cell 1, HM.out.ba.cell 2, HM.out.ba.cell 3⟩
      have HE := Lib.hid (And.intro HM.out.bx (And.intro HM.out.bl hown))
      have HWI := Lib.hid hwith
      clear hown hwith HM
      go_wp2_with fail
      refine (HWI.out wr).mono ?_
      rintro e v1 ⟨rfl, hv1⟩
      have hx1 := HE.out.1.below hv1 HE.out.1.lt
      have hb1 := HE.out.2.1.trans (hv1.mono HE.out.2.1.size)
      have ho1 := HE.out.2.2.on hv1
      obtain ⟨f0, f1, f2, f3⟩ : v1.frozen? ⟨w.heap.size + 1, 0, none⟩ = false ∧ v1.frozen? ⟨w.heap.size + 1, 1, none⟩ = false ∧ v1.frozen? ⟨w.heap.size + 1, 2, none⟩ = false ∧ v1.frozen? ⟨w.heap.size + 1, 3, none⟩ = false := ⟨hx1.free 0, hx1.free 1, hx1.free 2, hx1.free 3⟩
      obtain ⟨m0, m1, m2, m3⟩ : v1.cell? ⟨w.heap.size + 1, 0, none⟩ = some (.slice none 0 0) ∧ v1.cell? ⟨w.heap.size + 1, 1, none⟩ = some (.bool false) ∧ v1.cell? ⟨w.heap.size + 1, 2, none⟩ = some (.int .i64 0) ∧ v1.cell? ⟨w.heap.size + 1, 3, none⟩ = some (.bool false) := ⟨hx1.cell 0, hx1.cell 1, hx1.cell 2, hx1.cell 3⟩
      have HP := Lib.hid (hx1.put4 hb1 (Nat.le_succ _) (.slice B l.length d) (.bool y1) (.int .i64 y2) (.bool y3))
      have HQ := Lib.hid (ho1.far4 hx1 (by decide) (.slice B l.length d) (.bool y1) (.int .i64 y2) (.bool y3))
      clear hx1 hb1 ho1 hv1 j0 j1 j2 j3 HE HWI
      go_wp2_with fail
      refine bodyPost_ret (ret_rw rfl ⟨mendL l, y1, y2, y3⟩ B d _ _ (w.heap.size + 1) 35 rfl ?_) rfl ⟨B, d, rfl, HQ.out.in_, HP.out.2⟩
      have e : rwCells ⟨mendL l, y1, y2, y3⟩ B d = #[.slice B l.length d, .bool y1, .int .i64 y2, .bool y3] := by unfold rwCells; simp only [mend_len]
      rw [e]
      exact HP.out.1
end Go.Proofs.Ytinbdpfjpcgikaa
