/- The document's new rows, walked: Blank, blanks, New, letter. -/
import Derived.Test.YtcadbapccdclaaaMemC
import Derived.Test.YtcadbapccdclaaaPenS
import Derived.Deep.DeepCutAuto
namespace Go.Proofs.Ytcadbapccdclaaa
open Go Go.RowKit
set_option linter.unusedVariables false
set_option linter.unusedSimpArgs false

theorem ret_cl {fn : Func} {p : Tmp} (h : fn.results = #[.cell p 47]) (x : Cl) (tmps : Array Value) (W : World) (g : Nat) (t : TypeId) (hp : tmps.getD p undef = .pointer (some ⟨g, 0, none⟩)) (hg : Box W g t #[.int .i64 x.r, .int .i64 x.m0, .int .i64 x.m1, .int .i64 x.w, .int .i64 x.pen.fg, .int .i64 x.pen.bg, .int .i64 x.pen.fl]) :
    (results fn tmps).run Try.prog W = .ok (clV x) W :=
  results_cell_row h tmps W g t _ (0, 0) _ hp hg Try.underlying47 rfl (by kernel_rfl)
theorem ret_rw {fn : Func} {p : Tmp} (h : fn.results = #[.cell p 35]) (r : Rw) (A : Option Addr) (c : Nat) (tmps : Array Value) (W : World) (g : Nat) (t : TypeId) (hp : tmps.getD p undef = .pointer (some ⟨g, 0, none⟩)) (hg : Box W g t (rwCells r A c)) :
    (results fn tmps).run Try.prog W = .ok (rwV r A c) W :=
  results_cell_row h tmps W g t (rwCells r A c) (0, 0) _ hp hg Try.underlying35 rfl (by kernel_rfl)
theorem box_at1 (w : World) (o : Obj) (t : TypeId) (cs : Array Value) : Box ((w.alloc o).alloc (.cells cs t)) (w.heap.size + 1) t cs := by
  have h := Box.new (w.alloc o) t cs
  simpa using h
set_option maxRecDepth 100000 in
set_option maxHeartbeats 4000000 in
theorem rBlank_c (p : Pn) (w : World) : Calls Try.prog 36 #[.agg #[.int .i64 p.fg, .int .i64 p.bg, .int .i64 p.fl]] w fun e w' => e = .returned (.agg #[.int .i64 0, .int .i64 0, .int .i64 0, .int .i64 1, .int .i64 p.fg, .int .i64 p.bg, .int .i64 p.fl]) ∧ Below w.heap.size w w' := by
  go_enter Try.func36, Try.ntmps36
  go_wp2_with fail
  exact bodyPost_ret (ret_cl rfl (blankC p) _ _ _ _ rfl (box_at1 w _ _ _)) rfl ⟨rfl, ((Below.refl _ _).alloc (Nat.le_refl _) _).alloc (by simp) _⟩
theorem rLetter_c (n : Int) (w : World) : Calls Try.prog 37 #[.int .i64 n] w fun e w' => e = .returned (.bool (decide (LetC n))) ∧ w = w' := by
  rcases (show n < 0 ∨ (0 ≤ n ∧ n ≤ 1114111) ∨ (0 ≤ n ∧ 1114111 < n) by omega) with k | ⟨k, k'⟩ | ⟨k, k'⟩
  · rw [show decide (LetC n) = false from decide_eq_false (by unfold LetC; omega)]
    have z : ¬ 0 ≤ n := by omega
    go_enter Try.func37, Try.ntmps37
    go_wp2
    go_ret
    exact ⟨rfl, rfl⟩
  · rw [show decide (LetC n) = true from decide_eq_true (by unfold LetC; omega)]
    go_enter Try.func37, Try.ntmps37
    go_wp2
    go_ret
    exact ⟨rfl, rfl⟩
  · rw [show decide (LetC n) = false from decide_eq_false (by unfold LetC; omega)]
    have z : ¬ n ≤ 1114111 := by omega
    go_enter Try.func37, Try.ntmps37
    go_wp2
    go_ret
    exact ⟨rfl, rfl⟩
theorem rep_snoc (k : Nat) (x : Cl) : List.replicate k x ++ [x] = List.replicate (k + 1) x := by
  rw [List.replicate_succ']
theorem one_in (w : World) (g : Nat) (t : TypeId) (x : Cl) (h : Box w g t #[.int .i64 x.r, .int .i64 x.m0, .int .i64 x.m1, .int .i64 x.w, .int .i64 x.pen.fg, .int .i64 x.pen.bg, .int .i64 x.pen.fl]) : InC w (some ⟨g, 0, none⟩) 1 [x] := by
  refine ⟨fun _ => ⟨g, 0, rfl, h.lt, fun k e hk j u hu => ?_⟩, by simp, by simp [maxLen]⟩
  have hk0 : k = 0 := by
    have := (List.getElem?_eq_some_iff.1 hk).1
    simp at this; omega
  subst hk0
  simp at hk; subst hk
  have hj : j < 7 := (List.getElem?_eq_some_iff.1 hu).1
  have := h.cell j
  simp only [Nat.zero_mul, Nat.zero_add]
  rw [this, ← hu]
  match j, hj with
  | 0, _ => rfl
  | 1, _ => rfl
  | 2, _ => rfl
  | 3, _ => rfl
  | 4, _ => rfl
  | 5, _ => rfl
  | 6, _ => rfl
def GivesB (n : Nat) (p : Pn) (W : World) (e : Ending) (w' : World) : Prop := ∃ A c, e = .returned (.slice A n c) ∧ OwnC w' W.heap.size A c (List.replicate n (blankC p)) ∧ Below W.heap.size W w'
set_option maxRecDepth 100000 in
set_option maxHeartbeats 4000000 in
theorem rBlanks_c (n : Nat) (hn : n ≤ 4096) (p : Pn) (w : World) : Calls Try.prog 27 #[.int .i64 (n : Int), .agg #[.int .i64 p.fg, .int .i64 p.bg, .int .i64 p.fl]] w (GivesB n p w) := by
  have hbl := rBlank_c p
  have hb0 : Box (w.alloc (.cells #[.int .i64 p.fg, .int .i64 p.bg, .int .i64 p.fl] 31)) w.heap.size 31 #[.int .i64 p.fg, .int .i64 p.bg, .int .i64 p.fl] := Box.new w _ _
  have hb1 : Below w.heap.size w (w.alloc (.cells #[.int .i64 p.fg, .int .i64 p.bg, .int .i64 p.fl] 31)) := (Below.refl _ _).alloc (Nat.le_refl _) _
  have HB := Lib.hid (And.intro hb0 hb1)
  clear hb0 hb1
  go_enter Try.func27, Try.ntmps27
  go_wp2_with fail
  go_loopw [5, 6] (fun u5 u6 wr => ∃ (k : Nat) (A : Option Addr) (c : Nat), k ≤ n ∧ u6 = .int .i64 (k : Int) ∧ u5 = .slice A k c ∧ Hid (OwnC wr w.heap.size A c (List.replicate k (blankC p))) ∧ Hid (Box wr w.heap.size 31 #[.int .i64 p.fg, .int .i64 p.bg, .int .i64 p.fl]) ∧ Hid (Below w.heap.size w wr)) (fun _ u6 _ => n - (intOf u6).toNat)
  case atStart => exact ⟨0, none, 0, Nat.zero_le _, rfl, rfl, Lib.hid ⟨rfl, .inl ⟨rfl, rfl⟩⟩, Lib.hid HB.out.1, Lib.hid HB.out.2⟩
  case round =>
    obtain ⟨k, A, c, hk, rfl, rfl, hown, hbx, hbel⟩ := hrel
    by_cases hlt : k < n
    · have z1 : (k : Int) < (n : Int) := by omega
      obtain ⟨⟨k0, k1, k2⟩, -⟩ := hbx.out.three
      go_wp2_with fail
      refine (hbl wr).mono ?_
      rintro e v1 ⟨rfl, hv1⟩
      have hbel1 := hbel.out.trans (hv1.mono hbel.out.size)
      have hown1 : OwnC v1 w.heap.size A c (List.replicate k (blankC p)) := hown.out.on hv1
      have hbx1 := hbx.out.below hv1 hbx.out.lt
      have hne : (Value.slice A k c).ownBlock ≠ some w.heap.size := by
        have := hown1.box hbx1 (by decide)
        simpa using this
      have hone := one_in (v1.alloc (.cells #[.int .i64 0, .int .i64 0, .int .i64 0, .int .i64 1, .int .i64 p.fg, .int .i64 p.bg, .int .i64 p.fl] 47)) v1.heap.size 47 (blankC p) (Box.new v1 47 #[.int .i64 0, .int .i64 0, .int .i64 0, .int .i64 1, .int .i64 p.fg, .int .i64 p.bg, .int .i64 p.fl])
      have hal : Below v1.heap.size v1 (v1.alloc (.cells #[.int .i64 0, .int .i64 0, .int .i64 0, .int .i64 1, .int .i64 p.fg, .int .i64 p.bg, .int .i64 p.fl] 47)) := (Below.refl _ _).alloc (Nat.le_refl _) _
      have hown2 := hown1.on hal
      have hbx2 := hbx1.below hal hbx1.lt
      have hbel2 := hbel1.trans (hal.mono hbel1.size)
      have hsz := hbel2.size
      have HA := Lib.hid (And.intro hown2 (And.intro hbx2 (And.intro hbel2 (And.intro hone hne))))
      clear hv1 hbel1 hown1 hbx1 hne hone hal hown2 hbx2 hbel2 hown hbx hbel k0 k1 k2
      go_wp2_with (at_builtin; refine wpList_append_cells rfl _ _ rfl w.heap.size c A (List.replicate k (blankC p)) k rfl (by rw [List.length_replicate]) HA.out.1 (some ⟨v1.heap.size, 0, none⟩) 1 [blankC p] 1 rfl rfl HA.out.2.2.2.1 (by rw [List.length_replicate]; simp; omega) hsz ?_)
      intro B' d w2 hown3 hO
      rw [rep_snoc] at hown3
      have hrl0 : (List.replicate k (blankC p)).length = k := List.length_replicate
      have hbx3 := hO.box HA.out.2.1 HA.out.2.2.2.2
      have hbel3 : Below w.heap.size w w2 := HA.out.2.2.1.trans (hO.belowBase hsz (fun g hg => by
        have := HA.out.1
        unfold OwnC at this
        rw [hrl0] at this
        exact (own_block this hg).1))
      have HO := Lib.hid hown3
      have HX := Lib.hid hbx3
      have HE := Lib.hid hbel3
      clear hown3 hO hbx3 hbel3 HA
      go_wp2_with fail
      exact ⟨⟨k + 1, B', d, by omega, by go_num, rfl, HO, HX, HE⟩, by simp [intOf]; omega⟩
    · obtain rfl : k = n := by omega
      have z1 : ¬ (k : Int) < (k : Int) := by omega
      go_wp2_with fail
      go_ret
      exact ⟨A, c, rfl, hown.out, hbel.out⟩
theorem Box.put4 {w W : World} {B g : Nat} {t : TypeId} {o0 o1 o2 o3 : Value} (h : Box W g t #[o0, o1, o2, o3]) (hb : Below B w W) (hg : B ≤ g) (v0 v1 v2 v3 : Value) :
    Box ((((W.setCell ⟨g, 0, none⟩ v0).setCell ⟨g, 1, none⟩ v1).setCell ⟨g, 2, none⟩ v2).setCell ⟨g, 3, none⟩ v3) g t #[v0, v1, v2, v3] ∧
    Below B w ((((W.setCell ⟨g, 0, none⟩ v0).setCell ⟨g, 1, none⟩ v1).setCell ⟨g, 2, none⟩ v2).setCell ⟨g, 3, none⟩ v3) :=
  have h0 : Box (W.setCell ⟨g, 0, none⟩ v0) g t #[v0, o1, o2, o3] := h.set_ 0 v0
  have h1 : Box ((W.setCell ⟨g, 0, none⟩ v0).setCell ⟨g, 1, none⟩ v1) g t #[v0, v1, o2, o3] := h0.set_ 1 v1
  have h2 : Box (((W.setCell ⟨g, 0, none⟩ v0).setCell ⟨g, 1, none⟩ v1).setCell ⟨g, 2, none⟩ v2) g t #[v0, v1, v2, o3] := h1.set_ 2 v2
  ⟨h2.set_ 3 v3, (((hb.setCell (p := ⟨g, 0, none⟩) hg v0).setCell (p := ⟨g, 1, none⟩) hg v1).setCell (p := ⟨g, 2, none⟩) hg v2).setCell (p := ⟨g, 3, none⟩) hg v3⟩
/-- A row's box is stored: cells that the call owns stay. -/
theorem OwnC.far4 {w : World} {base g : Nat} {A : Option Addr} {c : Nat} {l : List Cl} {t : TypeId} {cs : Array Value} (h : OwnC w base A c l) (hb : Box w g t cs) (hne : 47 ≠ t) (v0 v1 v2 v3 : Value) :
    OwnC ((((w.setCell ⟨g, 0, none⟩ v0).setCell ⟨g, 1, none⟩ v1).setCell ⟨g, 2, none⟩ v2).setCell ⟨g, 3, none⟩ v3) base A c l := by
  have hn := h.box hb hne
  unfold OwnC at h ⊢
  exact own_far (own_far (own_far (own_far h (p := ⟨g, 0, none⟩) hn v0) (p := ⟨g, 1, none⟩) hn v1) (p := ⟨g, 2, none⟩) hn v2) (p := ⟨g, 3, none⟩) hn v3
set_option maxRecDepth 100000 in
set_option maxHeartbeats 400000 in
theorem rNew_c (n : Int) (p : Pn) (w : World) (hn : I64 n) : Calls Try.prog 11 #[.int .i64 n, .agg #[.int .i64 p.fg, .int .i64 p.bg, .int .i64 p.fl]] w (GivesRow (newR n p) w) := by
  have hb : ∀ (m : Int) V, m = max 1 (min n 4096) → Calls Try.prog 27 #[.int .i64 m, .agg #[.int .i64 p.fg, .int .i64 p.bg, .int .i64 p.fl]] V (GivesB (max 1 (min n 4096)).toNat p V) := fun m V hm => by
    have e : (((max 1 (min n 4096)).toNat : Nat) : Int) = m := by omega
    have h := rBlanks_c (max 1 (min n 4096)).toNat (by omega) p V
    rw [e] at h
    exact h
  unfold newR
  generalize hK : (max 1 (min n 4096)).toNat = K at *
  clear hK
  have HB := Lib.hid hb
  have HX : Hid (Box ((w.alloc (.cells #[.int .i64 p.fg, .int .i64 p.bg, .int .i64 p.fl] 31)).alloc (.cells #[.slice none 0 0, .bool false, .int .i64 0, .bool false] 35)) (w.heap.size + 1) 35 #[.slice none 0 0, .bool false, .int .i64 0, .bool false] ∧ Below w.heap.size w ((w.alloc (.cells #[.int .i64 p.fg, .int .i64 p.bg, .int .i64 p.fl] 31)).alloc (.cells #[.slice none 0 0, .bool false, .int .i64 0, .bool false] 35))) := Lib.hid ⟨box_at1 w _ _ _, ((Below.refl _ _).alloc (Nat.le_refl _) _).alloc (by simp) _⟩
  unfold I64 at hn
  obtain ⟨hn0, hn1⟩ := hn
  clear hb
  go_enter Try.func11, Try.ntmps11
  go_wp2_with fail
  all_goals
    refine (HB.out _ _ (by omega)).mono ?_
    rintro e v1 ⟨A, c, rfl, hown, hv1⟩
    have hbx := HX.out.1.below hv1 HX.out.1.lt
    have hbl := HX.out.2.trans (hv1.mono HX.out.2.size)
    obtain ⟨f0, f1, f2, f3⟩ : v1.frozen? ⟨w.heap.size + 1, 0, none⟩ = false ∧ v1.frozen? ⟨w.heap.size + 1, 1, none⟩ = false ∧ v1.frozen? ⟨w.heap.size + 1, 2, none⟩ = false ∧ v1.frozen? ⟨w.heap.size + 1, 3, none⟩ = false := ⟨hbx.free 0, hbx.free 1, hbx.free 2, hbx.free 3⟩
    obtain ⟨k0, k1, k2, k3⟩ : v1.cell? ⟨w.heap.size + 1, 0, none⟩ = some (.slice none 0 0) ∧ v1.cell? ⟨w.heap.size + 1, 1, none⟩ = some (.bool false) ∧ v1.cell? ⟨w.heap.size + 1, 2, none⟩ = some (.int .i64 0) ∧ v1.cell? ⟨w.heap.size + 1, 3, none⟩ = some (.bool false) := ⟨hbx.cell 0, hbx.cell 1, hbx.cell 2, hbx.cell 3⟩
    have HD := Lib.hid (And.intro hbx (And.intro hbl hown))
    clear hbx hbl hown hv1
    go_wp2_with fail
    have hp4 := HD.out.1.put4 HD.out.2.1 (Nat.le_succ _) (.slice A K c) (.bool false) (.int .i64 0) (.bool false)
    have ho4 := (HD.out.2.2.far4 HD.out.1 (by decide) (.slice A K c) (.bool false) (.int .i64 0) (.bool false)).in_
    refine bodyPost_ret (ret_rw rfl ⟨List.replicate K (blankC p), false, 0, false⟩ A c _ _ (w.heap.size + 1) 35 rfl ?_) rfl ⟨A, c, rfl, ho4, hp4.2⟩
    have e : rwCells ⟨List.replicate K (blankC p), false, 0, false⟩ A c = #[.slice A K c, .bool false, .int .i64 0, .bool false] := by unfold rwCells; simp only [List.length_replicate]
    rw [e]
    exact hp4.1
end Go.Proofs.Ytcadbapccdclaaa
