/- Unpack, by its contract. -/
import Derived.Test.YtgmcpmhpafcihaaWalk01r
import Derived.Deep.DeepCutAuto
namespace Go.Proofs.Ytgmcpmhpafcihaa
open Go Go.RowKit
set_option linter.unusedVariables false
set_option linter.unusedSimpArgs false

theorem trip {r : Nat × Nat × Nat} (h : r.2.2 = 0) : r = (r.1, r.2.1, 0) := by
  obtain ⟨a, b, c⟩ := r; simp at h; subst h; rfl

theorem trip' {r : R3 × Nat × Nat} (h : r.2.2 = 0) : r = (r.1, r.2.1, 0) := by
  obtain ⟨a, b, c⟩ := r; simp at h; subst h; rfl

theorem read_err (A : Option Addr) (bs : List Nat) (c : Nat) (last : Int) (w : World) (hn : bs.length ≤ 100000) (hc : bs.length ≤ c) (hcm : c ≤ maxLen) (h : Byt w w.heap.size A bs) (hb : ∀ c ∈ bs, c < 256) (e : Nat) (he : (rowGo last bs).2.2 = e) (h0 : e ≠ 0) :
    Calls Try.prog 23 #[.slice A bs.length c, .int .i64 last] w fun e' w' => e' = .returned (.tuple #[.agg #[.int .i64 0, .int .i64 0, .int .i64 0], .slice none 0 0, .int .i64 e]) ∧ Below w.heap.size w w' := by
  unfold rowGo at he
  by_cases e0 : (numGo 0 0 bs).2.2 = 0
  · simp only [e0, ne_eq, not_true_eq_false, if_false] at he
    by_cases e1 : (numGo 0 0 (bs.drop (numGo 0 0 bs).2.1)).2.2 = 0
    · simp only [e1, ne_eq, not_true_eq_false, if_false] at he
      by_cases e2 : (numGo 0 0 ((bs.drop (numGo 0 0 bs).2.1).drop (numGo 0 0 (bs.drop (numGo 0 0 bs).2.1)).2.1)).2.2 = 0
      · simp only [e2, ne_eq, not_true_eq_false, if_false] at he; exact absurd he.symm h0
      · simp only [e2, ne_eq, not_false_eq_true, if_true] at he
        exact read_bad2 A bs c last w hn hc hcm h hb _ _ _ _ (trip e0) (trip e1) e he h0
    · simp only [e1, ne_eq, not_false_eq_true, if_true] at he
      exact read_bad1 A bs c last w hn hc hcm h hb _ _ (trip e0) e he h0
  · simp only [e0, ne_eq, not_false_eq_true, if_true] at he
    exact read_bad0 A bs c last w hn h hb e he h0
theorem read_good (A : Option Addr) (bs : List Nat) (c : Nat) (last : Int) (w : World) (hn : bs.length ≤ 100000) (hc : bs.length ≤ c) (hcm : c ≤ maxLen) (hl0 : 0 ≤ last) (hl1 : last ≤ 1125899906842624) (BB : Nat) (hBB : BB ≤ w.heap.size) (h : Byt w BB A bs) (hb : ∀ c ∈ bs, c < 256)
    (x : R3) (s : Nat) (he : rowGo last bs = (x, s, 0)) :
    Calls Try.prog 23 #[.slice A bs.length c, .int .i64 last] w fun e' w' => ∃ A' c', e' = .returned (.tuple #[.agg #[.int .i64 x.lo, .int .i64 x.hi, .int .i64 x.v], .slice A' (bs.drop s).length c', .int .i64 0]) ∧ Byt w' BB A' (bs.drop s) ∧ (bs.drop s).length ≤ c' ∧ c' ≤ maxLen ∧ Below w.heap.size w w' := by
  unfold rowGo at he
  by_cases e0 : (numGo 0 0 bs).2.2 = 0
  · simp only [e0, ne_eq, not_true_eq_false, if_false] at he
    by_cases e1 : (numGo 0 0 (bs.drop (numGo 0 0 bs).2.1)).2.2 = 0
    · simp only [e1, ne_eq, not_true_eq_false, if_false] at he
      by_cases e2 : (numGo 0 0 ((bs.drop (numGo 0 0 bs).2.1).drop (numGo 0 0 (bs.drop (numGo 0 0 bs).2.1)).2.1)).2.2 = 0
      · simp only [e2, ne_eq, not_true_eq_false, if_false] at he
        have r := read_ok A bs c last w hn hc hcm hl0 hl1 BB hBB h hb _ _ _ _ _ _ (trip e0) (trip e1) (trip e2)
        injection he with h1 h2
        injection h2 with h2 h3
        subst h1
        subst h2
        rw [List.length_drop]
        exact r
      · simp only [e2, ne_eq, not_false_eq_true, if_true] at he
        injection he with _ h2; injection h2 with _ h3; exact absurd h3 e2
    · simp only [e1, ne_eq, not_false_eq_true, if_true] at he
      injection he with _ h2; injection h2 with _ h3; exact absurd h3 e1
  · simp only [e0, ne_eq, not_false_eq_true, if_true] at he
    injection he with _ h2; injection h2 with _ h3; exact absurd h3 e0
theorem row_bd {last : Int} {bs : List Nat} {x : R3} {s : Nat} (he : rowGo last bs = (x, s, 0)) (h0 : 0 ≤ last) : 0 ≤ x.hi ∧ x.hi ≤ last + 536870912 := by
  unfold rowGo at he
  have y0 := (numGo_bd bs 0 0 (by omega) (by omega)).1
  have y1 := (numGo_bd (bs.drop (numGo 0 0 bs).2.1) 0 0 (by omega) (by omega)).1
  rw [show (128 : Nat) ^ 4 = 268435456 by decide] at y0 y1
  split at he
  · injection he with h1 h2; subst h1; simp; omega
  · dsimp only at he
    split at he
    · injection he with h1 h2; subst h1; simp; omega
    · split at he
      · injection he with h1 h2; subst h1; simp; omega
      · injection he with h1 h2; subst h1; simp only []; omega
theorem row_err_size {last : Int} {bs : List Nat} {x : R3} {s : Nat} (he : rowGo last bs = (x, s, 0)) : 0 < s ∧ s ≤ bs.length := by
  have := rowGo_size (last := last) (bs := bs) (by rw [he])
  rw [he] at this
  exact this

theorem own_far {w : World} {base : Nat} {e : TypeId} {size : Nat} {v : Value} {n : Nat} {xs : List Value} (h : w.ownsRow base e size v n xs) {p : Addr} (hne : v.ownBlock ≠ some p.block) (u : Value) : (w.setCell p u).ownsRow base e size v n xs := by
  refine ⟨h.1, ?_⟩
  rcases h.2 with hn | ⟨g, cap, cur, rfl, hb, hg, rest⟩
  · exact .inl hn
  · exact .inr ⟨g, cap, cur, rfl, hb, (Below.heap_setCell w p u g (fun e => hne (by rw [← e]; rfl))).trans hg, rest⟩
theorem byt_far {w : World} {B : Nat} {A : Option Addr} {bs : List Nat} (h : Byt w B A bs) {g i t : Nat} {cs : Array Value} (hG : Box w g t cs) (hcs : ∀ (i : Nat) (q : Int), cs[i]? ≠ some (Value.int .u8 q)) (u : Value) : Byt (w.setCell ⟨g, i, none⟩ u) B A bs := fun hl => by
  obtain ⟨b, o, e, hB, hc⟩ := h hl
  have hne : b ≠ g := by
    rintro rfl
    obtain ⟨x, t', rfl⟩ := List.exists_cons_of_ne_nil hl
    have h1 := hc 0 x rfl
    rw [hG.cell] at h1
    exact hcs _ _ h1
  exact ⟨b, o, e, hB, fun k x hx => (World.cell?_setCell_other w _ _ u (fun e => hne (by injection e with e1; exact e1.symm))).trans (hc k x hx)⟩

def lenOf : Value → Nat
  | .slice _ n _ => n
  | _ => 0
def unpR (done : List R3) (r : List R3 × Nat) : List R3 × Nat := if r.2 ≠ 0 then ([], r.2) else (done ++ r.1, 0)
theorem unpR_err {f : Nat} {lst : Int} {c : Nat} {t : List Nat} {done : List R3} {e : Nat} (h : (rowGo lst (c :: t)).2.2 = e) (h0 : e ≠ 0) : unpR done (unpGo (f + 1) lst (c :: t)) = ([], e) := by
  have : unpGo (f + 1) lst (c :: t) = ([], e) := by simp only [unpGo]; rw [if_pos (by rw [h]; exact h0), h]
  rw [this]; unfold unpR; rw [if_pos h0]
theorem unpR_ok {f : Nat} {lst : Int} {c : Nat} {t : List Nat} {done : List R3} {x : R3} {s : Nat} (h : rowGo lst (c :: t) = (x, s, 0)) : unpR done (unpGo (f + 1) lst (c :: t)) = unpR (done ++ [x]) (unpGo f x.hi ((c :: t).drop s)) := by
  simp only [unpGo, h]
  generalize unpGo f x.hi ((c :: t).drop s) = r
  unfold unpR
  by_cases hr : r.2 = 0
  · simp [hr]
  · simp [hr]
theorem unpR_nil {f : Nat} {lst : Int} {done : List R3} : unpR done (unpGo f lst []) = (done, 0) := by
  have : unpGo f lst [] = ([], 0) := by cases f <;> rfl
  rw [this]; simp [unpR]

/-- What Unpack answers. -/
def unTab (bs : List Nat) : List R3 := if (unpGo bs.length 0 bs).2 = 0 ∧ saneF (unpGo bs.length 0 bs).1 = true then (unpGo bs.length 0 bs).1 else []
def unErr (bs : List Nat) : Nat := if (unpGo bs.length 0 bs).2 ≠ 0 then (unpGo bs.length 0 bs).2 else if saneF (unpGo bs.length 0 bs).1 = true then 0 else 2

set_option maxRecDepth 100000 in
set_option maxHeartbeats 4000000 in
theorem unpack_c (A : Option Addr) (bs : List Nat) (c : Nat) (w : World) (hn : bs.length ≤ 4000) (hc : bs.length ≤ c) (hcm : c ≤ maxLen) (h : Byt w w.heap.size A bs) (hb : ∀ c ∈ bs, c < 256) :
    Calls Try.prog 12 #[.slice A bs.length c] w fun e' w' => ∃ A' c', e' = .returned (.tuple #[.agg #[.slice A' (unTab bs).length c'], .int .i64 (unErr bs)]) ∧ Tab w' w'.heap.size A' (unTab bs) ∧ Below w.heap.size w w' := by
  obtain ⟨i0, hi, hz0, hz1, hz2⟩ := info_parts infoRow
  go_enter Try.func12, Try.ntmps12
  go_wp2
  have hb0 : Below w.heap.size w (w.alloc (.cells #[.slice none 0 0] 27)) := (Below.refl _ _).alloc (Nat.le_refl _) _
  go_loopw [0, 4, 5] (fun bv lv la wr => ∃ (done : List R3) (lst : Int) (rest : List Nat) (A' : Option Addr) (c' n f : Nat), bv = .slice A' rest.length c' ∧ Byt wr w.heap.size A' rest ∧ rest.length ≤ c' ∧ c' ≤ maxLen ∧ la = .int .i64 lst ∧ 0 ≤ lst ∧ lst ≤ done.length * 536870912 ∧ wr.ownsRow (w.heap.size + 1) 47 3 lv n (flat done) ∧ Box wr w.heap.size 27 #[.slice none 0 0] ∧
      rest.length ≤ f ∧ done.length + rest.length ≤ bs.length ∧ unpGo bs.length 0 bs = unpR done (unpGo f lst rest) ∧ (∀ c ∈ rest, c < 256) ∧ Below w.heap.size w wr) (fun bv _ _ _ => lenOf bv)
  case atStart => exact ⟨[], 0, bs, A, c, 0, bs.length, rfl, h.below hb0, hc, hcm, rfl, Int.le_refl _, by simp, World.ownsRow_nil _ _ _ _, Box.new w _ _, Nat.le_refl _, by simp, by unfold unpR; split <;> (apply Prod.ext <;> simp_all [unp_err]), hb, hb0⟩
  case round =>
    obtain ⟨done, lst, rest, A', c', n, f, rfl, hB, hrc, hcm', rfl, hl0, hl1, hown, hbox, hrf, hdl, hun, hbr, hbel⟩ := hrel
    have HUN := Lib.hid hun
    clear hun
    obtain rfl := (own_cases hown).1
    obtain ⟨A4, c4, rfl, hc4, hm4⟩ := own_form1 hown
    have hc0 : wr.cell? ⟨w.heap.size, 0, none⟩ = some (.slice none 0 0) := hbox.cell 0
    have hf0 := hbox.free 0
    cases rest with
    | nil =>
      have hu : unpGo bs.length 0 bs = (done, 0) := by rw [HUN.out, unpR_nil]
      have hT := Tab.of_own hown
      go_wp2_with fail
      cases hs : saneF done
      · have HS := Lib.hid hs
        have hue : unErr bs = 2 := by unfold unErr; rw [hu]; simp [hs]
        have hut : unTab bs = [] := by unfold unTab; rw [hu]; simp [hs]
        have HUE := Lib.hid hue
        have HUT := Lib.hid hut
        clear hs hue hut hu
        refine (sane_c A4 done c4 _ (by unfold maxLen; omega) hT false HS.out).mono ?_
        rintro e w1 ⟨rfl, hz⟩
        have hbox1 := hbox.below hz hbox.lt
        have hc1 : w1.cell? ⟨w.heap.size, 0, none⟩ = some (.slice none 0 0) := hbox1.cell 0
        have hf1 := hbox1.free 0
        have hb1 := hbel.trans (hz.mono hbel.size)
        have hb2 := hb1.setCell (p := ⟨w.heap.size, 0, none⟩) (Nat.le_refl _) (.slice none 0 0)
        clear hz hc0 hf0 hown hT hB hbox
        go_wp2
        exact bodyPost_ret (v := .tuple #[.agg #[.slice none 0 0], .int .i64 2]) (by simp [results, Try.results12, go_sem, hc1]) rfl ⟨none, 0, by rw [HUE.out, HUT.out]; rfl, by rw [HUT.out]; exact Tab.nil, hb2⟩
      · have HS := Lib.hid hs
        have hue : unErr bs = 0 := by unfold unErr; rw [hu]; simp [hs]
        have hut : unTab bs = done := by unfold unTab; rw [hu]; simp [hs]
        have HUE := Lib.hid hue
        have HUT := Lib.hid hut
        clear hs hue hut hu
        refine (sane_c A4 done c4 _ (by unfold maxLen; omega) hT true HS.out).mono ?_
        rintro e w1 ⟨rfl, hz⟩
        have hbox1 := hbox.below hz hbox.lt
        have hc1 : w1.cell? ⟨w.heap.size, 0, none⟩ = some (.slice none 0 0) := hbox1.cell 0
        have hf1 := hbox1.free 0
        have hb1 := hbel.trans (hz.mono hbel.size)
        have hb2 := hb1.setCell (p := ⟨w.heap.size, 0, none⟩) (Nat.le_refl _) (.slice A4 done.length c4)
        have hT1 := ((hT.below hz).more hz.size).setCell (p := ⟨w.heap.size, 0, none⟩) (.slice A4 done.length c4) (fun b o e => by
          subst e
          have := (hown.lt b rfl).1
          simp only []
          omega)
        have hT2 : Tab (w1.setCell ⟨w.heap.size, 0, none⟩ (.slice A4 done.length c4)) (w1.setCell ⟨w.heap.size, 0, none⟩ (.slice A4 done.length c4)).heap.size A4 done := hT1.more (by simp [World.setCell])
        clear hz hc0 hf0 hown hT hT1 hB hbox
        go_wp2
        exact bodyPost_ret (v := .tuple #[.agg #[.slice A4 done.length c4], .int .i64 0]) (by simp [results, Try.results12, go_sem, hc1]) rfl ⟨A4, c4, by rw [HUE.out, HUT.out]; rfl, by rw [HUT.out]; exact hT2, hb2⟩
    | cons c0 t =>
      obtain ⟨f, rfl⟩ : ∃ f', f = f' + 1 := ⟨f - 1, by simp at hrf; omega⟩
      have hpos : (0 : Int) < ((c0 :: t).length : Int) := by simp only [List.length_cons]; omega
      have hxb := Box.new wr 47 #[.int .i64 0, .int .i64 0, .int .i64 0]
      have hzA : Below wr.heap.size wr (wr.alloc (.cells #[.int .i64 0, .int .i64 0, .int .i64 0] 47)) := (Below.refl _ _).alloc (Nat.le_refl _) _
      by_cases he : (rowGo lst (c0 :: t)).2.2 = 0
      · obtain ⟨x, sz, hxs⟩ : ∃ x sz, rowGo lst (c0 :: t) = (x, sz, 0) := ⟨(rowGo lst (c0 :: t)).1, (rowGo lst (c0 :: t)).2.1, trip' he⟩
        have hu : unpGo bs.length 0 bs = unpR (done ++ [x]) (unpGo f x.hi ((c0 :: t).drop sz)) := by rw [HUN.out, unpR_ok hxs]
        have HU := Lib.hid hu
        have hbd := row_bd hxs hl0
        have hsz := row_err_size hxs
        have HXS := Lib.hid hxs
        clear hu hxs he HUN
        generalize hrest : c0 :: t = rest at *
        have hd4 : decide ((done.length : Int) ≤ 4096) = true := by simp; omega
        have hdl4 : done.length ≤ 4000 := by omega
        go_wp2_with fail
        refine (read_good A' rest c' lst _ (by omega) hrc hcm' hl0 (by omega) w.heap.size (by have := hbel.size; simp; omega) (hB.below (hzA.mono hbel.size)) hbr x sz HXS.out).mono ?_
        rintro e' w1 ⟨A7, c7, rfl, hB7, hrc7, hcm7, hz⟩
        have hown1 := own_below (hown.alloc (.cells #[.int .i64 0, .int .i64 0, .int .i64 0] 47)) hz
        have hbox1 := (hbox.alloc (.cells #[.int .i64 0, .int .i64 0, .int .i64 0] 47)).below hz (by have := hbox.lt; simp; omega)
        have hxb1 := hxb.below hz (by simp)
        have hx0 := hxb1.cell 0
        have hx1 := hxb1.cell 1
        have hx2 := hxb1.cell 2
        have hxf0 := hxb1.free 0
        have hxf1 := hxb1.free 1
        have hxf2 := hxb1.free 2
        have hb1 := (hbel.alloc hbel.size (.cells #[.int .i64 0, .int .i64 0, .int .i64 0] 47)).trans (hz.mono (by have := hbel.size; simp; omega))
        have hlt1 := hxb1.lt
        have hne1 : w.heap.size ≠ wr.heap.size := by have := hbox.lt; omega
        have hvX : (Value.slice A4 done.length c4).ownBlock ≠ some wr.heap.size := fun e => by have := (hown.lt _ e).2; omega
        have hxx := ((hxb1.set_ 0 (.int .i64 x.lo)).set_ 1 (.int .i64 x.hi)).set_ 2 (.int .i64 x.v)
        have hownx := own_far (own_far (own_far hown1 (p := ⟨wr.heap.size, 0, none⟩) hvX (.int .i64 x.lo)) (p := ⟨wr.heap.size, 1, none⟩) hvX (.int .i64 x.hi)) (p := ⟨wr.heap.size, 2, none⟩) hvX (.int .i64 x.v)
        have hboxx := ((hbox1.far (p := ⟨wr.heap.size, 0, none⟩) hne1 (.int .i64 x.lo)).far (p := ⟨wr.heap.size, 1, none⟩) hne1 (.int .i64 x.hi)).far (p := ⟨wr.heap.size, 2, none⟩) hne1 (.int .i64 x.v)
        have hno : ∀ (a b c : Int) (i : Nat) (q : Int), (#[Value.int .i64 a, .int .i64 b, .int .i64 c] : Array Value)[i]? ≠ some (.int .u8 q) := fun a b c i q => by
          match i with
          | 0 => simp
          | 1 => simp
          | 2 => simp
          | i + 3 => simp
        have hBx := byt_far (byt_far (byt_far hB7 (i := 0) hxb1 (hno _ _ _) (.int .i64 x.lo)) (i := 1) (hxb1.set_ 0 (.int .i64 x.lo)) (hno _ _ _) (.int .i64 x.hi)) (i := 2) ((hxb1.set_ 0 (.int .i64 x.lo)).set_ 1 (.int .i64 x.hi)) (hno _ _ _) (.int .i64 x.v)
        have hbx := ((hb1.setCell (p := ⟨wr.heap.size, 0, none⟩) hbel.size (.int .i64 x.lo)).setCell (p := ⟨wr.heap.size, 1, none⟩) hbel.size (.int .i64 x.hi)).setCell (p := ⟨wr.heap.size, 2, none⟩) hbel.size (.int .i64 x.v)
        go_upto_region 9 with fail
        generalize ((w1.setCell ⟨wr.heap.size, 0, none⟩ (.int .i64 x.lo)).setCell ⟨wr.heap.size, 1, none⟩ (.int .i64 x.hi)).setCell ⟨wr.heap.size, 2, none⟩ (.int .i64 x.v) = w2 at *
        have hX : Box w2 wr.heap.size 47 #[.int .i64 x.lo, .int .i64 x.hi, .int .i64 x.v] := hxx
        have g0 : w2.cell? ⟨wr.heap.size, 0, none⟩ = some (.int .i64 x.lo) := hX.cell 0
        have g1 : w2.cell? ⟨wr.heap.size, 1, none⟩ = some (.int .i64 x.hi) := hX.cell 1
        have g2 : w2.cell? ⟨wr.heap.size, 2, none⟩ = some (.int .i64 x.v) := hX.cell 2
        clear hx0 hx1 hx2 hxf0 hxf1 hxf2 hxx hxb1 hxb hB7 hB hown1 hown hbox1 hbox hb1 hc0 hf0 hz hzA hno
        go_wp2_with (at_builtin; refine wpList_append_own _ rfl _ _ 25 rfl (w.heap.size + 1) 47 i0 _ 3 24 Try.underlying25 hi hz0 hz1 hz2 rfl (by decide) _ _ _ rfl (hownx.alloc _) ⟨w2.heap.size, 0, none⟩ 1 1 (rowCells x) rfl rfl (news w2 47 x) (row_one _) (by unfold maxLen; omega) (by omega) (by have := hboxx.lt; simp; omega) ?_; intro v' w3 hown3 hgrow _)
        have hbA : Below w.heap.size w2 w3 := ((Below.refl _ _).alloc hbx.size _).grown hgrow (by have := hbx.size; simp; omega) (fun g hg => by have := (hownx.lt g hg).1; omega)
        have hbox3 := (hboxx.alloc (.cells #[.int .i64 x.lo, .int .i64 x.hi, .int .i64 x.v] 47)).grown hgrow (fun e => by have := (hownx.lt _ e.symm).1; omega)
        have hB3 := hBx.below hbA
        have hown4 : w3.ownsRow (w.heap.size + 1) 47 3 v' (done.length + 1) (flat (done ++ [x])) := by rw [flat_snoc]; exact hown3
        have hdr : (rest.drop sz).length = rest.length - sz := List.length_drop
        refine ⟨⟨done ++ [x], x.hi, rest.drop sz, A7, c7, _, f, by rw [hdr], hB3, hrc7, hcm7, rfl, hbd.1, by simp; omega, hown4, hbox3, by rw [hdr]; omega, by rw [hdr]; simp; omega, HU.out, drop_bytes hbr _, hbx.trans hbA⟩, ?_⟩
        simp only [lenOf]
        omega
      · obtain ⟨e, hee⟩ : ∃ e, (rowGo lst (c0 :: t)).2.2 = e := ⟨_, rfl⟩
        have hen : e ≠ 0 := by rw [← hee]; exact he
        have hbad : ((e : Int) != 0) = true := by rw [bne_iff_ne]; omega
        have hu : unpGo bs.length 0 bs = ([], e) := by rw [HUN.out, unpR_err hee hen]
        have hue : unErr bs = e := by unfold unErr; rw [hu]; simp [hen]
        have hut : unTab bs = [] := by unfold unTab; rw [hu]; simp [hen]
        have HUE := Lib.hid hue
        have HUT := Lib.hid hut
        have HEE := Lib.hid hee
        clear hue hut hu hee he
        generalize hrest : c0 :: t = rest at *
        go_wp2_with fail
        refine (read_err A' rest c' lst _ (by omega) hrc hcm' (((hB.more hbel.size).below hzA).more hzA.size) hbr e HEE.out hen).mono ?_
        rintro e' w1 ⟨rfl, hz⟩
        have hbox1 := (hbox.alloc (.cells #[.int .i64 0, .int .i64 0, .int .i64 0] 47)).below hz (by have := hbox.lt; simp; omega)
        have hxb1 := hxb.below hz (by simp)
        have hc1 : w1.cell? ⟨w.heap.size, 0, none⟩ = some (.slice none 0 0) := hbox1.cell 0
        have hf1 := hbox1.free 0
        have hx0 := hxb1.cell 0
        have hx1 := hxb1.cell 1
        have hx2 := hxb1.cell 2
        have hxf0 := hxb1.free 0
        have hxf1 := hxb1.free 1
        have hxf2 := hxb1.free 2
        have hb1 := (hbel.alloc hbel.size (.cells #[.int .i64 0, .int .i64 0, .int .i64 0] 47)).trans (hz.mono (by have := hbel.size; simp; omega))
        have hlt1 := hbox1.lt
        have hne1 : w.heap.size ≠ wr.heap.size := by have := hbox.lt; omega
        clear hz hc0 hf0 hown hB hbox hxb
        go_wp2
        refine bodyPost_ret (v := .tuple #[.agg #[.slice none 0 0], .int .i64 e]) (by simp [results, Try.results12, go_sem, hc1, hne1]) rfl ⟨none, 0, by rw [HUE.out, HUT.out]; rfl, by rw [HUT.out]; exact Tab.nil, ?_⟩
        have hsz := hbel.size
        repeat (first | exact hb1 | refine Below.setCell ?_ (by simp only []; omega) _)
end Go.Proofs.Ytgmcpmhpafcihaa
