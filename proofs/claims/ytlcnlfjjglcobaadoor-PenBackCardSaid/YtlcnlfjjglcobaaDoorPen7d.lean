/- Package pen: the numbers that tell a colour, and those that are told of one. -/
import Derived.Test.YtlcnlfjjglcobaaDoorPen7c
import Derived.Test.YtlcnlfjjglcobaaDoorP5Get
import Derived.Test.YtlcnlfjjglcobaaDoorP5Mk
import Derived.Test.YtlcnlfjjglcobaaDoorAppR
namespace Go.Proofs.YtlcnlfjjglcobaaDoor
open Go Go.RowKit
set_option linter.unusedVariables false
set_option linter.unusedSimpArgs false

/-- Numbers are told. -/
def GivesE (l : List Int) (W : World) (e : Ending) (w' : World) : Prop := ∃ A c, e = .returned (.slice A l.length c) ∧ ElOk w' w'.heap.size ⟨A, c, l⟩ ∧ Below W.heap.size W w'
theorem lit_el (w : World) (l : List Int) (h : l.length ≤ maxLen) : ElOk (w.alloc (.cells (l.map intV).toArray 3)) (w.alloc (.cells (l.map intV).toArray 3)).heap.size ⟨some ⟨w.heap.size, 0, none⟩, l.length, l⟩ :=
  ⟨Rd.of_box (Box.new w 3 (l.map intV).toArray), Nat.le_refl _, h⟩
theorem own_one7 (w : World) (x : Int) : (w.alloc (.cells #[.int .i64 x] 3)).ownsRow w.heap.size 3 1 (.slice (some ⟨w.heap.size, 0, none⟩) 1 1) 1 [.int .i64 x] :=
  ⟨rfl, .inr ⟨w.heap.size, 1, #[.int .i64 x], rfl, Nat.le_refl _, Box.new w _ _, Nat.le_refl _, by decide, rfl, rfl⟩⟩
theorem ElOk.of_own {w : World} {base : Nat} {A : Option Addr} {n c : Nat} {l : List Int} (h : w.ownsRow base 3 1 (.slice A n c) n (l.map intV)) : ElOk w w.heap.size ⟨A, c, l⟩ := by
  have hn := own_len h
  have hc := own_cap h
  exact ⟨Rd.of_own h, by simp only; omega, hc.2⟩
theorem nil_slice' {w : World} {base : Nat} {e : TypeId} {size : Nat} {v : Value} {n : Nat} {xs : List Value} (h : w.ownsRow base e size v n xs) : ∃ A c, v = .slice A n c := by
  obtain ⟨A, c, h, _⟩ := own_form1 h
  exact ⟨A, c, h⟩
set_option maxRecDepth 100000 in
set_option maxHeartbeats 4000000 in
theorem space_c (A : Option Addr) (c : Nat) (l : List Int) (w : World) (ok : ElOk w w.heap.size ⟨A, c, l⟩) (hne : l ≠ []) : Calls Tryd.prog 32 #[.slice A l.length c] w (GivesE (spaceC l) w) := by
  obtain ⟨i0, hi, hz0, hz1, hz2⟩ := info_parts infoInt
  have hcap := ok.cap
  have hmax := ok.max
  simp only at hcap hmax
  have hmax' := hmax
  unfold maxLen at hmax'
  obtain ⟨b, o, ha, hb, hc⟩ := ok.rd hne
  simp only at ha hc
  subst ha
  obtain ⟨x, t, rfl⟩ := List.exists_cons_of_ne_nil hne
  have hx := hc 0 x rfl
  unfold intV at hx
  simp only [Nat.add_zero] at hx
  by_cases h2 : x = 2
  · by_cases h4 : (x :: t).length ≤ 4
    · have e : spaceC (x :: t) = x :: t := by unfold spaceC; rw [if_pos (.inr h4)]
      rw [e]
      have HG : Hid (GivesE (x :: t) w (.returned (.slice (some ⟨b, o, none⟩) (x :: t).length c)) w) := Lib.hid ⟨_, _, rfl, ok, Below.refl _ _⟩
      generalize hR : GivesE (x :: t) w = R at *
      have hl0 : 0 < (x :: t).length := by simp
      generalize (x :: t).length = len at *
      subst h2
      have z1 : (len : Int) ≤ 4 := by omega
      clear hc ok e hR hne
      go_enter Tryd.func32, Tryd.ntmps32
      go_wp2_with fail
      exact HG.out
    · match t, h4 with
      | [], h4 => simp at h4
      | [_], h4 => simp at h4
      | [_, _], h4 => simp at h4
      | [_, _, _], h4 => simp at h4
      | g :: p :: q :: r :: u, h4 =>
        subst h2
        have e : spaceC (2 :: g :: p :: q :: r :: u) = [2, p, q, r] := by
          unfold spaceC; rw [if_neg (by simp)]; rfl
        rw [e]
        have hR0 := (ok.rd.drop 2).take 3
        have hb1 : Below w.heap.size w (w.alloc (.cells #[.int .i64 2] 3)) := (Below.refl _ _).alloc (Nat.le_refl _) _
        have hR : Rd intV (w.alloc (.cells #[.int .i64 2] 3)) w.heap.size (some ⟨b, o + 2, none⟩) [p, q, r] := hR0.below hb1
        have hown := own_one7 w 2
        have hl5 : 5 ≤ (2 :: g :: p :: q :: r :: u).length := by simp
        generalize hR' : GivesE [2, p, q, r] w = R
        have HG := Lib.hid hR'
        generalize (2 :: g :: p :: q :: r :: u).length = len at *
        have zc : ¬ c = 2 := by omega
        have z1 : ¬ (len : Int) ≤ 4 := by omega
        clear hc ok e hne hR0 h4 hR'
        go_enter Tryd.func32, Tryd.ntmps32
        go_wp2_with (at_builtin; refine wpList_append_rd (f := intV) (fun _ => rfl) rfl _ _ 34 rfl w.heap.size 3 i0 _ 8 Tryd.underlying34 hi hz0 hz1 hz2 rfl _ 1 [.int .i64 2] rfl hown (some ⟨b, o + 2, none⟩) (c - 2) _ [p, q, r] rfl hR (by unfold maxLen; simp) (by simp) (by simp) ?_)
        intro v' w2 hown2 hO
        obtain ⟨A', c', rfl⟩ := nil_slice' hown2
        have hbel : Below w.heap.size w w2 := hb1.trans (hO.belowBase (by simp) (fun g hg => (own_block hown hg).1))
        have HO := Lib.hid hown2
        clear hown2 hO hown hR
        go_wp2_with fail
        rw [← HG.out]
        exact ⟨A', c', rfl, ElOk.of_own (l := [2, p, q, r]) HO.out, hbel⟩
  · have e : spaceC (x :: t) = x :: t := by unfold spaceC; rw [if_pos (.inl h2)]
    rw [e]
    have HG : Hid (GivesE (x :: t) w (.returned (.slice (some ⟨b, o, none⟩) (x :: t).length c)) w) := Lib.hid ⟨_, _, rfl, ok, Below.refl _ _⟩
    generalize hR : GivesE (x :: t) w = R at *
    have hl0 : 0 < (x :: t).length := by simp
    generalize (x :: t).length = len at *
    have z1 : (x != 2) = true := bne_iff_ne.2 h2
    clear hc ok e hR hne h2
    go_enter Tryd.func32, Tryd.ntmps32
    go_wp2_with fail
    exact HG.out
theorem firsts_at {es : List El} {k : Nat} {e : El} (h : es[k]? = some e) (hk : k < 4) : (firstsC (qs es)).take (k + 1) = (firstsC (qs es)).take k ++ [getC e.q (-1)] := by
  refine take_snoc ?_
  unfold firstsC
  rw [List.getElem?_map, List.getElem?_take, if_pos hk, qs_at h]
  rfl
theorem getP_at {es : List El} {k : Nat} {e : El} (h : es[k]? = some e) (u : Int) : getP (qs es) (k : Int) u = getC e.q u := by
  unfold getP getC
  rw [if_pos (by omega), Int.toNat_natCast, qs_at h]
  cases e.q <;> rfl
theorem firsts_len (es : List El) : (firstsC (qs es)).length = min es.length 4 := by
  unfold firstsC
  simp only [List.length_map, List.length_take, qs_length]
  omega
set_option maxRecDepth 100000 in
set_option maxHeartbeats 4000000 in
theorem firsts_c (A : Option Addr) (c : Nat) (es : List El) (w : World) (hin : InP w A c es) : Calls Tryd.prog 33 #[.slice A es.length c] w (GivesE (firstsC (qs es)) w) := by
  obtain ⟨i0, hi, hz0, hz1, hz2⟩ := info_parts infoInt
  have hl := hin.len
  unfold maxLen at hl
  generalize hR' : GivesE (firstsC (qs es)) w = R
  have HG := Lib.hid hR'
  have HIN := Lib.hid hin
  have HI := Lib.hid (And.intro hi (And.intro hz0 (And.intro hz1 hz2)))
  have hown0 : w.ownsRow w.heap.size 3 1 (.slice none 0 0) 0 (((firstsC (qs es)).take 0).map intV) := ⟨rfl, .inl ⟨rfl, rfl⟩⟩
  have HO0 := Lib.hid hown0
  clear hin hR' hown0 hi hz0 hz1 hz2
  by_cases h4 : es.length ≤ 4
  · have z4 : ((es.length : Nat) : Int) ≤ 4 := by omega
    have HFL := Lib.hid (show (firstsC (qs es)).length = es.length by rw [firsts_len]; omega)
    go_enter Tryd.func33, Tryd.ntmps33
    go_wp2_with fail
    go_loopw [3, 8] (fun u3 u8 wr => ∃ (k : Nat) (B : Option Addr) (d : Nat), k ≤ es.length ∧ u8 = .int .i64 (k : Int) ∧ u3 = .slice B k d ∧ Below w.heap.size w wr ∧ Hid (wr.ownsRow w.heap.size 3 1 (.slice B k d) k (((firstsC (qs es)).take k).map intV))) (fun _ u8 _ => es.length - (intOf u8).toNat)
    case atStart => exact ⟨0, none, 0, by omega, rfl, rfl, Below.refl _ _, HO0⟩
    case round =>
      obtain ⟨k, B, d, hk, rfl, rfl, hbel, HO⟩ := hrel
      by_cases hlt : k < es.length
      · obtain ⟨e, hx⟩ : ∃ e, es[k]? = some e := ⟨_, List.getElem?_eq_getElem (by omega)⟩
        have z1 : (k : Int) < (es.length : Int) := by omega
        have hget := get_c A c es (k : Int) (-1) wr (HIN.out.on hbel)
        rw [getP_at hx] at hget
        have hts := firsts_at hx (by omega)
        generalize getC e.q (-1) = x at *
        have HTS := Lib.hid hts
        clear hx hts
        go_wp2_with fail
        refine hget.mono ?_
        rintro r w1 ⟨rfl, hb1⟩
        have hb2 : Below wr.heap.size wr (w1.alloc (.cells #[.int .i64 x] 3)) := hb1.alloc hb1.size _
        have hown := own_below HO.out hb2
        have hR : Rd intV (w1.alloc (.cells #[.int .i64 x] 3)) (w1.heap.size + 1) (some ⟨w1.heap.size, 0, none⟩) [x] := by
          have := Rd.of_box (f := intV) (l := [x]) (Box.new w1 3 #[.int .i64 x])
          simpa using this
        have hbs : w.heap.size ≤ w1.heap.size := by have := hbel.size; have := hb1.size; omega
        have HBB := Lib.hid (hbel.trans (hb2.mono hbel.size))
        clear hget hb1 hb2
        obtain ⟨hi, hz0, hz1, hz2⟩ := HI.out
        go_wp2_with (at_builtin; refine wpList_append_rd (f := intV) (fun _ => rfl) rfl _ _ 34 rfl w.heap.size 3 i0 _ 8 Tryd.underlying34 hi hz0 hz1 hz2 rfl _ k _ rfl hown (some ⟨w1.heap.size, 0, none⟩) 1 _ [x] rfl hR (by simp only [List.length_cons, List.length_nil]; unfold maxLen; omega) (by simp only [List.length_cons, List.length_nil]; omega) (by simp; omega) ?_)
        intro v' w2 hown2 hO
        obtain ⟨A', c', rfl⟩ := nil_slice' hown2
        have hbel2 : Below w.heap.size w w2 := HBB.out.trans (hO.belowBase HBB.out.size (fun g hg => (own_block hown hg).1))
        have HO2 : Hid (w2.ownsRow w.heap.size 3 1 (.slice A' (k + 1) c') (k + 1) (((firstsC (qs es)).take (k + 1)).map intV)) := Lib.hid (by
          rw [HTS.out, List.map_append, List.map_take]
          exact hown2)
        clear hown2 hO hown hR hi hz0 hz1 hz2 HTS HBB HO hbs
        go_wp2_with fail
        exact ⟨⟨k + 1, A', c', by omega, by simp, rfl, hbel2, HO2⟩, by simp [intOf]; omega⟩
      · have hke : k = es.length := by omega
        have z1 : ¬ (k : Int) < (es.length : Int) := by omega
        have HO3 : Hid (wr.ownsRow w.heap.size 3 1 (.slice B k d) k ((firstsC (qs es)).map intV)) := Lib.hid (by
          have := HO.out
          rwa [List.take_of_length_le (by rw [HFL.out]; omega)] at this)
        have HKL := Lib.hid (show (firstsC (qs es)).length = k by rw [HFL.out]; omega)
        clear hke HO
        go_wp2_with fail
        rw [← HG.out]
        refine ⟨B, d, by rw [HKL.out], ElOk.of_own HO3.out, hbel⟩
  · have z4 : ¬ ((es.length : Nat) : Int) ≤ 4 := by omega
    have HFL := Lib.hid (show (firstsC (qs es)).length = 4 by rw [firsts_len]; omega)
    go_enter Tryd.func33, Tryd.ntmps33
    go_wp2_with fail
    go_loopw [3, 8] (fun u3 u8 wr => ∃ (k : Nat) (B : Option Addr) (d : Nat), k ≤ 4 ∧ u8 = .int .i64 (k : Int) ∧ u3 = .slice B k d ∧ Below w.heap.size w wr ∧ Hid (wr.ownsRow w.heap.size 3 1 (.slice B k d) k (((firstsC (qs es)).take k).map intV))) (fun _ u8 _ => 4 - (intOf u8).toNat)
    case atStart => exact ⟨0, none, 0, by omega, rfl, rfl, Below.refl _ _, HO0⟩
    case round =>
      obtain ⟨k, B, d, hk, rfl, rfl, hbel, HO⟩ := hrel
      by_cases hlt : k < 4
      · obtain ⟨e, hx⟩ : ∃ e, es[k]? = some e := ⟨_, List.getElem?_eq_getElem (by omega)⟩
        have z1 : (k : Int) < 4 := by omega
        have hget := get_c A c es (k : Int) (-1) wr (HIN.out.on hbel)
        rw [getP_at hx] at hget
        have hts := firsts_at hx (by omega)
        generalize getC e.q (-1) = x at *
        have HTS := Lib.hid hts
        clear hx hts
        go_wp2_with fail
        refine hget.mono ?_
        rintro r w1 ⟨rfl, hb1⟩
        have hb2 : Below wr.heap.size wr (w1.alloc (.cells #[.int .i64 x] 3)) := hb1.alloc hb1.size _
        have hown := own_below HO.out hb2
        have hR : Rd intV (w1.alloc (.cells #[.int .i64 x] 3)) (w1.heap.size + 1) (some ⟨w1.heap.size, 0, none⟩) [x] := by
          have := Rd.of_box (f := intV) (l := [x]) (Box.new w1 3 #[.int .i64 x])
          simpa using this
        have hbs : w.heap.size ≤ w1.heap.size := by have := hbel.size; have := hb1.size; omega
        have HBB := Lib.hid (hbel.trans (hb2.mono hbel.size))
        clear hget hb1 hb2
        obtain ⟨hi, hz0, hz1, hz2⟩ := HI.out
        go_wp2_with (at_builtin; refine wpList_append_rd (f := intV) (fun _ => rfl) rfl _ _ 34 rfl w.heap.size 3 i0 _ 8 Tryd.underlying34 hi hz0 hz1 hz2 rfl _ k _ rfl hown (some ⟨w1.heap.size, 0, none⟩) 1 _ [x] rfl hR (by simp only [List.length_cons, List.length_nil]; unfold maxLen; omega) (by simp only [List.length_cons, List.length_nil]; omega) (by simp; omega) ?_)
        intro v' w2 hown2 hO
        obtain ⟨A', c', rfl⟩ := nil_slice' hown2
        have hbel2 : Below w.heap.size w w2 := HBB.out.trans (hO.belowBase HBB.out.size (fun g hg => (own_block hown hg).1))
        have HO2 : Hid (w2.ownsRow w.heap.size 3 1 (.slice A' (k + 1) c') (k + 1) (((firstsC (qs es)).take (k + 1)).map intV)) := Lib.hid (by
          rw [HTS.out, List.map_append, List.map_take]
          exact hown2)
        clear hown2 hO hown hR hi hz0 hz1 hz2 HTS HBB HO hbs
        go_wp2_with fail
        exact ⟨⟨k + 1, A', c', by omega, by simp, rfl, hbel2, HO2⟩, by simp [intOf]; omega⟩
      · have hke : k = 4 := by omega
        have z1 : ¬ (k : Int) < 4 := by omega
        have HO3 : Hid (wr.ownsRow w.heap.size 3 1 (.slice B k d) k ((firstsC (qs es)).map intV)) := Lib.hid (by
          have := HO.out
          rwa [List.take_of_length_le (by rw [HFL.out]; omega)] at this)
        have HKL := Lib.hid (show (firstsC (qs es)).length = k by rw [HFL.out]; omega)
        clear hke HO
        go_wp2_with fail
        rw [← HG.out]
        refine ⟨B, d, by rw [HKL.out], ElOk.of_own HO3.out, hbel⟩
theorem num_i64 {c more : Int} (hc : ColOk c) (hm : more = 0 ∨ more = 10) : (partsN c).2.1 ≤ 255 ∧ 0 ≤ (partsN c).2.1 := by
  unfold ColOk at hc
  unfold partsN
  split
  · simp
  split
  · simp only; omega
  split
  · simp only; omega
  · simp
/-- Numbers are told, in a row of the call's own. -/
def GivesO (l : List Int) (W : World) (e : Ending) (w' : World) : Prop := ∃ A c, e = .returned (.slice A l.length c) ∧ w'.ownsRow W.heap.size 3 1 (.slice A l.length c) l.length (l.map intV) ∧ Below W.heap.size W w'
theorem lit_gives {w w1 : World} {l : List Int} (h : w.heap.size ≤ w1.heap.size) (hb : Below w.heap.size w w1) (hl : l.length ≤ maxLen) : GivesO l w (.returned (.slice (some ⟨w1.heap.size, 0, none⟩) l.length l.length)) (w1.alloc (.cells (l.map intV).toArray 3)) :=
  ⟨_, _, rfl, ⟨by simp, .inr ⟨w1.heap.size, l.length, (l.map intV).toArray, rfl, h, Box.new w1 3 _, Nat.le_refl _, hl, by simp, by rw [List.take_of_length_le (by simp)]⟩⟩, hb.alloc h _⟩
set_option maxRecDepth 100000 in
set_option maxHeartbeats 4000000 in
theorem numbers_c (c more : Int) (w : World) (hc : ColOk c) (hm : more = 0 ∨ more = 10) : Calls Tryd.prog 18 #[.int .i64 c, .int .i64 more] w (GivesO (numC c more) w) := by
  have h := parts_s c w (col_i64 hc)
  have hr := num_i64 hc hm
  have hk := parts_range c
  have h3 := (parts_ok c).1 hc
  have HN : Hid (numC c more = if (partsN c).1 = 0 then [] else if (partsN c).1 = 2 then [38 + more, 2, (partsN c).2.1, (partsN c).2.2.1, (partsN c).2.2.2]
    else if (partsN c).2.1 < 8 then [30 + more + (partsN c).2.1] else if (partsN c).2.1 < 16 then [90 + more + (partsN c).2.1 - 8] else [38 + more, 5, (partsN c).2.1]) := Lib.hid rfl
  generalize numC c more = l at *
  generalize (partsN c).1 = a at *
  generalize (partsN c).2.1 = b at *
  generalize (partsN c).2.2.1 = d at *
  generalize (partsN c).2.2.2 = f at *
  obtain ⟨hr0, hr1⟩ := hr
  have hm0 : 0 ≤ more := by omega
  have hm1 : more ≤ 10 := by omega
  clear hc hm
  rcases (show a = 0 ∨ a = 2 ∨ a = 1 by omega) with rfl | rfl | rfl
  · have e := HN.out
    rw [if_pos rfl] at e
    subst e
    clear hk h3 HN
    go_enter Tryd.func18, Tryd.ntmps18
    go_wp2_with fail
    refine h.mono ?_
    rintro e w' ⟨rfl, rfl⟩
    clear h
    go_wp2_with fail
    go_ret
    exact ⟨none, 0, rfl, ⟨rfl, .inl ⟨rfl, rfl⟩⟩, Below.refl _ _⟩
  · have e := HN.out
    rw [if_neg (by omega), if_pos rfl] at e
    subst e
    clear hk h3 HN
    have hg := lit_gives (Nat.le_refl _) (Below.refl w.heap.size w) (l := [38 + more, 2, b, d, f]) (by unfold maxLen; simp)
    generalize GivesO [38 + more, 2, b, d, f] w = R at *
    have HG := Lib.hid hg
    clear hg
    go_enter Tryd.func18, Tryd.ntmps18
    go_wp2_with fail
    refine h.mono ?_
    rintro e w' ⟨rfl, rfl⟩
    clear h
    go_wp2_with fail
    exact HG.out
  · rcases (show b < 8 ∨ (8 ≤ b ∧ b < 16) ∨ 16 ≤ b by omega) with k | ⟨k1, k⟩ | k
    · have e := HN.out
      rw [if_neg (by omega), if_neg (by omega), if_pos k] at e
      subst e
      clear hk h3 HN
      have hg := lit_gives (Nat.le_refl _) (Below.refl w.heap.size w) (l := [30 + more + b]) (by unfold maxLen; simp)
      generalize GivesO [30 + more + b] w = R at *
      have HG := Lib.hid hg
      clear hg
      go_enter Tryd.func18, Tryd.ntmps18
      go_wp2_with fail
      refine h.mono ?_
      rintro e w' ⟨rfl, rfl⟩
      clear h
      go_wp2_with fail
      exact HG.out
    · have e := HN.out
      rw [if_neg (by omega), if_neg (by omega), if_neg (by omega), if_pos k] at e
      subst e
      clear hk h3 HN
      have hg := lit_gives (Nat.le_refl _) (Below.refl w.heap.size w) (l := [90 + more + b - 8]) (by unfold maxLen; simp)
      generalize GivesO [90 + more + b - 8] w = R at *
      have HG := Lib.hid hg
      clear hg
      have z1 : ¬ b < 8 := by omega
      go_enter Tryd.func18, Tryd.ntmps18
      go_wp2_with fail
      refine h.mono ?_
      rintro e w' ⟨rfl, rfl⟩
      clear h
      go_wp2_with fail
      exact HG.out
    · have e := HN.out
      rw [if_neg (by omega), if_neg (by omega), if_neg (by omega), if_neg (by omega)] at e
      subst e
      clear hk h3 HN
      have hg := lit_gives (Nat.le_refl _) (Below.refl w.heap.size w) (l := [38 + more, 5, b]) (by unfold maxLen; simp)
      generalize GivesO [38 + more, 5, b] w = R at *
      have HG := Lib.hid hg
      clear hg
      have z1 : ¬ b < 8 := by omega
      have z2 : ¬ b < 16 := by omega
      go_enter Tryd.func18, Tryd.ntmps18
      go_wp2_with fail
      refine h.mono ?_
      rintro e w' ⟨rfl, rfl⟩
      clear h
      go_wp2_with fail
      exact HG.out
end Go.Proofs.YtlcnlfjjglcobaaDoor
