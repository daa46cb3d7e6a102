/- Package pen: a pen as parameters. -/
import Derived.Test.YtlcnlfjjglcobaaDoorPen7d
namespace Go.Proofs.YtlcnlfjjglcobaaDoor
open Go Go.RowKit
set_option linter.unusedVariables false
set_option linter.unusedSimpArgs false

/-- Parameters of the call's own. -/
structure PrL (w : World) (base : Nat) (A : Option Addr) (c : Nat) (es : List El) : Prop where
  own : w.ownsRow base 34 1 (.slice A es.length c) es.length (es.map elV)
  els : ∀ e ∈ es, w.ownsRow base 3 1 (elV e) e.q.length (e.q.map intV)
theorem PrL.below {w w1 : World} {base : Nat} {A : Option Addr} {c : Nat} {es : List El} (h : PrL w base A c es) (hb : Below w.heap.size w w1) : PrL w1 base A c es :=
  ⟨own_below h.own hb, fun e he => own_below (h.els e he) hb⟩
theorem PrL.in_ {w : World} {base : Nat} {A : Option Addr} {c : Nat} {es : List El} (h : PrL w base A c es) : InP w A c es :=
  ⟨Nest.of_own h.own fun e he => ⟨Rd.of_own (h.els e he), (own_cap (h.els e he)).1, (own_cap (h.els e he)).2⟩, (own_cap h.own).1, (own_cap h.own).2⟩
theorem PrL.off {w : World} {base : Nat} {A : Option Addr} {c : Nat} {es : List El} (h : PrL w base A c es) {X : Nat} (hX : X < base) : Off X A es := by
  refine ⟨fun hn a ha => ?_, fun e he hq a ha => ?_⟩
  · subst ha
    have := (own_block h.own (g := a.block) rfl).1
    omega
  · have := (own_block (h.els e he) (g := a.block) (by unfold elV; rw [ha]; rfl)).1
    omega
/-- One parameter of one number more: in memory, the number, the slice of it, and that of these. -/
theorem PrL.push {w1 w2 : World} {base : Nat} {A : Option Addr} {c : Nat} {es : List El} (h : PrL w1 base A c es) {e : El} (hn : w1.ownsRow base 3 1 (elV e) e.q.length (e.q.map intV))
    {A' : Option Addr} {c' : Nat} (hO : Own1 w1 w2 (.slice A es.length c) (.slice A' (es.length + 1) c')) (hown : w2.ownsRow base 34 1 (.slice A' (es.length + 1) c') (es.length + 1) (es.map elV ++ [elV e])) :
    PrL w2 base A' c' (es ++ [e]) := by
  refine ⟨by simpa using hown, fun x hx => ?_⟩
  rcases List.mem_append.1 hx with hx | hx
  · exact hO.keep (h.els x hx) (own_tys h.own (h.els x hx) (by decide))
  · simp at hx; subst hx; exact hO.keep hn (own_tys h.own hn (by decide))
/-- The number in a slice of one, and the slice in a slice of one. -/
theorem lit_one {w : World} {base : Nat} (hb : base ≤ w.heap.size) (x : Int) :
    ((w.alloc (.cells #[.int .i64 x] 3)).alloc (.cells #[.slice (some ⟨w.heap.size, 0, none⟩) 1 1] 34)).ownsRow base 3 1 (elV ⟨some ⟨w.heap.size, 0, none⟩, 1, [x]⟩) 1 ([x].map intV) ∧
    Rd elV ((w.alloc (.cells #[.int .i64 x] 3)).alloc (.cells #[.slice (some ⟨w.heap.size, 0, none⟩) 1 1] 34)) (w.heap.size + 1 + 1) (some ⟨w.heap.size + 1, 0, none⟩) [⟨some ⟨w.heap.size, 0, none⟩, 1, [x]⟩] ∧
    Below w.heap.size w ((w.alloc (.cells #[.int .i64 x] 3)).alloc (.cells #[.slice (some ⟨w.heap.size, 0, none⟩) 1 1] 34)) := by
  have b1 : Below w.heap.size w (w.alloc (.cells #[.int .i64 x] 3)) := (Below.refl _ _).alloc (Nat.le_refl _) _
  have h2 := Box.new (w.alloc (.cells #[.int .i64 x] 3)) 34 #[.slice (some ⟨w.heap.size, 0, none⟩) 1 1]
  have e1 : (w.alloc (.cells #[.int .i64 x] 3)).heap.size = w.heap.size + 1 := by simp
  rw [e1] at h2
  refine ⟨⟨rfl, .inr ⟨w.heap.size, 1, #[.int .i64 x], rfl, hb, (Box.new w 3 #[.int .i64 x]).alloc _, Nat.le_refl _, by decide, rfl, rfl⟩⟩, ?_, b1.alloc b1.size _⟩
  have := Rd.of_box (f := elV) (l := [⟨some ⟨w.heap.size, 0, none⟩, 1, [x]⟩]) h2
  simpa using this
theorem fl_snoc {f : Int} {k : Nat} {x : Int × Int × Int} (h : rowsT[k]? = some x) : flC f (rowsT.take (k + 1)) = flC f (rowsT.take k) ++ (if bits .and .i64 f x.1 = 0 then [] else [[x.2.1]]) := by
  unfold flC
  rw [take_snoc h, List.filter_append, List.map_append]
  congr 1
  by_cases e : bits .and .i64 f x.1 = 0
  · simp [e]
  · simp [e]
theorem numC_len (c more : Int) : (numC c more).length ≤ 5 := by
  unfold numC
  repeat' split
  all_goals simp
theorem fl_len (f : Int) (k : Nat) : (flC f (rowsT.take k)).length ≤ 9 := by
  unfold flC
  rw [List.length_map]
  refine Nat.le_trans (List.length_filter_le _ _) ?_
  rw [List.length_take]
  have : rowsT.length = 9 := rfl
  omega
/-- Where Print stands: what is there so far. -/
def PrAt (w wr : World) (p : Pn) (A : Option Addr) (c : Nat) (n : Nat) (l : List (List Int)) : Prop :=
  ∃ es, es.length = n ∧ qs es = l ∧ PrL wr (w.heap.size + 1) A c es ∧ Box wr w.heap.size 23 #[.int .i64 p.fg, .int .i64 p.bg, .int .i64 p.fl] ∧ Below w.heap.size w wr
theorem PrAt.on {w wr w1 : World} {p : Pn} {A : Option Addr} {c : Nat} {n : Nat} {l : List (List Int)} (h : PrAt w wr p A c n l) (hb : Below wr.heap.size wr w1) : PrAt w w1 p A c n l := by
  obtain ⟨es, h1, h2, h3, h4, h5⟩ := h
  exact ⟨es, h1, h2, h3.below hb, h4.below hb h4.lt, h5.trans (hb.mono h5.size)⟩
theorem PrAt.len {w wr : World} {p : Pn} {A : Option Addr} {c : Nat} {n : Nat} {l : List (List Int)} (h : PrAt w wr p A c n l) : n = l.length := by
  obtain ⟨es, h1, h2, _⟩ := h
  rw [← h1, ← h2, qs_length]
theorem PrAt.pen {w wr : World} {p : Pn} {A : Option Addr} {c : Nat} {n : Nat} {l : List (List Int)} (h : PrAt w wr p A c n l) : Box wr w.heap.size 23 #[.int .i64 p.fg, .int .i64 p.bg, .int .i64 p.fl] := by
  obtain ⟨es, _, _, _, h4, _⟩ := h
  exact h4
theorem PrAt.bel {w wr : World} {p : Pn} {A : Option Addr} {c : Nat} {n : Nat} {l : List (List Int)} (h : PrAt w wr p A c n l) : Below w.heap.size w wr := by
  obtain ⟨es, _, _, _, _, h5⟩ := h
  exact h5
theorem PrAt.new {w w1 : World} {p : Pn} (h4 : Box w1 w.heap.size 23 #[.int .i64 p.fg, .int .i64 p.bg, .int .i64 p.fl]) (h5 : Below w.heap.size w w1) (x : Int) :
    PrAt w ((w1.alloc (.cells #[.int .i64 x] 3)).alloc (.cells #[.slice (some ⟨w1.heap.size, 0, none⟩) 1 1] 34)) p (some ⟨w1.heap.size + 1, 0, none⟩) 1 1 [[x]] := by
  have hlt := h4.lt
  obtain ⟨l1, l2, l3⟩ := lit_one (w := w1) (base := w.heap.size + 1) (by omega) x
  have h2 := Box.new (w1.alloc (.cells #[.int .i64 x] 3)) 34 #[.slice (some ⟨w1.heap.size, 0, none⟩) 1 1]
  have e1 : (w1.alloc (.cells #[.int .i64 x] 3)).heap.size = w1.heap.size + 1 := by simp
  rw [e1] at h2
  refine ⟨[⟨some ⟨w1.heap.size, 0, none⟩, 1, [x]⟩], rfl, rfl, ⟨⟨rfl, .inr ⟨w1.heap.size + 1, 1, _, rfl, by omega, h2, Nat.le_refl _, by decide, rfl, rfl⟩⟩, fun e he => ?_⟩, h4.below l3 h4.lt, h5.trans (l3.mono h5.size)⟩
  rw [List.mem_singleton] at he
  subst he
  exact l1
/-- What append needs, and what it leaves. -/
theorem PrAt.push {w wr : World} {p : Pn} {A : Option Addr} {c : Nat} {n : Nat} {l : List (List Int)} (h : PrAt w wr p A c n l) (x : Int) :
    ∃ xs, ((wr.alloc (.cells #[.int .i64 x] 3)).alloc (.cells #[.slice (some ⟨wr.heap.size, 0, none⟩) 1 1] 34)).ownsRow (w.heap.size + 1) 34 1 (.slice A n c) n xs ∧
      Rd elV ((wr.alloc (.cells #[.int .i64 x] 3)).alloc (.cells #[.slice (some ⟨wr.heap.size, 0, none⟩) 1 1] 34)) (wr.heap.size + 1 + 1) (some ⟨wr.heap.size + 1, 0, none⟩) [⟨some ⟨wr.heap.size, 0, none⟩, 1, [x]⟩] ∧
      w.heap.size + 1 ≤ wr.heap.size ∧
      ∀ v' w2, w2.ownsRow (w.heap.size + 1) 34 1 v' (n + 1) (xs ++ [elV ⟨some ⟨wr.heap.size, 0, none⟩, 1, [x]⟩]) → Own1 ((wr.alloc (.cells #[.int .i64 x] 3)).alloc (.cells #[.slice (some ⟨wr.heap.size, 0, none⟩) 1 1] 34)) w2 (.slice A n c) v' →
        ∃ A' c', v' = .slice A' (n + 1) c' ∧ PrAt w w2 p A' c' (n + 1) (l ++ [[x]]) ∧ ∀ b v m ys, wr.ownsRow b 3 1 v m ys → w2.ownsRow b 3 1 v m ys := by
  obtain ⟨es, h1, h2, h3, h4, h5⟩ := h
  subst h1
  have hlt := h4.lt
  obtain ⟨l1, l2, l3⟩ := lit_one (w := wr) (base := w.heap.size + 1) (by omega) x
  have h3' := h3.below l3
  refine ⟨es.map elV, h3'.own, l2, by omega, fun v' w2 hw hO => ?_⟩
  obtain ⟨A', c', rfl, _, _⟩ := own_form1 hw
  refine ⟨A', c', rfl, ⟨es ++ [⟨some ⟨wr.heap.size, 0, none⟩, 1, [x]⟩], by simp, by rw [qs_append, h2]; rfl, h3'.push l1 hO hw, ?_, ?_⟩, fun b v m ys hys => hO.keep (own_below hys l3) (own_tys h3'.own (own_below hys l3) (by decide))⟩
  · have hb4 := h4.below l3 h4.lt
    refine hO.box hb4 fun hg => ?_
    have := (own_block h3'.own hg).1
    omega
  · have hb := l3.mono h5.size
    refine (h5.trans hb).trans (hO.belowBase (by have := l3.size; omega) fun g hg => ?_)
    have := (own_block h3'.own hg).1
    omega
set_option maxRecDepth 100000 in
set_option maxHeartbeats 4000000 in
theorem print7_c : Print7C := by
  intro p w hok hTog
  obtain ⟨i0, hi, hz0, hz1, hz2⟩ := info_parts infoInts
  have HI := Lib.hid (And.intro hi (And.intro hz0 (And.intro hz1 hz2)))
  have hs := sane7_c p (w.alloc (.cells #[.int .i64 p.fg, .int .i64 p.bg, .int .i64 p.fl] 23)) hok
  have hbx := Box.pen (w := w) (a := .int .i64 p.fg) (b := .int .i64 p.bg) (c := .int .i64 p.fl)
  have hbl : Below w.heap.size w (w.alloc (.cells #[.int .i64 p.fg, .int .i64 p.bg, .int .i64 p.fl] 23)) := (Below.refl _ _).alloc (Nat.le_refl _) _
  have HB := Lib.hid (And.intro hbx hbl)
  obtain ⟨fg, bg, fl⟩ := p
  have v1 : pnV ⟨fg, bg, fl⟩ = .agg #[.int .i64 fg, .int .i64 bg, .int .i64 fl] := rfl
  rw [v1] at hs
  rw [v1]
  clear hi hz0 hz1 hz2 hbx hbl
  by_cases hsane : SaneN ⟨fg, bg, fl⟩
  · rw [decide_eq_true hsane] at hs
    have HPR : Hid (printN ⟨fg, bg, fl⟩ = [0] :: flC fl rowsT ++ (numC fg 0).map (fun n => [n]) ++ (numC bg 10).map (fun n => [n])) := Lib.hid (by
      unfold printN
      rw [if_pos hsane, num_is hsane.1, num_is hsane.2.1, fl_is ⟨hsane.2.2.1, hsane.2.2.2⟩])
    have HNF := Lib.hid (fun V : World => numbers_c fg 0 V hsane.1 (.inl rfl))
    have HNB := Lib.hid (fun V : World => numbers_c bg 10 V hsane.2.1 (.inr rfl))
    generalize hR' : GivesM (printN ⟨fg, bg, fl⟩) w = R
    have HG := Lib.hid hR'
    clear hsane hR'
    go_enter Tryd.func10, Tryd.ntmps10
    go_wp2_with fail
    refine hs.mono ?_
    rintro r w1 ⟨rfl, hb1⟩
    have HP0 := Lib.hid (PrAt.new (p := ⟨fg, bg, fl⟩) (HB.out.1.below hb1 HB.out.1.lt) (HB.out.2.trans (hb1.mono HB.out.2.size)) 0)
    clear hs hb1
    go_upto_region 4 with fail
    generalize (w1.alloc (.cells #[.int .i64 0] 3)).alloc (.cells #[.slice (some ⟨w1.heap.size, 0, none⟩) 1 1] 34) = W at *
    have HL := Lib.hid (tog_load (hTog.on HP0.out.bel))
    have HIX := Lib.hid tog_idx
    generalize togV = tv at *
    have HP1 : Hid (PrAt w W ⟨fg, bg, fl⟩ (some ⟨w1.heap.size + 1, 0, none⟩) 1 1 ([0] :: flC fl (rowsT.take 0))) := HP0
    generalize (some ⟨w1.heap.size + 1, 0, none⟩ : Option Addr) = A0 at *
    clear HP0
    go_wp2_with (refine wpList_load_val rfl 45 (.global 0) rfl (.pointer (some ⟨0, 0, none⟩)) tv rfl HL.out ?_)
    clear HL
    go_loopw [3, 16] (fun u3 u16 wr => ∃ (k : Nat) (A : Option Addr) (c n : Nat), k ≤ 9 ∧ n ≤ 10 ∧ u16 = .int .i64 (k : Int) ∧ u3 = .slice A n c ∧ Hid (PrAt w wr ⟨fg, bg, fl⟩ A c n ([0] :: flC fl (rowsT.take k)))) (fun _ u16 _ => 9 - (intOf u16).toNat)
    case atStart => exact ⟨0, A0, 1, 1, by omega, by omega, rfl, rfl, HP1⟩
    case round =>
      obtain ⟨k, A, c, n, hk, hn, rfl, rfl, HP⟩ := hrel
      clear HP1
      by_cases hlt : k < 9
      · obtain ⟨x, hx⟩ : ∃ x, rowsT[k]? = some x := ⟨_, List.getElem?_eq_getElem (by exact hlt)⟩
        have hix := fun V => HIX.out k x hx V
        have hsn := fl_snoc (f := fl) hx
        obtain ⟨b, on, off⟩ := x
        simp only at hix hsn
        have hal : Below wr.heap.size wr (wr.alloc (.cells #[.int .i64 b, .int .i64 on, .int .i64 off] 44)) := (Below.refl _ _).alloc (Nat.le_refl _) _
        have HPA := Lib.hid (HP.out.on hal)
        have hpc := HP.out.pen.three.1.2.2
        simp only at hpc
        have hlp := HP.out.pen.lt
        have hnl := fl_len fl (k + 1)
        have zk : (k : Int) < 9 := by omega
        clear hx hal HP
        by_cases hz : bits .and .i64 fl b = 0
        · rw [if_pos hz, List.append_nil] at hsn
          rw [← hsn] at HPA
          have hz' : (bits .and .i64 fl b != 0) = false := by rw [hz]; rfl
          clear hz hsn
          go_wp2_with fail
          exact ⟨⟨k + 1, A, c, n, by omega, hn, by simp, rfl, HPA⟩, by simp [intOf]; omega⟩
        · rw [if_neg hz] at hsn
          have hz' : (bits .and .i64 fl b != 0) = true := bne_iff_ne.2 hz
          have hlen := HPA.out.len
          have hwt : (wr.alloc (.cells #[.int .i64 b, .int .i64 on, .int .i64 off] 44)).heap.size = wr.heap.size + 1 := by simp
          obtain ⟨xs, hown, hR, hbs, hnext⟩ := HPA.out.push on
          rw [hwt] at hown hR hbs hnext
          have HN := Lib.hid hnext
          clear hwt
          have hsn' : ([0] :: flC fl (rowsT.take k)) ++ [[on]] = [0] :: flC fl (rowsT.take (k + 1)) := by rw [hsn]; rfl
          have HSN := Lib.hid (And.intro hsn' hnl)
          clear hz hsn hsn' hnl hnext hlen HPA
          obtain ⟨hi, hz0, hz1, hz2⟩ := HI.out
          go_wp2_with (at_builtin; refine wpList_append_rd (f := elV) (fun _ => rfl) rfl _ _ 26 rfl (w.heap.size + 1) 34 i0 _ 24 Tryd.underlying26 hi hz0 hz1 hz2 rfl _ n xs rfl hown (some ⟨wr.heap.size + 1 + 1, 0, none⟩) 1 _ [⟨some ⟨wr.heap.size + 1, 0, none⟩, 1, [on]⟩] rfl hR (by simp only [List.length_cons, List.length_nil]; unfold maxLen; omega) (by simp only [List.length_cons, List.length_nil]; omega) (by simp; omega) ?_)
          intro v' w2 hw hO
          obtain ⟨A', c', rfl, hP, -⟩ := HN.out v' w2 hw hO
          rw [HSN.out.1] at hP
          have hn2 := hP.len
          have hn3 : n + 1 ≤ 10 := by rw [hn2, List.length_cons]; have := HSN.out.2; omega
          have HP2 := Lib.hid hP
          clear hw hO hP hn2 hown hR hi hz0 hz1 hz2 HN HSN
          go_wp2_with fail
          exact ⟨⟨k + 1, A', c', n + 1, by omega, hn3, by simp, rfl, HP2⟩, by simp [intOf]; omega⟩
      · have hk9 : k = 9 := by omega
        subst hk9
        have hPe : PrAt w wr ⟨fg, bg, fl⟩ A c n ([0] :: flC fl rowsT) := HP.out
        have HQ := Lib.hid hPe
        have hfl := fl_len fl 9
        have hfl9 : (flC fl rowsT).length ≤ 9 := hfl
        have HFL := Lib.hid hfl9
        have hnf := numC_len fg 0
        have hnb := numC_len bg 10
        have HNL := Lib.hid (And.intro hnf hnb)
        clear hPe HP hfl hfl9 hnf hnb HIX
        generalize numC fg 0 = nf at *
        generalize numC bg 10 = nb at *
        generalize flC fl rowsT = fs at *
        obtain ⟨⟨k0, k1, k2⟩, -⟩ := HQ.out.pen.three
        simp only at k0 k1 k2
        have hnum := HNF.out wr
        unfold GivesO at hnum
        go_wp2_with fail
        refine hnum.mono ?_
        rintro r wrn ⟨Y, dy, rfl, hyo, hyb⟩
        have HQn := Lib.hid (HQ.out.on hyb)
        obtain ⟨B34, hyo⟩ : ∃ B, wrn.ownsRow B 3 1 (.slice Y nf.length dy) nf.length (nf.map intV) := ⟨_, hyo⟩
        have HY34 := Lib.hid hyo
        clear hnum k0 k1 k2 hyo hyb HQ
        go_wp2_with fail
        go_loopw [3, 36] (fun u3 ui wq => ∃ (k : Nat) (A : Option Addr) (c n : Nat), k ≤ (nf).length ∧ n ≤ 20 ∧ ui = .int .i64 (k : Int) ∧ u3 = .slice A n c ∧ Hid (PrAt w wq ⟨fg, bg, fl⟩ A c n (([0] :: fs) ++ ((nf).take k).map (fun n => [n])) ∧ wq.ownsRow B34 3 1 (.slice Y (nf).length dy) (nf).length ((nf).map intV))) (fun _ ui _ => (nf).length - (intOf ui).toNat)
        case atStart => exact ⟨0, A, c, n, by omega, by omega, rfl, rfl, Lib.hid ⟨by simpa using HQn.out, HY34.out⟩⟩
        case round =>
          obtain ⟨k, A, c, n, hk, hn, rfl, rfl, HP⟩ := hrel
          clear HQn HY34
          by_cases hlt : k < (nf).length
          · obtain ⟨x, hx⟩ : ∃ x, (nf)[k]? = some x := ⟨_, List.getElem?_eq_getElem hlt⟩
            have hts := take_snoc hx
            obtain ⟨b, o, hY, hb, hc⟩ := (Rd.of_own HP.out.2).at_ hx
            subst hY
            unfold intV at hc
            obtain ⟨xs, hown, hR, hbs, hnext⟩ := HP.out.1.push x
            have HN2 := Lib.hid (And.intro hnext HP.out.2)
            have HTS := Lib.hid hts
            have zk : (k : Int) < (((nf).length : Nat) : Int) := by omega
            have hnl := HNL.out.1
            clear hx hts hnext HP
            obtain ⟨hi, hz0, hz1, hz2⟩ := HI.out
            go_wp2_with (at_builtin; refine wpList_append_rd (f := elV) (fun _ => rfl) rfl _ _ 26 rfl (w.heap.size + 1) 34 i0 _ 24 Tryd.underlying26 hi hz0 hz1 hz2 rfl _ n xs rfl hown (some ⟨wr.heap.size + 1, 0, none⟩) 1 _ [⟨some ⟨wr.heap.size, 0, none⟩, 1, [x]⟩] rfl hR (by simp only [List.length_cons, List.length_nil]; unfold maxLen; omega) (by simp only [List.length_cons, List.length_nil]; omega) (by simp; omega) ?_)
            intro v' w2 hw hO
            obtain ⟨A', c', rfl, hP, hkeep⟩ := HN2.out.1 v' w2 hw hO
            have hP' : PrAt w w2 ⟨fg, bg, fl⟩ A' c' (n + 1) (([0] :: fs) ++ ((nf).take (k + 1)).map (fun n => [n])) := by
              rw [HTS.out, List.map_append, ← List.append_assoc]
              exact hP
            have hn2 := hP'.len
            have hn3 : n + 1 ≤ 20 := by
              rw [hn2, List.length_append, List.length_map, List.length_take]
              simp only [List.length_cons]; have := HFL.out; omega
            have HP2 := Lib.hid (And.intro hP' (hkeep _ _ _ _ HN2.out.2))
            clear hw hO hP hP' hn2 hkeep hown hR hi hz0 hz1 hz2 HN2 HTS
            go_wp2_with fail
            exact ⟨⟨k + 1, A', c', n + 1, by omega, hn3, by simp, rfl, HP2⟩, by simp [intOf]; omega⟩
          · have hke : (nf).take k = nf := List.take_of_length_le (by omega)
            have zk : ¬ (k : Int) < (((nf).length : Nat) : Int) := by omega
            have hPe := HP.out.1
            rw [hke] at hPe
            have HQe := Lib.hid hPe
            clear hke hPe HP
            obtain ⟨⟨k0, k1, k2⟩, -⟩ := HQe.out.pen.three
            simp only at k0 k1 k2
            have hnum := HNB.out wr
            unfold GivesO at hnum
            go_wp2_with fail
            refine hnum.mono ?_
            rintro r wrm ⟨Y, dy, rfl, hyo, hyb⟩
            have HQen := Lib.hid (HQe.out.on hyb)
            obtain ⟨B48, hyo⟩ : ∃ B, wrm.ownsRow B 3 1 (.slice Y nb.length dy) nb.length (nb.map intV) := ⟨_, hyo⟩
            have HY48 := Lib.hid hyo
            clear hnum k0 k1 k2 hyo hyb HQe
            go_wp2_with fail
            go_loopw [3, 50] (fun u3 ui wp => ∃ (k : Nat) (A : Option Addr) (c n : Nat), k ≤ (nb).length ∧ n ≤ 20 ∧ ui = .int .i64 (k : Int) ∧ u3 = .slice A n c ∧ Hid (PrAt w wp ⟨fg, bg, fl⟩ A c n ((([0] :: fs) ++ nf.map (fun n => [n])) ++ ((nb).take k).map (fun n => [n])) ∧ wp.ownsRow B48 3 1 (.slice Y (nb).length dy) (nb).length ((nb).map intV))) (fun _ ui _ => (nb).length - (intOf ui).toNat)
            case atStart => exact ⟨0, A, c, n, by omega, by omega, rfl, rfl, Lib.hid ⟨by simpa using HQen.out, HY48.out⟩⟩
            case round =>
              obtain ⟨k, A, c, n, hk, hn, rfl, rfl, HP⟩ := hrel
              clear HQen HY48
              by_cases hlt : k < (nb).length
              · obtain ⟨x, hx⟩ : ∃ x, (nb)[k]? = some x := ⟨_, List.getElem?_eq_getElem hlt⟩
                have hts := take_snoc hx
                obtain ⟨b, o, hY, hb, hc⟩ := (Rd.of_own HP.out.2).at_ hx
                subst hY
                unfold intV at hc
                obtain ⟨xs, hown, hR, hbs, hnext⟩ := HP.out.1.push x
                have HN2 := Lib.hid (And.intro hnext HP.out.2)
                have HTS := Lib.hid hts
                have zk : (k : Int) < (((nb).length : Nat) : Int) := by omega
                have hnl := HNL.out.2
                clear hx hts hnext HP
                obtain ⟨hi, hz0, hz1, hz2⟩ := HI.out
                go_wp2_with (at_builtin; refine wpList_append_rd (f := elV) (fun _ => rfl) rfl _ _ 26 rfl (w.heap.size + 1) 34 i0 _ 24 Tryd.underlying26 hi hz0 hz1 hz2 rfl _ n xs rfl hown (some ⟨wr.heap.size + 1, 0, none⟩) 1 _ [⟨some ⟨wr.heap.size, 0, none⟩, 1, [x]⟩] rfl hR (by simp only [List.length_cons, List.length_nil]; unfold maxLen; omega) (by simp only [List.length_cons, List.length_nil]; omega) (by simp; omega) ?_)
                intro v' w2 hw hO
                obtain ⟨A', c', rfl, hP, hkeep⟩ := HN2.out.1 v' w2 hw hO
                have hP' : PrAt w w2 ⟨fg, bg, fl⟩ A' c' (n + 1) ((([0] :: fs) ++ nf.map (fun n => [n])) ++ ((nb).take (k + 1)).map (fun n => [n])) := by
                  rw [HTS.out, List.map_append, ← List.append_assoc]
                  exact hP
                have hn2 := hP'.len
                have hn3 : n + 1 ≤ 20 := by
                  rw [hn2, List.length_append, List.length_map, List.length_take]
                  simp only [List.length_cons, List.length_append, List.length_map]; have := HFL.out; have := HNL.out.1; omega
                have HP2 := Lib.hid (And.intro hP' (hkeep _ _ _ _ HN2.out.2))
                clear hw hO hP hP' hn2 hkeep hown hR hi hz0 hz1 hz2 HN2 HTS
                go_wp2_with fail
                exact ⟨⟨k + 1, A', c', n + 1, by omega, hn3, by simp, rfl, HP2⟩, by simp [intOf]; omega⟩
              · have hke : (nb).take k = nb := List.take_of_length_le (by omega)
                have zk : ¬ (k : Int) < (((nb).length : Nat) : Int) := by omega
                have hPe := HP.out.1
                rw [hke] at hPe
                have HQee := Lib.hid hPe
                clear hke hPe HP
                obtain ⟨es, h1, h2, h3, h4, h5⟩ := HQee.out
                subst h1
                go_wp2_with fail
                rw [← HG.out]
                refine ⟨A, c, es, rfl, h3.in_, by rw [h2, HPR.out], fun X hX => h3.off (by omega), h5⟩
  · have e0 : printN ⟨fg, bg, fl⟩ = [] := by unfold printN; rw [if_neg hsane]
    rw [decide_eq_false hsane] at hs
    rw [e0]
    clear hsane e0
    go_enter Tryd.func10, Tryd.ntmps10
    go_wp2_with fail
    refine hs.mono ?_
    rintro r w1 ⟨rfl, hb1⟩
    have hbel := HB.out.2.trans (hb1.mono HB.out.2.size)
    clear hs hb1
    go_wp2_with fail
    go_ret
    exact ⟨none, 0, [], rfl, ⟨⟨Rd.nil, by simp⟩, Nat.le_refl _, Nat.zero_le _⟩, rfl, fun X _ => Off.nil, hbel⟩
end Go.Proofs.YtlcnlfjjglcobaaDoor
