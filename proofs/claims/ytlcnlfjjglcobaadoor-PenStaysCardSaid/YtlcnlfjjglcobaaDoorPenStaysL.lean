/- PenStays over the contracts. -/
import Derived.Test.YtlcnlfjjglcobaaDoorPenColL
import Derived.Test.YtlcnlfjjglcobaaDoorPenBackL
import Derived.Test.YtlcnlfjjglcobaaDoorRefFew
import Derived.Test.YtlcnlfjjglcobaaDoorP5Get
import Derived.Test.YtlcnlfjjglcobaaDoorP5Mk
import Derived.Test.YtlcnlfjjglcobaaDoorAppR
namespace Go.Proofs.YtlcnlfjjglcobaaDoor
open Go Go.RowKit
set_option linter.unusedVariables false
set_option linter.unusedSimpArgs false

/-- Is a colour among them? -/
def brkB (l : List (List Int)) : Bool := l.any fun q => decide (firstN q = 38 ∨ firstN q = 48)
theorem brk_no {l : List (List Int)} (h : brkB l = false) : ∀ q ∈ l, ¬ (firstN q = 38 ∨ firstN q = 48) := by
  unfold brkB at h
  rw [List.any_eq_false] at h
  intro q hq hc
  exact h q hq (decide_eq_true hc)
theorem brk_snoc {l : List (List Int)} {k : Nat} {q : List Int} (h : l[k]? = some q) : brkB (l.take (k + 1)) = (brkB (l.take k) || decide (firstN q = 38 ∨ firstN q = 48)) := by
  rw [take_snoc h]
  unfold brkB
  rw [List.any_append]
  simp
/-- A first number as the law gets it. -/
theorem stay_first {l : List (List Int)} {k : Nat} {q : List Int} (h : l[k]? = some q) : (getP l (k : Int) 0 = 38 ↔ firstN q = 38) ∧ (getP l (k : Int) 0 = 48 ↔ firstN q = 48) := by
  unfold getP
  rw [if_pos (by omega), Int.toNat_natCast, h]
  cases q with
  | nil => simp [firstN, atN]
  | cons n q =>
    have e : firstN (n :: q) = n := rfl
    rw [e]
    dsimp only
    split
    · rename_i hn; subst hn; simp
    · simp
/-- Elements that lie anywhere, told by a new row. -/
theorem InP.of_row {w : World} {base : Nat} {A : Option Addr} {n c : Nat} {es : List El} (h : w.ownsRow base 34 1 (.slice A n c) n (es.map elV)) (he : ∀ e ∈ es, ElOk w w.heap.size e) : InP w A c es := by
  have hn := own_len h
  have hc := own_cap h
  exact ⟨Nest.of_own h he, by omega, hc.2⟩
set_option maxRecDepth 100000 in
set_option maxHeartbeats 8000000 in
theorem pstay_law (hp : ParseC) (hs : Sane7C) (ha : Apply7C) (hpr : Print7C) (p : Pn) (A1 A2 : Option Addr) (c1 c2 : Nat) (l m : List El) (hp1 : PnOk p) (w : World) (hl : InP w A1 c1 l) (hm : InP w A2 c2 m) (hnl : Nums (qs l)) (hnm : Nums (qs m)) (hT : Tog w) :
    Calls Tryd.prog 4 #[pnV p, .slice A1 l.length c1, .slice A2 m.length c2] w fun e w' => e = .returned (.bool true) ∧ Below w.heap.size w w' := by
  obtain ⟨fg, bg, fl⟩ := p
  have v1 : pnV ⟨fg, bg, fl⟩ = .agg #[.int .i64 fg, .int .i64 bg, .int .i64 fl] := rfl
  rw [v1]
  have hbox := Box.pen (w := w) (a := .int .i64 fg) (b := .int .i64 bg) (c := .int .i64 fl)
  have hbW := (Below.refl w.heap.size w).alloc (Nat.le_refl _) (.cells #[.int .i64 fg, .int .i64 bg, .int .i64 fl] 23)
  have hawake := awake7_c hp hs ha hpr (w.alloc (.cells #[.int .i64 fg, .int .i64 bg, .int .i64 fl] 23)) (hT.on hbW)
  have hk0 : KeepP w (w.alloc (.cells #[.int .i64 fg, .int .i64 bg, .int .i64 fl] 23)) [(w.heap.size, ⟨fg, bg, fl⟩)] := ⟨fun x hx => by rw [List.mem_singleton] at hx; subst hx; exact hbox, hbW⟩
  have HE0 := Lib.hid hk0
  have HI := Lib.hid (And.intro hl (And.intro hm (And.intro hnl hnm)))
  have hll := hl.len
  have hlm := hm.len
  unfold maxLen at hll hlm
  clear hbox hbW hk0 hl hm hnl hnm
  go_enter Tryd.func4, Tryd.ntmps4
  go_wp2_with fail
  refine hawake.mono ?_
  rintro e w1 ⟨rfl, hb1⟩
  have hE := HE0.out.on hb1
  clear HE0 hb1 hawake
  have hf1 := few_c A1 l c1 w1 (HI.out.1.on hE.bel).nest
  have HE := Lib.hid hE
  clear hE
  cases hfl : fewB (qs l) with
  | false =>
    rw [hfl] at hf1
    go_wp2_with fail
    refine hf1.mono ?_
    rintro e w2 ⟨rfl, hb2⟩
    have hb3 := HE.out.bel.trans (hb2.mono HE.out.bel.size)
    clear hf1 hb2 HE
    go_wp2_with fail
    go_ret
    exact ⟨rfl, hb3⟩
  | true =>
    rw [hfl] at hf1
    have HFL := Lib.hid hfl
    clear hfl
    have hf2 := fun V (hV : Below w.heap.size w V) => few_c A2 m c2 V (HI.out.2.1.on hV).nest
    cases hfm : fewB (qs m) with
    | false =>
      rw [hfm] at hf2
      go_wp2_with fail
      refine hf1.mono ?_
      rintro e w2 ⟨rfl, hb2⟩
      have hE := HE.out.on hb2
      have h2 := hf2 w2 hE.bel
      have hb3 := hE.bel
      clear hf1 hb2 HE hE hf2
      go_wp2_with fail
      refine h2.mono ?_
      rintro e w3 ⟨rfl, hb4⟩
      have hb5 := hb3.trans (hb4.mono hb3.size)
      clear h2 hb4 hb3
      go_wp2_with fail
      go_ret
      exact ⟨rfl, hb5⟩
    | true =>
      rw [hfm] at hf2
      have HFM := Lib.hid hfm
      clear hfm
      go_wp2_with fail
      refine hf1.mono ?_
      rintro e w2 ⟨rfl, hb2⟩
      have hE := HE.out.on hb2
      have h2 := hf2 w2 hE.bel
      clear hf1 hb2 HE hf2
      have HE := Lib.hid hE
      clear hE
      go_wp2_with fail
      refine h2.mono ?_
      rintro e w3 ⟨rfl, hb3⟩
      have hE := HE.out.on hb3
      clear h2 hb3 HE
      obtain ⟨k0, k1, k2⟩ := hE.three (List.mem_singleton.2 rfl)
      have h1 := hs ⟨fg, bg, fl⟩ w3 hp1
      rw [v1] at h1
      have HE := Lib.hid hE
      clear hE
      by_cases hsane : SaneN ⟨fg, bg, fl⟩
      · rw [decide_eq_true hsane] at h1
        simp only at k0 k1 k2
        go_wp2_with fail
        refine h1.mono ?_
        rintro e w4 ⟨rfl, hb4⟩
        have hE := HE.out.on hb4
        clear h1 hb4 HE k0 k1 k2
        have HE := Lib.hid hE
        clear hE
        by_cases hl0 : l.length = 0
        · have el : ((l.length : Int) == 0) = true := beq_iff_eq.2 (by omega)
          clear hl0
          go_wp2_with fail
          go_ret
          exact ⟨rfl, HE.out.bel⟩
        have el : ((l.length : Int) == 0) = false := beq_eq_false_iff_ne.2 (by omega)
        by_cases hm0 : m.length = 0
        · have em : ((m.length : Int) == 0) = true := beq_iff_eq.2 (by omega)
          clear hm0 hl0
          go_wp2_with fail
          go_ret
          exact ⟨rfl, HE.out.bel⟩
        have em : ((m.length : Int) == 0) = false := beq_eq_false_iff_ne.2 (by omega)
        have hE := HE.out
        obtain ⟨k0, k1, k2⟩ := hE.three (List.mem_singleton.2 rfl)
        simp only at k0 k1 k2
        have hfew1 : l.length ≤ 30 := by have h := HFL.out; unfold fewB at h; have := (of_decide_eq_true h).1; rwa [qs_length] at this
        have hfew2 : m.length ≤ 30 := by have h := HFM.out; unfold fewB at h; have := (of_decide_eq_true h).1; rwa [qs_length] at this
        obtain ⟨a, hqa⟩ : ∃ a, applyN ⟨fg, bg, fl⟩ (qs l) = a := ⟨_, rfl⟩
        obtain ⟨b, hqb⟩ : ∃ b, applyN a (qs m) = b := ⟨_, rfl⟩
        obtain ⟨cc, hqc⟩ : ∃ cc, applyN ⟨fg, bg, fl⟩ (qs l ++ qs m) = cc := ⟨_, rfl⟩
        have hsa : SaneN a := by rw [← hqa]; exact apply_ok _ _
        have hsb : SaneN b := by rw [← hqb]; exact apply_ok _ _
        have hsc : SaneN cc := by rw [← hqc]; exact apply_ok _ _
        have hl1 : qs l ≠ [] := fun h => hl0 (by rw [← qs_length, h]; rfl)
        have hm1 : qs m ≠ [] := fun h => hm0 (by rw [← qs_length, h]; rfl)
        have hsame : brkB (qs l) = false → cc = b := fun h => by rw [← hqc, ← hqb, ← hqa]; exact apply_app hsane hl1 hm1 (brk_no h)
        have hboth : bothN a.fl = true → bothN fl = true := fun h => apply_both (p := ⟨fg, bg, fl⟩) hsane hl1 (by rw [hqa]; exact h)
        have hand1 := and_both ⟨hsa.2.2.1, hsa.2.2.2⟩
        have hand2 := and_both (f := fl) ⟨hsane.2.2.1, hsane.2.2.2⟩
        have HM := Lib.hid (And.intro hsa (And.intro hsb (And.intro hsc (And.intro hsame (And.intro hboth (And.intro hand1 (And.intro hand2 (And.intro hqa (And.intro hqb hqc)))))))))
        have HP := Lib.hid hsane.ok
        have h1 := ha ⟨fg, bg, fl⟩ A1 c1 l w4 hsane.ok (HI.out.1.on hE.bel) HI.out.2.2.1 (hT.on hE.bel)
        rw [hqa] at h1
        simp only [pnV] at h1
        clear hsa hsb hsc hl1 hm1 hsame hboth hand1 hand2 hqa hqb hqc hsane hl0 hm0 hE
        go_wp2_with fail
        refine h1.mono ?_
        rintro e w5 ⟨rfl, hb5⟩
        have hE := (HE.out.on hb5).add a
        clear h1 hb5 HE k0 k1 k2
        obtain ⟨k0, k1, k2⟩ := hE.three (List.mem_cons_self ..)
        have h1 := ha a A2 c2 m (w5.alloc (.cells #[.int .i64 a.fg, .int .i64 a.bg, .int .i64 a.fl] 23)) HM.out.1.ok (HI.out.2.1.on hE.bel) HI.out.2.2.2 (hT.on hE.bel)
        rw [HM.out.2.2.2.2.2.2.2.2.1] at h1
        simp only [pnV] at h1
        have HE := Lib.hid hE
        clear hE
        go_wp2_with fail
        refine h1.mono ?_
        rintro e w6 ⟨rfl, hb6⟩
        have hE := (HE.out.on hb6).add b
        have HE := Lib.hid hE
        clear h1 hb6 hE k0 k1 k2
        go_wp2_with fail
        go_loopw [10, 11] (fun u10 u11 wr => ∃ k : Nat, k ≤ l.length ∧ u11 = .int .i64 (k : Int) ∧ u10 = .bool (brkB ((qs l).take k)) ∧ KeepP w wr [(w6.heap.size, b), (w5.heap.size, a), (w.heap.size, ⟨fg, bg, fl⟩)]) (fun _ u11 _ => l.length - (intOf u11).toNat)
        case atStart => exact ⟨0, Nat.zero_le _, rfl, rfl, HE.out⟩
        case round =>
          obtain ⟨k, hk, rfl, rfl, hE⟩ := hrel
          by_cases hlt : k < l.length
          · obtain ⟨e, he⟩ : ∃ e, l[k]? = some e := ⟨_, List.getElem?_eq_getElem hlt⟩
            have hq := qs_at he
            have hg := stay_first hq
            have hbs := brk_snoc hq
            have h1 := get_c A1 c1 l (k : Int) 0 wr (HI.out.1.on hE.bel)
            generalize getP (qs l) (k : Int) 0 = g at hg h1
            have z1 : (k : Int) < (l.length : Int) := by omega
            have HB := Lib.hid hbs
            have HG := Lib.hid hg
            have HE2 := Lib.hid hE
            clear he hq hbs hg hE hk
            cases hbk : brkB ((qs l).take k) with
            | true =>
              have HN := Lib.hid (show brkB ((qs l).take (k + 1)) = true by rw [HB.out, hbk]; rfl)
              clear hbk HB
              go_wp2_with fail
              refine h1.mono ?_
              rintro e w7 ⟨rfl, hb7⟩
              have hE := HE2.out.on hb7
              clear h1 hb7 HE2
              go_wp2_with fail
              exact ⟨⟨k + 1, by omega, by simp, by rw [HN.out], hE⟩, by simp [intOf]; omega⟩
            | false =>
              by_cases h38 : g = 38
              · have HN := Lib.hid (show brkB ((qs l).take (k + 1)) = true by rw [HB.out, hbk, decide_eq_true (.inl (HG.out.1.1 h38))]; rfl)
                have e38 : (g == 38) = true := beq_iff_eq.2 h38
                clear hbk HB HG h38
                go_wp2_with fail
                refine h1.mono ?_
                rintro e w7 ⟨rfl, hb7⟩
                have hE := HE2.out.on hb7
                clear h1 hb7 HE2
                go_wp2_with fail
                exact ⟨⟨k + 1, by omega, by simp, by rw [HN.out], hE⟩, by simp [intOf]; omega⟩
              have e38 : (g == 38) = false := beq_eq_false_iff_ne.2 h38
              by_cases h48 : g = 48
              · have HN := Lib.hid (show brkB ((qs l).take (k + 1)) = true by rw [HB.out, hbk, decide_eq_true (.inr (HG.out.2.1 h48))]; rfl)
                have e48 : (g == 48) = true := beq_iff_eq.2 h48
                clear hbk HB HG h38 h48
                go_wp2_with fail
                refine h1.mono ?_
                rintro e w7 ⟨rfl, hb7⟩
                have hE := HE2.out.on hb7
                clear h1 hb7 HE2
                go_wp2_with fail
                exact ⟨⟨k + 1, by omega, by simp, by rw [HN.out], hE⟩, by simp [intOf]; omega⟩
              · have HN := Lib.hid (show brkB ((qs l).take (k + 1)) = false by rw [HB.out, hbk, decide_eq_false (fun h => h.elim (fun h => h38 (HG.out.1.2 h)) (fun h => h48 (HG.out.2.2 h)))]; rfl)
                have e48 : (g == 48) = false := beq_eq_false_iff_ne.2 h48
                clear hbk HB HG h38 h48
                go_wp2_with fail
                refine h1.mono ?_
                rintro e w7 ⟨rfl, hb7⟩
                have hE := HE2.out.on hb7
                clear h1 hb7 HE2
                go_wp2_with fail
                exact ⟨⟨k + 1, by omega, by simp, by rw [HN.out], hE⟩, by simp [intOf]; omega⟩
          · have hkl : (qs l).take k = qs l := List.take_of_length_le (by rw [qs_length]; omega)
            rw [hkl]
            clear hkl hk HE
            have z1 : ¬ (k : Int) < (l.length : Int) := by omega
            have HE := Lib.hid hE
            have hr1 := ((HI.out.1.on hE.bel).nest).1
            have hown0 := World.ownsRow_nil wr wr.heap.size 34 1
            obtain ⟨i0, hi, hz0, hz1, hz2⟩ := info_parts infoInts
            clear hE
            go_wp2_with (at_builtin; refine wpList_append_rd (f := elV) (fun _ => rfl) rfl _ _ 26 rfl wr.heap.size 34 i0 _ 24 Tryd.underlying26 hi hz0 hz1 hz2 rfl _ 0 [] rfl hown0 A1 c1 _ l rfl hr1 (by unfold maxLen; omega) (by omega) (Nat.le_refl _) ?_)
            intro v' w7 hown7 hO7
            have hown7' : w7.ownsRow wr.heap.size 34 1 v' l.length (l.map elV) := by simpa using hown7
            obtain ⟨A3, c3, rfl⟩ : ∃ A3 c3, v' = .slice A3 l.length c3 := by
              obtain ⟨A', c', h, _, _⟩ := own_form1 hown7'
              exact ⟨A', c', h⟩
            have hb7 := hO7.nil
            have hE7 := HE.out.on hb7
            have hr2 := ((HI.out.2.1.on hE7.bel).nest).1
            have hbs7 := hb7.size
            have HE7 := Lib.hid hE7
            have HO7 := Lib.hid hb7
            clear hown7 hO7 hb7 hE7 hown0 hr1
            go_wp2_with (at_builtin; refine wpList_append_rd (f := elV) (fun _ => rfl) rfl _ _ 26 rfl wr.heap.size 34 i0 _ 24 Tryd.underlying26 hi hz0 hz1 hz2 rfl _ l.length (l.map elV) rfl hown7' A2 c2 _ m rfl hr2 (by unfold maxLen; omega) (by omega) hbs7 ?_)
            intro v' w8 hown8 hO8
            have hown8' : w8.ownsRow wr.heap.size 34 1 v' (l.length + m.length) ((l ++ m).map elV) := by simpa using hown8
            obtain ⟨A4, c4, rfl⟩ : ∃ A4 c4, v' = .slice A4 (l.length + m.length) c4 := by
              obtain ⟨A', c', h, _, _⟩ := own_form1 hown8'
              exact ⟨A', c', h⟩
            have hb8 : Below wr.heap.size wr w8 := HO7.out.trans (hO8.belowBase hbs7 (fun g hg => (own_block hown7' hg).1))
            have hE8 := HE.out.on hb8
            have hin8 : InP w8 A4 c4 (l ++ m) := InP.of_row hown8' (fun e he => by
              rcases List.mem_append.1 he with he | he
              · exact (HI.out.1.on hE8.bel).nest.2 e he
              · exact (HI.out.2.1.on hE8.bel).nest.2 e he)
            have hnlm : Nums (qs (l ++ m)) := by
              rw [qs_append]
              intro q hq
              rcases List.mem_append.1 hq with hq | hq
              · exact HI.out.2.2.1 q hq
              · exact HI.out.2.2.2 q hq
            have h1 := ha ⟨fg, bg, fl⟩ A4 c4 (l ++ m) w8 HP.out hin8 hnlm (hT.on hE8.bel)
            rw [qs_append, HM.out.2.2.2.2.2.2.2.2.2, List.length_append] at h1
            simp only [pnV] at h1
            obtain ⟨k0, k1, k2⟩ := hE8.three (List.mem_cons_of_mem _ (List.mem_cons_of_mem _ (List.mem_singleton.2 rfl)))
            simp only at k0 k1 k2
            have HE8 := Lib.hid hE8
            clear hown8 hO8 hb8 hE8 hin8 hnlm hown8' hown7' hr2 hbs7 HO7 HE7 HE hi hz0 hz1 hz2
            go_wp2_with fail
            refine h1.mono ?_
            rintro e w9 ⟨rfl, hb9⟩
            have hE := (HE8.out.on hb9).add cc
            clear h1 hb9 HE8 k0 k1 k2
            have hsaV := fun V => hs a V HM.out.1.ok
            have hsbV := fun V => hs b V HM.out.2.1.ok
            have hscV := fun V => hs cc V HM.out.2.2.1.ok
            rw [decide_eq_true HM.out.1] at hsaV
            rw [decide_eq_true HM.out.2.1] at hsbV
            rw [decide_eq_true HM.out.2.2.1] at hscV
            simp only [pnV] at hsaV hsbV hscV
            obtain ⟨k0, k1, k2⟩ := hE.three (List.mem_cons_of_mem _ (List.mem_cons_of_mem _ (List.mem_cons_self ..)))
            have HE := Lib.hid hE
            clear hE
            go_upto_region 16 with fail
            generalize w9.alloc (.cells #[.int .i64 cc.fg, .int .i64 cc.bg, .int .i64 cc.fl] 23) = W9 at *
            go_wp2_with fail
            refine (hsaV _).mono ?_
            rintro e w10 ⟨rfl, hb10⟩
            have hE := HE.out.on hb10
            clear hb10 HE k0 k1 k2 hsaV
            obtain ⟨k0, k1, k2⟩ := hE.three (List.mem_cons_of_mem _ (List.mem_cons_self ..))
            have HE := Lib.hid hE
            clear hE
            go_wp2_with fail
            refine (hsbV _).mono ?_
            rintro e w11 ⟨rfl, hb11⟩
            have hE := HE.out.on hb11
            clear hb11 HE k0 k1 k2 hsbV
            obtain ⟨k0, k1, k2⟩ := hE.three (List.mem_cons_self ..)
            have HE := Lib.hid hE
            clear hE
            go_wp2_with fail
            refine (hscV _).mono ?_
            rintro e w12 ⟨rfl, hb12⟩
            have hE := HE.out.on hb12
            clear hb12 HE k0 k1 k2 hscV
            cases hbk : brkB (qs l) with
            | true =>
              clear hbk
              cases hba : bothN a.fl with
              | true =>
                have hand1 := HM.out.2.2.2.2.2.1
                rw [hba] at hand1
                have hn1 : (bits .and .i64 a.fl 264 != 264) = false := by unfold bne; rw [hand1]; rfl
                have hand2 := HM.out.2.2.2.2.2.2.1
                rw [HM.out.2.2.2.2.1 hba] at hand2
                clear hba
                obtain ⟨k0, k1, k2⟩ := hE.three (List.mem_cons_self ..)
                obtain ⟨m0, m1, m2⟩ := hE.three (List.mem_cons_of_mem _ (List.mem_cons_self ..))
                obtain ⟨-, -, n2⟩ := hE.three (List.mem_cons_of_mem _ (List.mem_cons_of_mem _ (List.mem_cons_self ..)))
                obtain ⟨-, -, p2⟩ := hE.three (List.mem_cons_of_mem _ (List.mem_cons_of_mem _ (List.mem_cons_of_mem _ (List.mem_singleton.2 rfl))))
                simp only at p2
                have HB := Lib.hid hE.bel
                clear hE HM
                go_wp2_with fail
                go_ret
                exact ⟨rfl, HB.out⟩
              | false =>
                have hand1 := HM.out.2.2.2.2.2.1
                rw [hba] at hand1
                have hn1 : (bits .and .i64 a.fl 264 != 264) = true := by unfold bne; rw [hand1]; rfl
                clear hba
                obtain ⟨k0, k1, k2⟩ := hE.three (List.mem_cons_self ..)
                obtain ⟨m0, m1, m2⟩ := hE.three (List.mem_cons_of_mem _ (List.mem_cons_self ..))
                obtain ⟨-, -, n2⟩ := hE.three (List.mem_cons_of_mem _ (List.mem_cons_of_mem _ (List.mem_cons_self ..)))
                obtain ⟨-, -, p2⟩ := hE.three (List.mem_cons_of_mem _ (List.mem_cons_of_mem _ (List.mem_cons_of_mem _ (List.mem_singleton.2 rfl))))
                simp only at p2
                have HB := Lib.hid hE.bel
                clear hE HM
                go_wp2_with fail
                go_ret
                exact ⟨rfl, HB.out⟩
            | false =>
              obtain rfl : cc = b := HM.out.2.2.2.1 hbk
              clear hbk
              cases hba : bothN a.fl with
              | true =>
                have hand1 := HM.out.2.2.2.2.2.1
                rw [hba] at hand1
                have hn1 : (bits .and .i64 a.fl 264 != 264) = false := by unfold bne; rw [hand1]; rfl
                have hand2 := HM.out.2.2.2.2.2.2.1
                rw [HM.out.2.2.2.2.1 hba] at hand2
                clear hba
                obtain ⟨k0, k1, k2⟩ := hE.three (List.mem_cons_self ..)
                obtain ⟨m0, m1, m2⟩ := hE.three (List.mem_cons_of_mem _ (List.mem_cons_self ..))
                obtain ⟨-, -, n2⟩ := hE.three (List.mem_cons_of_mem _ (List.mem_cons_of_mem _ (List.mem_cons_self ..)))
                obtain ⟨-, -, p2⟩ := hE.three (List.mem_cons_of_mem _ (List.mem_cons_of_mem _ (List.mem_cons_of_mem _ (List.mem_singleton.2 rfl))))
                simp only at p2
                have HB := Lib.hid hE.bel
                clear hE HM
                go_wp2_with fail
                go_ret
                exact ⟨rfl, HB.out⟩
              | false =>
                have hand1 := HM.out.2.2.2.2.2.1
                rw [hba] at hand1
                have hn1 : (bits .and .i64 a.fl 264 != 264) = true := by unfold bne; rw [hand1]; rfl
                clear hba
                obtain ⟨k0, k1, k2⟩ := hE.three (List.mem_cons_self ..)
                obtain ⟨m0, m1, m2⟩ := hE.three (List.mem_cons_of_mem _ (List.mem_cons_self ..))
                obtain ⟨-, -, n2⟩ := hE.three (List.mem_cons_of_mem _ (List.mem_cons_of_mem _ (List.mem_cons_self ..)))
                obtain ⟨-, -, p2⟩ := hE.three (List.mem_cons_of_mem _ (List.mem_cons_of_mem _ (List.mem_cons_of_mem _ (List.mem_singleton.2 rfl))))
                simp only at p2
                have HB := Lib.hid hE.bel
                clear hE HM
                go_wp2_with fail
                go_ret
                exact ⟨rfl, HB.out⟩
      · rw [decide_eq_false hsane] at h1
        simp only at k0 k1 k2
        go_wp2_with fail
        refine h1.mono ?_
        rintro e w4 ⟨rfl, hb4⟩
        have hE := HE.out.on hb4
        clear h1 hb4 HE k0 k1 k2
        have hb5 := hE.bel
        clear hE
        go_wp2_with fail
        go_ret
        exact ⟨rfl, hb5⟩
end Go.Proofs.YtlcnlfjjglcobaaDoor
