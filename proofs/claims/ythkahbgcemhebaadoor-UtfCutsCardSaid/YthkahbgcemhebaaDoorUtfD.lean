/- Feed, by its contract: the letters of what was left and of what comes, and what is left. -/
import Derived.Test.YthkahbgcemhebaaDoorUtfC
namespace Go.Proofs.YthkahbgcemhebaaDoor
open Go Go.RowKit
set_option linter.unusedVariables false
set_option linter.unusedSimpArgs false

theorem head_range (l : List Nat) : 0 ≤ headF l ∧ headF l ≤ 1114111 := by
  obtain ⟨n, ⟨h1, _⟩, h2⟩ := head_let l
  omega
def lenOf : Value → Nat
  | .slice _ n _ => n
  | _ => 0
def FeedSaid (base : Nat) (bs : List Nat) (w : World) (e : Ending) (w' : World) : Prop :=
  ∃ A' c' A'' c'', e = .returned (.tuple #[.agg #[.slice A' (feedF bs).2.length c'], .slice A'' (feedF bs).1.length c'']) ∧ Byt w' w'.heap.size A' (feedF bs).2 ∧ (feedF bs).2.length ≤ c' ∧ c' ≤ maxLen ∧
    w'.ownsRow base 3 1 (.slice A'' (feedF bs).1.length c'') (feedF bs).1.length ((feedF bs).1.map intV) ∧ Below w.heap.size w w'

/-- The same, and what is left lies in a row of the call's own. -/
def FeedOwn (base : Nat) (bs : List Nat) (w : World) (e : Ending) (w' : World) : Prop :=
  ∃ A' c' A'' c'', e = .returned (.tuple #[.agg #[.slice A' (feedF bs).2.length c'], .slice A'' (feedF bs).1.length c'']) ∧ w'.ownsRow base 5 1 (.slice A' (feedF bs).2.length c') (feedF bs).2.length ((feedF bs).2.map byteV) ∧ (feedF bs).2.length ≤ c' ∧ c' ≤ maxLen ∧
    w'.ownsRow base 3 1 (.slice A'' (feedF bs).1.length c'') (feedF bs).1.length ((feedF bs).1.map intV) ∧ Below w.heap.size w w' ∧ Apart (.slice A' (feedF bs).2.length c') (.slice A'' (feedF bs).1.length c'')
theorem FeedOwn.said {base : Nat} {bs : List Nat} {w : World} {e : Ending} {w' : World} (h : FeedOwn base bs w e w') : FeedSaid base bs w e w' := by
  obtain ⟨A', c', A'', c'', h1, h2, h3, h4, h5, h6, _⟩ := h
  exact ⟨A', c', A'', c'', h1, Rd.of_own h2, h3, h4, h5, h6⟩
set_option maxRecDepth 100000 in
set_option maxHeartbeats 4000000 in
theorem feed_own_c (A1 A2 : Option Addr) (l1 l2 : List Nat) (k1 k2 : Nat) (w : World) (hT : Tb w) (h1 : Byt w w.heap.size A1 l1) (h2 : Byt w w.heap.size A2 l2) (hb1 : ∀ c ∈ l1, c < 256) (hb2 : ∀ c ∈ l2, c < 256)
    (hc1 : l1.length ≤ k1) (hm1 : k1 ≤ maxLen) (hs : shortB l1 = true) (hn : l1.length + l2.length ≤ 100000) :
    Calls Tryd.prog 9 #[.agg #[.slice A1 l1.length k1], .slice A2 l2.length k2] w (FeedOwn w.heap.size (l1 ++ l2) w) := by
  obtain ⟨i0, hi, hz0, hz1, hz2⟩ := info_parts infoByte
  obtain ⟨j0, hj, hy0, hy1, hy2⟩ := info_parts infoInt
  go_enter Tryd.func9, Tryd.ntmps9
  go_wp2_with fail
  have hbx := Box.new w 26 #[.slice A1 l1.length k1]
  have hbr := Box.new (w.alloc (.cells #[.slice A1 l1.length k1] 26)) 26 #[.slice none 0 0]
  have hb0 : Below w.heap.size w ((w.alloc (.cells #[.slice A1 l1.length k1] 26)).alloc (.cells #[.slice none 0 0] 26)) := ((Below.refl _ _).alloc (Nat.le_refl _) _).alloc (by simp) _
  replace hbx := hbx.alloc (.cells #[.slice none 0 0] 26)
  have hz1' : (w.alloc (.cells #[.slice A1 l1.length k1] 26)).heap.size = w.heap.size + 1 := by simp
  rw [hz1'] at hbr
  have hsz : ((w.alloc (.cells #[.slice A1 l1.length k1] 26)).alloc (.cells #[.slice none 0 0] 26)).heap.size = w.heap.size + 2 := by simp
  generalize (w.alloc (.cells #[.slice A1 l1.length k1] 26)).alloc (.cells #[.slice none 0 0] 26) = W at *
  have hsc := sane_c A1 l1 k1 W (hT.below hb0 hT.size) (h1.on hb0) hb1 hc1 hm1
  rw [hs] at hsc
  refine hsc.mono ?_
  rintro e w1 ⟨rfl, hz⟩
  have hbel1 := hb0.trans (hz.mono hb0.size)
  replace hbx := hbx.below hz (by omega)
  replace hbr := hbr.below hz (by omega)
  have hT1 := hT.below hbel1 hT.size
  have cx : w1.cell? ⟨w.heap.size, 0, none⟩ = some (.slice A1 l1.length k1) := hbx.cell 0
  clear hsc hz hs hb0
  go_wp2_with fail
  have hY := Box.new w1 22 #[.slice A1 l1.length k1, .slice A2 l2.length k2]
  have hz2' : Below w1.heap.size w1 (w1.alloc (.cells #[.slice A1 l1.length k1, .slice A2 l2.length k2] 22)) := (Below.refl _ _).alloc (Nat.le_refl _) _
  have hbel2 := hbel1.trans (hz2'.mono hbel1.size)
  replace hbx := hbx.below hz2' hbx.lt
  replace hbr := hbr.below hz2' hbr.lt
  clear hz2'
  generalize w1.alloc (.cells #[.slice A1 l1.length k1, .slice A2 l2.length k2] 22) = w2 at *
  refine (concat_c _ A1 A2 l1 l2 k1 k2 w2 hY (h1.on hbel2) (h2.on hbel2) hn).mono ?_
  rintro e w3 ⟨v3, n3, rfl, hown3, hz3⟩
  have hbel3 := hbel2.trans (hz3.mono hbel2.size)
  replace hbr := hbr.below hz3 hbr.lt
  have hT3 := hT.below hbel3 hT.size
  have hL := own_len hown3
  subst hL
  obtain ⟨A3, c3, rfl, hc3, hcm3⟩ := own_form1 hown3
  have hR3 := Rd.of_own hown3
  have hall : ∀ c ∈ l1 ++ l2, c < 256 := by
    intro c hc
    rw [List.mem_append] at hc
    rcases hc with hc | hc
    · exact hb1 c hc
    · exact hb2 c hc
  have hlen : (l1 ++ l2).length ≤ 100000 := by rw [List.length_append]; exact hn
  have hw31 := hbr.lt
  clear hown3 hz3 hY hbx hb1 hb2 h1 h2 hn hbel1 hbel2 hT1 cx hc1 hm1
  generalize l1 ++ l2 = bs at *
  go_wp2_with fail
  go_loopw [6, 7] (fun rv lv wr => ∃ (done : List Int) (rest : List Nat) (A : Option Addr) (c n : Nat), rv = .slice A rest.length c ∧ Byt w3 w3.heap.size A rest ∧ (∀ x ∈ rest, x < 256) ∧ rest.length ≤ c ∧ c ≤ maxLen ∧
    wr.ownsRow w3.heap.size 3 1 lv n (done.map intV) ∧ Hid (feedF bs = (done ++ (feedF rest).1, (feedF rest).2)) ∧ done.length + rest.length ≤ 100000 ∧ Below w3.heap.size w3 wr) (fun rv _ _ => lenOf rv)
  case atStart => exact ⟨[], bs, A3, c3, 0, rfl, hR3, hall, hc3, hcm3, World.ownsRow_nil _ _ _ _, Lib.hid rfl, by simpa using hlen, Below.refl _ _⟩
  case round =>
    obtain ⟨done, rest, A, c, n, rfl, hR, hby, hrc, hcm, hown, HF, hlen2, hbel⟩ := hrel
    have hR3' : Hid (Byt w3 w3.heap.size A rest) := Lib.hid hR
    replace hR := hR.below hbel
    have hTr := hT3.below hbel hT3.size
    have hnd := own_len hown
    subst hnd
    have hsh := short_c A rest c wr hTr (hR.more hbel.size) hby hrc hcm
    cases hsb : shortB rest
    · rw [hsb] at hsh
      have hne : rest ≠ [] := by rintro rfl; simp [shortB] at hsb
      have hopn : opnB rest = false := by unfold shortB at hsb; simpa [hne] using hsb
      have hM := run_cons_ne hne
      have hst := feed_step hne hopn
      have HST := Lib.hid hst
      have hH := head_range rest
      clear hst hsb
      go_wp2_with fail
      refine hsh.mono ?_
      rintro e w4 ⟨rfl, hz⟩
      have hbel4 := hbel.trans (hz.mono hbel.size)
      have hown4 := own_below hown hz
      have hR4 := hR.below (hz.mono hbel.size)
      clear hz hsh hown hR hTr
      have hfc := first_c A rest c w4 hne hopn (hT3.below hbel4 hT3.size) (hR4.more hbel4.size) hby hrc hcm
      have hlr : 0 < rest.length := List.length_pos_iff.2 hne
      clear hne hopn
      generalize max (runF rest).1 1 = M at *
      generalize headF rest = H at *
      go_wp2_with fail
      refine hfc.mono ?_
      rintro e w5 ⟨rfl, hz⟩
      have hbel5 := hbel4.trans (hz.mono hbel4.size)
      have hown5 := own_below hown4 hz
      have hR5 := hR4.below (hz.mono hbel4.size)
      clear hz hfc hown4 hR4
      have hRH : Rd intV (w5.alloc (.cells #[.int .i64 H] 3)) (w5.alloc (.cells #[.int .i64 H] 3)).heap.size (some ⟨w5.heap.size, 0, none⟩) [H] := Rd.of_box (f := intV) (Box.new w5 _ #[.int .i64 H])
      have hz5 := hbel5.size
      go_wp2_with (at_builtin; refine wpList_append_rd (f := intV) (fun _ => rfl) rfl _ _ 23 rfl w3.heap.size 3 j0 _ 8 Tryd.underlying23 hj hy0 hy1 hy2 rfl _ _ _ rfl (hown5.alloc _) _ 1 _ [H] rfl hRH (by unfold maxLen; simp; omega) (by simp; omega) (by simp; omega) ?_)
      intro v' w6 hown6 hO
      have hbel6 : Below w3.heap.size w3 w6 := (hbel5.alloc hbel5.size _).trans (hO.belowBase (by simp; omega) (fun g hg => (own_block hown5 hg).1))
      have hR6 : Byt w6 w3.heap.size A rest := (hR3'.out).below hbel6
      clear hO hown5 hR5 hRH hbel5 hbel4
      go_wp2_with fail
      refine ⟨⟨done ++ [H], rest.drop M, _, c - M, done.length + 1, by rw [List.length_drop], (hR3'.out).cut hrc, fun x hx => hby x (List.mem_of_mem_drop hx), by rw [List.length_drop]; omega, by omega, ?_, Lib.hid ?_, ?_, hbel6⟩, ?_⟩
      · simpa using hown6
      · rw [HF.out, HST.out]; simp
      · rw [List.length_append, List.length_drop]; simp; omega
      · simp [lenOf]; omega
    · rw [hsb] at hsh
      have hend : feedF rest = ([], rest) := by
        by_cases hne : rest = []
        · subst hne; rfl
        · exact feed_opn (by unfold shortB at hsb; simpa [hne] using hsb)
      have hfin : feedF bs = (done, rest) := by rw [HF.out, hend]; simp
      have HFIN := Lib.hid hfin
      obtain ⟨A7, c7, rfl, hc7, hcm7⟩ := own_form1 hown
      clear hend hfin HF hsb
      go_wp2_with fail
      refine hsh.mono ?_
      rintro e w4 ⟨rfl, hz⟩
      have hbel4 := hbel.trans (hz.mono hbel.size)
      have hown4 := own_below hown hz
      have hR4 := hR.below (hz.mono hbel.size)
      replace hbr := hbr.below hbel4 hbr.lt
      clear hz hsh hown hR hTr
      have hz4 := hbel4.size
      go_wp2_with (at_builtin; refine wpList_append_rd (f := byteV) (fun _ => rfl) rfl _ _ 22 rfl w3.heap.size 5 i0 _ 1 Tryd.underlying22 hi hz0 hz1 hz2 rfl _ 0 [] rfl (World.ownsRow_nil _ _ _ _) A c _ rest rfl hR4 (by unfold maxLen; omega) (by omega) (by omega) ?_)
      intro v' w5 hown5 hO
      obtain ⟨A8, c8, rfl, hc8, hcm8⟩ := own_form1 hown5
      have hz := hO.nil
      have hap8 : Apart (.slice A8 rest.length c8) (.slice A7 done.length c7) := by
        intro g hg hu
        have h1 := (own_block hown4 hu).2
        rcases hO.at_ with h2 | h2
        · have : Value.ownBlock (.slice A8 rest.length c8) = none := h2
          rw [this] at hg; cases hg
        · have := h2 g hg; omega
      have hbel5 := hbel4.trans (hz.mono hbel4.size)
      have hownL := own_below hown4 hz
      replace hbr := hbr.below (hz.mono hbel4.size) hw31
      have hfr := hbr.free 0
      have hcl : w5.cell? ⟨w.heap.size + 1, 0, none⟩ = some (.slice none 0 0) := hbr.cell 0
      have hne8 : Value.ownBlock (.slice A8 rest.length c8) ≠ some (w.heap.size + 1) := fun e => by have := (own_block hown5 e).1; omega
      have hne7 : Value.ownBlock (.slice A7 done.length c7) ≠ some (w.heap.size + 1) := fun e => by have := (own_block hownL e).1; omega
      have hwb := hbr.lt
      have hb3 := hbel3.size
      clear hO hown4 hR4 hbel4 hz
      go_wp2_with fail
      have hsame : (w5.setCell ⟨w.heap.size + 1, 0, none⟩ (.slice A8 rest.length c8)).cell? ⟨w.heap.size + 1, 0, none⟩ = some (.slice A8 rest.length c8) := (hbr.set_ 0 _).cell 0
      refine bodyPost_ret (v := .tuple #[.agg #[.slice A8 rest.length c8], .slice A7 done.length c7]) (by simp [results, Tryd.results9, go_sem, hsame]) rfl ?_
      have hzz : (w5.setCell ⟨w.heap.size + 1, 0, none⟩ (.slice A8 rest.length c8)).heap.size = w5.heap.size := by simp
      have hownB := own_far hown5 (p := ⟨w.heap.size + 1, 0, none⟩) hne8 (.slice A8 rest.length c8)
      have hownC := own_far hownL (p := ⟨w.heap.size + 1, 0, none⟩) hne7 (.slice A8 rest.length c8)
      have hbF : Below w.heap.size w (w5.setCell ⟨w.heap.size + 1, 0, none⟩ (.slice A8 rest.length c8)) := (hbel3.trans (hbel5.mono hbel3.size)).setCell (Nat.le_succ _) _
      unfold FeedOwn
      rw [HFIN.out]
      exact ⟨A8, c8, A7, c7, rfl, own_le hownB hbel3.size, hc8, hcm8, own_le hownC hbel3.size, hbF, hap8⟩
theorem feed_c (A1 A2 : Option Addr) (l1 l2 : List Nat) (k1 k2 : Nat) (w : World) (hT : Tb w) (h1 : Byt w w.heap.size A1 l1) (h2 : Byt w w.heap.size A2 l2) (hb1 : ∀ c ∈ l1, c < 256) (hb2 : ∀ c ∈ l2, c < 256)
    (hc1 : l1.length ≤ k1) (hm1 : k1 ≤ maxLen) (hs : shortB l1 = true) (hn : l1.length + l2.length ≤ 100000) :
    Calls Tryd.prog 9 #[.agg #[.slice A1 l1.length k1], .slice A2 l2.length k2] w (FeedSaid w.heap.size (l1 ++ l2) w) :=
  (feed_own_c A1 A2 l1 l2 k1 k2 w hT h1 h2 hb1 hb2 hc1 hm1 hs hn).mono fun _ _ h => h.said
end Go.Proofs.YthkahbgcemhebaaDoor
