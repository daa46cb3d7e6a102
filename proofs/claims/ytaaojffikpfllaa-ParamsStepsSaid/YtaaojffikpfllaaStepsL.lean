/- ParamsSteps, walked over the contracts. -/
import Derived.Test.YtaaojffikpfllaaContr05b
namespace Go.Proofs.Ytaaojffikpfllaa
open Go Go.RowKit
set_option linter.unusedVariables false
set_option linter.unusedSimpArgs false

theorem str_at {bs : List Nat} {j x : Nat} (h : bs[j]? = some x) (hx : x < 256) (V : World) : (Instr.index 9 (.string (strS bs)) (.int .i64 (j : Int))).run Try.prog V = .ok (.int .u8 (x : Int)) V := by
  obtain ⟨hj, hv⟩ := List.getElem?_eq_some_iff.1 h
  rw [run_index_string V 9 (strS bs) .i64 j Try.underlying9]
  have hs : (strS bs).size = bs.length := strS_size bs
  rw [dif_pos (by rw [hs]; omega)]
  congr 3
  have e : (strS bs)[(j : Int).toNat]'(by rw [hs]; simpa using hj) = UInt8.ofNat x := by
    subst hv
    show ((bs.map UInt8.ofNat).toArray)[(j : Int).toNat]'_ = _
    simp
  rw [e, UInt8.toNat_ofNat']
  omega
theorem parse_run {bs : List Nat} (h : ∀ c ∈ bs, isByte c) : parseP bs = some (runP zeroP bs).l := by unfold parseP; rw [if_pos h]
theorem parse_bad {bs : List Nat} {j x : Nat} (h : bs[j]? = some x) (hx : ¬ isByte x) : parseP bs = none := by
  unfold parseP
  rw [if_neg (fun k => hx (k x (List.mem_of_getElem? h)))]
/-- The law's own variable of parameters. -/
structure PS (W0 : World) (X : Nat) (W : World) (A : Option Addr) (c : Nat) (es : List El) (o : Bool) : Prop where
  box : Box W X 31 #[.slice A es.length c, .bool o]
  inp : InP W A c es
  off : Off X A es
  bel : Below X W0 W
theorem PS.step {W0 W w2 : World} {X : Nat} {A A' : Option Addr} {c c' : Nat} {es es' : List El} {o : Bool} (h : PS W0 X W A c es o) (hb : Below W.heap.size W w2) (hi : InP w2 A' c' es') (ho : Off X A' es') (o' : Bool) :
    PS W0 X ((w2.setCell ⟨X, 0, none⟩ (.slice A' es'.length c')).setCell ⟨X, 1, none⟩ (.bool o')) A' c' es' o' := by
  have b1 := h.box.below hb h.box.lt
  have b2 := (b1.set_ 0 (.slice A' es'.length c')).set_ 1 (.bool o')
  have i1 := hi.off ho ⟨X, 0, none⟩ rfl (.slice A' es'.length c')
  have i2 := i1.off ho ⟨X, 1, none⟩ rfl (.bool o')
  have e1 := h.bel.trans (hb.mono (Nat.le_of_lt h.box.lt))
  exact ⟨b2, i2, ho, (e1.setCell (p := ⟨X, 0, none⟩) (Nat.le_refl _) _).setCell (p := ⟨X, 1, none⟩) (Nat.le_refl _) _⟩
theorem PS.cells {W0 W : World} {X : Nat} {A : Option Addr} {c : Nat} {es : List El} {o : Bool} (h : PS W0 X W A c es o) :
    W.cell? ⟨X, 0, none⟩ = some (.slice A es.length c) ∧ W.cell? ⟨X, 1, none⟩ = some (.bool o) ∧ W.frozen? ⟨X, 0, none⟩ = false ∧ W.frozen? ⟨X, 1, none⟩ = false := ⟨h.box.cell 0, h.box.cell 1, h.box.free 0, h.box.free 1⟩
set_option maxRecDepth 100000 in
set_option maxHeartbeats 4000000 in
theorem steps_law (hp : ParseC) (hget : GetC) (hsane : SaneC) (hdig : DigitC) (hnext : NextC) (hsub : SubC) (bs : List Nat) (hbs : ∀ c ∈ bs, c < 256) (w : World) :
    Calls Try.prog 4 #[.string (strS bs)] w fun e w' => e = .returned (.bool true) ∧ Below w.heap.size w w' := by
  have hs : (strS bs).size = bs.length := strS_size bs
  by_cases hbig : 300 < bs.length
  · have hz : (bs.length : Int) > 300 := by omega
    go_enter Try.func4, Try.ntmps4
    go_wp2_with fail
    refine (awake_c hp hget w).mono ?_
    rintro e w1 ⟨rfl, hb1⟩
    go_wp2_with fail
    go_ret
    exact ⟨rfl, hb1⟩
  · have hz : ¬ (bs.length : Int) > 300 := by omega
    by_cases hall : ∀ c ∈ bs, isByte c
    · go_enter Try.func4, Try.ntmps4
      go_wp2_with fail
      refine (awake_c hp hget w).mono ?_
      rintro e w1 ⟨rfl, hb1⟩
      have hpc := hp bs w1 hbs (by omega)
      rw [parse_run hall] at hpc
      unfold GivesL at hpc
      dsimp only at hpc
      go_wp2_with fail
      refine hpc.mono ?_
      rintro e W0 ⟨A, c, es, rfl, hin, hq, hb2⟩
      have hbel := hb1.trans (hb2.mono hb1.size)
      have HQ := Lib.hid hq
      clear hb2 hb1 hpc hq
      have hps : PS W0 W0.heap.size (W0.alloc (.cells #[.slice none 0 0, .bool false] 31)) none 0 [] false := ⟨Box.new _ _ _, ⟨Nest.nil, Nat.le_refl _, by decide⟩, Off.nil, (Below.refl _ _).alloc (Nat.le_refl _) _⟩
      go_wp2_with fail
      go_loopw [7] (fun iv wr => ∃ k : Nat, k ≤ bs.length ∧ iv = .int .i64 (k : Int) ∧ ∃ (A' : Option Addr) (c' : Nat) (es' : List El) (o' : Bool), PS W0 W0.heap.size wr A' c' es' o' ∧ Hid ((⟨qs es', o'⟩ : Par) = runP zeroP (bs.take k)) ∧ Hid (∀ c ∈ bs.take k, isByte c)) (fun iv _ => bs.length - (intOf iv).toNat)
      case atStart => exact ⟨0, by omega, rfl, none, 0, [], false, hps, Lib.hid rfl, Lib.hid (by simp)⟩
      case round =>
        obtain ⟨k, hk, rfl, A', c', es', o', hr, HR, HB⟩ := hrel
        obtain ⟨d0, d1, f0, f1⟩ := hr.cells
        by_cases hlt : k < bs.length
        · have hx : bs[k]? = some bs[k] := List.getElem?_eq_getElem hlt
          have hx2 := hbs bs[k] (List.getElem_mem hlt)
          generalize bs[k] = x at hx hx2
          have hix := str_at hx hx2
          have z1 : (k : Int) < (bs.length : Int) := by omega
          have HX := Lib.hid hx
          have hrun : ∀ p, stepP (runP zeroP (bs.take k)) x = p → p = runP zeroP (bs.take (k + 1)) := fun p hp => by rw [take_snoc hx, run_snoc, hp]
          have hbyt : isByte x → Hid (∀ c ∈ bs.take (k + 1), isByte c) := fun hb => Lib.hid (by
            rw [take_snoc hx]
            intro y hy
            rcases List.mem_append.1 hy with hy | hy
            · exact HB.out y hy
            · simp at hy; subst hy; exact hb)
          rw [← HR.out] at hrun
          have HU := Lib.hid hrun
          have HY := Lib.hid hbyt
          clear hx hrun hbyt
          by_cases x59 : x = 59
          · have e59 : ((x : Int) == 59) = true := by simp [x59]
            have hc := hnext A' c' es' o' wr hr.inp
            have hst : stepP ⟨qs es', o'⟩ x = nextP ⟨qs es', o'⟩ := by unfold stepP; rw [if_pos x59]
            have HS := Lib.hid hst
            have hyb := HY.out (.inr (.inr x59))
            clear x59 hst
            go_wp2_with fail
            refine hc.mono ?_
            rintro e w2 ⟨A2, c2, es2, rfl, hi2, hq2, hoff, hb2⟩
            have hps2 := hr.step hb2 hi2 (hoff _ hr.box.lt hr.off) (nextP ⟨qs es', o'⟩).o
            have b1 := hr.box.below hb2 hr.box.lt
            have g0 := b1.free 0
            have g1 := b1.free 1
            have y0 := b1.cell 0
            have y1 := b1.cell 1
            have hE : (⟨qs es2, (nextP ⟨qs es', o'⟩).o⟩ : Par) = runP zeroP (bs.take (k + 1)) := HU.out _ (by rw [HS.out]; exact Par.ext' hq2.symm rfl)
            generalize (nextP ⟨qs es', o'⟩).o = o2 at *
            have HE := Lib.hid hE
            clear hE hi2 hq2 hoff hb2 b1 d0 d1 f0 f1 hc HS
            go_wp2_with fail
            exact ⟨⟨k + 1, by omega, by go_num, A2, c2, es2, o2, hps2, HE, hyb⟩, by simp [intOf]; omega⟩
          · have e59 : ((x : Int) == 59) = false := by simp; omega
            by_cases x58 : x = 58
            · have e58 : ((x : Int) == 58) = true := by simp [x58]
              have hc := hsub A' c' es' o' wr hr.inp
              have hst : stepP ⟨qs es', o'⟩ x = subP ⟨qs es', o'⟩ := by unfold stepP; rw [if_neg x59, if_pos x58]
              have HS := Lib.hid hst
              have hyb := HY.out (.inr (.inl x58))
              clear x58 x59 hst
              go_wp2_with fail
              refine hc.mono ?_
              rintro e w2 ⟨A2, c2, es2, rfl, hi2, hq2, hoff, hb2⟩
              have hps2 := hr.step hb2 hi2 (hoff _ hr.box.lt hr.off) (subP ⟨qs es', o'⟩).o
              have b1 := hr.box.below hb2 hr.box.lt
              have g0 := b1.free 0
              have g1 := b1.free 1
              have y0 := b1.cell 0
              have y1 := b1.cell 1
              have hE : (⟨qs es2, (subP ⟨qs es', o'⟩).o⟩ : Par) = runP zeroP (bs.take (k + 1)) := HU.out _ (by rw [HS.out]; exact Par.ext' hq2.symm rfl)
              generalize (subP ⟨qs es', o'⟩).o = o2 at *
              have HE := Lib.hid hE
              clear hE hi2 hq2 hoff hb2 b1 d0 d1 f0 f1 hc HS
              go_wp2_with fail
              exact ⟨⟨k + 1, by omega, by go_num, A2, c2, es2, o2, hps2, HE, hyb⟩, by simp [intOf]; omega⟩
            · have e58 : ((x : Int) == 58) = false := by simp; omega
              by_cases hd : isDig x
              · have hc := fun V (hV : InP V A' c' es') => hdig A' c' es' o' x V hx2 hV
                have hst : stepP ⟨qs es', o'⟩ x = digitP x ⟨qs es', o'⟩ := by unfold stepP; rw [if_neg x59, if_neg x58]
                have HS := Lib.hid hst
                have hyb := HY.out (.inl hd)
                unfold isDig at hd
                have z48 : (x : Int) ≥ 48 := by omega
                have z57 : (x : Int) ≤ 57 := by omega
                clear x58 x59 hst hd
                go_upto_region 15 with fail
                refine region_plan2 [([1, 2], [])] 3 0 3 [([], [3, 4, 5])] [([], [0, 4, 5])] (fun w' => ∃ u : Has (fun _ => True), w' = u.val) (by kernel_rfl) (by kernel_rfl) (fun _ _ _ _ _ h => h) ⟨⟨_, trivial⟩, rfl⟩ ?_
                simp only [wpPlanK, sel, List.take_succ_cons, List.take_zero, List.drop_succ_cons, List.drop_zero, List.cons_append, List.nil_append]
                repeat (go_big_quiet_step (fail))
                refine wpQuiet_nil ?_
                simp only [wpChain, wpPlanK]
                refine ⟨?_, ?_⟩
                · go_wp2_with fail
                  refine ⟨⟨⟨_, trivial⟩, rfl⟩, ?_⟩
                  simp only [wpPlan, sel, List.take_succ_cons, List.take_zero, List.drop_succ_cons, List.drop_zero, List.cons_append, List.nil_append]
                  refine wpQuiet_nil ?_
                  unfold wpChain
                  go_wp2_with fail
                  refine ⟨⟨⟨_, trivial⟩, rfl⟩, ?_⟩
                  unfold wpChain
                  go_wp2_with fail
                  refine (hc _ (hr.inp.on ((Below.refl _ _).drew))).mono ?_
                  rintro e w2 ⟨A2, c2, es2, rfl, hi2, hq2, hoff, hb2'⟩
                  have hb2 : Below wr.heap.size wr w2 := ((Below.refl _ _).drew).trans hb2'
                  have hps2 := hr.step hb2 hi2 (hoff _ hr.box.lt hr.off) (digitP x ⟨qs es', o'⟩).o
                  have b1 := hr.box.below hb2 hr.box.lt
                  have g0 := b1.free 0
                  have g1 := b1.free 1
                  have y0 := b1.cell 0
                  have y1 := b1.cell 1
                  have hE : (⟨qs es2, (digitP x ⟨qs es', o'⟩).o⟩ : Par) = runP zeroP (bs.take (k + 1)) := HU.out _ (by rw [HS.out]; exact Par.ext' hq2.symm rfl)
                  generalize (digitP x ⟨qs es', o'⟩).o = o2 at *
                  have HE := Lib.hid hE
                  clear hE hi2 hq2 hoff hb2 hb2' b1 d0 d1 f0 f1 hc HS
                  go_wp2_with fail
                  refine ⟨⟨⟨_, trivial⟩, rfl⟩, ?_⟩
                  unfold wpChain
                  go_wp2_with fail
                  refine ⟨⟨⟨_, trivial⟩, rfl⟩, ?_⟩
                  simp only [wpChain, wpPlan]
                  go_wp2_with fail
                  exact ⟨⟨k + 1, by omega, by go_num, A2, c2, es2, o2, hps2, HE, hyb⟩, by simp [intOf]; omega⟩
                · go_wp2_with fail
                  refine ⟨⟨⟨_, trivial⟩, rfl⟩, ?_⟩
                  simp only [wpPlan, sel, List.take_succ_cons, List.take_zero, List.drop_succ_cons, List.drop_zero, List.cons_append, List.nil_append]
                  refine wpQuiet_nil ?_
                  unfold wpChain
                  go_wp2_with fail
                  refine ⟨⟨⟨_, trivial⟩, rfl⟩, ?_⟩
                  unfold wpChain
                  go_wp2_with fail
                  refine (hc _ (hr.inp.on ((Below.refl _ _).drew))).mono ?_
                  rintro e w2 ⟨A2, c2, es2, rfl, hi2, hq2, hoff, hb2'⟩
                  have hb2 : Below wr.heap.size wr w2 := ((Below.refl _ _).drew).trans hb2'
                  have hps2 := hr.step hb2 hi2 (hoff _ hr.box.lt hr.off) (digitP x ⟨qs es', o'⟩).o
                  have b1 := hr.box.below hb2 hr.box.lt
                  have g0 := b1.free 0
                  have g1 := b1.free 1
                  have y0 := b1.cell 0
                  have y1 := b1.cell 1
                  have hE : (⟨qs es2, (digitP x ⟨qs es', o'⟩).o⟩ : Par) = runP zeroP (bs.take (k + 1)) := HU.out _ (by rw [HS.out]; exact Par.ext' hq2.symm rfl)
                  generalize (digitP x ⟨qs es', o'⟩).o = o2 at *
                  have HE := Lib.hid hE
                  clear hE hi2 hq2 hoff hb2 hb2' b1 d0 d1 f0 f1 hc HS
                  go_wp2_with fail
                  refine ⟨⟨⟨_, trivial⟩, rfl⟩, ?_⟩
                  unfold wpChain
                  go_wp2_with fail
                  refine ⟨⟨⟨_, trivial⟩, rfl⟩, ?_⟩
                  simp only [wpChain, wpPlan]
                  go_wp2_with fail
                  exact ⟨⟨k + 1, by omega, by go_num, A2, c2, es2, o2, hps2, HE, hyb⟩, by simp [intOf]; omega⟩
              · exact absurd (hall x (List.mem_of_getElem? HX.out)) (by unfold isByte; rintro (h | h | h); exact hd h; exact x58 h; exact x59 h)
        · obtain rfl : k = bs.length := by omega
          have z1 : ¬ (bs.length : Int) < (bs.length : Int) := by omega
          have hr1 : (⟨qs es', o'⟩ : Par) = runP zeroP bs := by
            have h := HR.out
            rwa [List.take_length] at h
          have hq1 : qs es = qs es' := by rw [HQ.out, ← hr1]
          have hsm := same_c A A' es es' c c' wr (hin.nest.on hr.bel) hr.inp.nest hin.len hr.inp.len
          rw [decide_eq_true hq1] at hsm
          have hsp : SaneP ⟨qs es', o'⟩ := by rw [hr1]; exact run_sane zero_sane bs
          have hsn := fun V hV => hsane A' c' es' o' V hV
          rw [decide_eq_true hsp] at hsn
          have HSN := Lib.hid hsn
          clear hr1 hq1 hsp hsn
          go_wp2_with fail
          refine hsm.mono ?_
          rintro e w2 ⟨rfl, hb2⟩
          have b1 := hr.box.below hb2 hr.box.lt
          have y0 := b1.cell 0
          have y1 := b1.cell 1
          have hsn2 := HSN.out w2 (hr.inp.on hb2)
          have hbel3 := (hbel.trans (hr.bel.mono hbel.size)).trans (hb2.mono (Nat.le_trans hbel.size hr.bel.size))
          clear d0 d1 f0 f1 hsm
          go_wp2_with fail
          refine hsn2.mono ?_
          rintro e w3 ⟨rfl, hb3⟩
          have hbel4 := hbel3.trans (hb3.mono hbel3.size)
          clear y0 y1 hsn2
          go_wp2_with fail
          go_ret
          exact ⟨rfl, hbel4⟩
    · go_enter Try.func4, Try.ntmps4
      go_wp2_with fail
      refine (awake_c hp hget w).mono ?_
      rintro e w1 ⟨rfl, hb1⟩
      have hpc := hp bs w1 hbs (by omega)
      obtain ⟨jb, hjb1, hjb2⟩ : ∃ jb : Nat, jb < bs.length ∧ ∀ x, bs[jb]? = some x → ¬ isByte x := by
        obtain ⟨x, hx, hnx⟩ : ∃ x, x ∈ bs ∧ ¬ isByte x := by
          by_cases h : ∃ x, x ∈ bs ∧ ¬ isByte x
          · exact h
          · exact absurd (fun x hx => Decidable.byContradiction fun k => h ⟨x, hx, k⟩) hall
        obtain ⟨jb, hj, hv⟩ := List.mem_iff_getElem.1 hx
        exact ⟨jb, hj, fun y hy => by
          rw [List.getElem?_eq_getElem hj, hv] at hy
          injection hy with hy
          rw [← hy]; exact hnx⟩
      have hg := List.getElem?_eq_getElem hjb1
      rw [parse_bad hg (hjb2 _ hg)] at hpc
      unfold GivesL at hpc
      dsimp only at hpc
      have HJ := Lib.hid (And.intro hg (hjb2 _ hg))
      clear hg hjb2
      go_wp2_with fail
      refine hpc.mono ?_
      rintro e W0 ⟨A, c, rfl, hb2⟩
      have hbel := hb1.trans (hb2.mono hb1.size)
      clear hb2 hb1 hpc hall
      have hps : PS W0 W0.heap.size (W0.alloc (.cells #[.slice none 0 0, .bool false] 31)) none 0 [] false := ⟨Box.new _ _ _, ⟨Nest.nil, Nat.le_refl _, by decide⟩, Off.nil, (Below.refl _ _).alloc (Nat.le_refl _) _⟩
      go_wp2_with fail
      go_loopw [7] (fun iv wr => ∃ k : Nat, k ≤ bs.length ∧ iv = .int .i64 (k : Int) ∧ ∃ (A' : Option Addr) (c' : Nat) (es' : List El) (o' : Bool), PS W0 W0.heap.size wr A' c' es' o' ∧ Hid ((⟨qs es', o'⟩ : Par) = runP zeroP (bs.take k)) ∧ Hid (∀ c ∈ bs.take k, isByte c)) (fun iv _ => bs.length - (intOf iv).toNat)
      case atStart => exact ⟨0, by omega, rfl, none, 0, [], false, hps, Lib.hid rfl, Lib.hid (by simp)⟩
      case round =>
        obtain ⟨k, hk, rfl, A', c', es', o', hr, HR, HB⟩ := hrel
        obtain ⟨d0, d1, f0, f1⟩ := hr.cells
        by_cases hlt : k < bs.length
        · have hx : bs[k]? = some bs[k] := List.getElem?_eq_getElem hlt
          have hx2 := hbs bs[k] (List.getElem_mem hlt)
          generalize bs[k] = x at hx hx2
          have hix := str_at hx hx2
          have z1 : (k : Int) < (bs.length : Int) := by omega
          have HX := Lib.hid hx
          have hrun : ∀ p, stepP (runP zeroP (bs.take k)) x = p → p = runP zeroP (bs.take (k + 1)) := fun p hp => by rw [take_snoc hx, run_snoc, hp]
          have hbyt : isByte x → Hid (∀ c ∈ bs.take (k + 1), isByte c) := fun hb => Lib.hid (by
            rw [take_snoc hx]
            intro y hy
            rcases List.mem_append.1 hy with hy | hy
            · exact HB.out y hy
            · simp at hy; subst hy; exact hb)
          rw [← HR.out] at hrun
          have HU := Lib.hid hrun
          have HY := Lib.hid hbyt
          clear hx hrun hbyt
          by_cases x59 : x = 59
          · have e59 : ((x : Int) == 59) = true := by simp [x59]
            have hc := hnext A' c' es' o' wr hr.inp
            have hst : stepP ⟨qs es', o'⟩ x = nextP ⟨qs es', o'⟩ := by unfold stepP; rw [if_pos x59]
            have HS := Lib.hid hst
            have hyb := HY.out (.inr (.inr x59))
            clear x59 hst
            go_wp2_with fail
            refine hc.mono ?_
            rintro e w2 ⟨A2, c2, es2, rfl, hi2, hq2, hoff, hb2⟩
            have hps2 := hr.step hb2 hi2 (hoff _ hr.box.lt hr.off) (nextP ⟨qs es', o'⟩).o
            have b1 := hr.box.below hb2 hr.box.lt
            have g0 := b1.free 0
            have g1 := b1.free 1
            have y0 := b1.cell 0
            have y1 := b1.cell 1
            have hE : (⟨qs es2, (nextP ⟨qs es', o'⟩).o⟩ : Par) = runP zeroP (bs.take (k + 1)) := HU.out _ (by rw [HS.out]; exact Par.ext' hq2.symm rfl)
            generalize (nextP ⟨qs es', o'⟩).o = o2 at *
            have HE := Lib.hid hE
            clear hE hi2 hq2 hoff hb2 b1 d0 d1 f0 f1 hc HS
            go_wp2_with fail
            exact ⟨⟨k + 1, by omega, by go_num, A2, c2, es2, o2, hps2, HE, hyb⟩, by simp [intOf]; omega⟩
          · have e59 : ((x : Int) == 59) = false := by simp; omega
            by_cases x58 : x = 58
            · have e58 : ((x : Int) == 58) = true := by simp [x58]
              have hc := hsub A' c' es' o' wr hr.inp
              have hst : stepP ⟨qs es', o'⟩ x = subP ⟨qs es', o'⟩ := by unfold stepP; rw [if_neg x59, if_pos x58]
              have HS := Lib.hid hst
              have hyb := HY.out (.inr (.inl x58))
              clear x58 x59 hst
              go_wp2_with fail
              refine hc.mono ?_
              rintro e w2 ⟨A2, c2, es2, rfl, hi2, hq2, hoff, hb2⟩
              have hps2 := hr.step hb2 hi2 (hoff _ hr.box.lt hr.off) (subP ⟨qs es', o'⟩).o
              have b1 := hr.box.below hb2 hr.box.lt
              have g0 := b1.free 0
              have g1 := b1.free 1
              have y0 := b1.cell 0
              have y1 := b1.cell 1
              have hE : (⟨qs es2, (subP ⟨qs es', o'⟩).o⟩ : Par) = runP zeroP (bs.take (k + 1)) := HU.out _ (by rw [HS.out]; exact Par.ext' hq2.symm rfl)
              generalize (subP ⟨qs es', o'⟩).o = o2 at *
              have HE := Lib.hid hE
              clear hE hi2 hq2 hoff hb2 b1 d0 d1 f0 f1 hc HS
              go_wp2_with fail
              exact ⟨⟨k + 1, by omega, by go_num, A2, c2, es2, o2, hps2, HE, hyb⟩, by simp [intOf]; omega⟩
            · have e58 : ((x : Int) == 58) = false := by simp; omega
              by_cases hd : isDig x
              · have hc := fun V (hV : InP V A' c' es') => hdig A' c' es' o' x V hx2 hV
                have hst : stepP ⟨qs es', o'⟩ x = digitP x ⟨qs es', o'⟩ := by unfold stepP; rw [if_neg x59, if_neg x58]
                have HS := Lib.hid hst
                have hyb := HY.out (.inl hd)
                unfold isDig at hd
                have z48 : (x : Int) ≥ 48 := by omega
                have z57 : (x : Int) ≤ 57 := by omega
                clear x58 x59 hst hd
                go_upto_region 15 with fail
                refine region_plan2 [([1, 2], [])] 3 0 3 [([], [3, 4, 5])] [([], [0, 4, 5])] (fun w' => ∃ u : Has (fun _ => True), w' = u.val) (by kernel_rfl) (by kernel_rfl) (fun _ _ _ _ _ h => h) ⟨⟨_, trivial⟩, rfl⟩ ?_
                simp only [wpPlanK, sel, List.take_succ_cons, List.take_zero, List.drop_succ_cons, List.drop_zero, List.cons_append, List.nil_append]
                repeat (go_big_quiet_step (fail))
                refine wpQuiet_nil ?_
                simp only [wpChain, wpPlanK]
                refine ⟨?_, ?_⟩
                · go_wp2_with fail
                  refine ⟨⟨⟨_, trivial⟩, rfl⟩, ?_⟩
                  simp only [wpPlan, sel, List.take_succ_cons, List.take_zero, List.drop_succ_cons, List.drop_zero, List.cons_append, List.nil_append]
                  refine wpQuiet_nil ?_
                  unfold wpChain
                  go_wp2_with fail
                  refine ⟨⟨⟨_, trivial⟩, rfl⟩, ?_⟩
                  unfold wpChain
                  go_wp2_with fail
                  refine (hc _ (hr.inp.on ((Below.refl _ _).drew))).mono ?_
                  rintro e w2 ⟨A2, c2, es2, rfl, hi2, hq2, hoff, hb2'⟩
                  have hb2 : Below wr.heap.size wr w2 := ((Below.refl _ _).drew).trans hb2'
                  have hps2 := hr.step hb2 hi2 (hoff _ hr.box.lt hr.off) (digitP x ⟨qs es', o'⟩).o
                  have b1 := hr.box.below hb2 hr.box.lt
                  have g0 := b1.free 0
                  have g1 := b1.free 1
                  have y0 := b1.cell 0
                  have y1 := b1.cell 1
                  have hE : (⟨qs es2, (digitP x ⟨qs es', o'⟩).o⟩ : Par) = runP zeroP (bs.take (k + 1)) := HU.out _ (by rw [HS.out]; exact Par.ext' hq2.symm rfl)
                  generalize (digitP x ⟨qs es', o'⟩).o = o2 at *
                  have HE := Lib.hid hE
                  clear hE hi2 hq2 hoff hb2 hb2' b1 d0 d1 f0 f1 hc HS
                  go_wp2_with fail
                  refine ⟨⟨⟨_, trivial⟩, rfl⟩, ?_⟩
                  unfold wpChain
                  go_wp2_with fail
                  refine ⟨⟨⟨_, trivial⟩, rfl⟩, ?_⟩
                  simp only [wpChain, wpPlan]
                  go_wp2_with fail
                  exact ⟨⟨k + 1, by omega, by go_num, A2, c2, es2, o2, hps2, HE, hyb⟩, by simp [intOf]; omega⟩
                · go_wp2_with fail
                  refine ⟨⟨⟨_, trivial⟩, rfl⟩, ?_⟩
                  simp only [wpPlan, sel, List.take_succ_cons, List.take_zero, List.drop_succ_cons, List.drop_zero, List.cons_append, List.nil_append]
                  refine wpQuiet_nil ?_
                  unfold wpChain
                  go_wp2_with fail
                  refine ⟨⟨⟨_, trivial⟩, rfl⟩, ?_⟩
                  unfold wpChain
                  go_wp2_with fail
                  refine (hc _ (hr.inp.on ((Below.refl _ _).drew))).mono ?_
                  rintro e w2 ⟨A2, c2, es2, rfl, hi2, hq2, hoff, hb2'⟩
                  have hb2 : Below wr.heap.size wr w2 := ((Below.refl _ _).drew).trans hb2'
                  have hps2 := hr.step hb2 hi2 (hoff _ hr.box.lt hr.off) (digitP x ⟨qs es', o'⟩).o
                  have b1 := hr.box.below hb2 hr.box.lt
                  have g0 := b1.free 0
                  have g1 := b1.free 1
                  have y0 := b1.cell 0
                  have y1 := b1.cell 1
                  have hE : (⟨qs es2, (digitP x ⟨qs es', o'⟩).o⟩ : Par) = runP zeroP (bs.take (k + 1)) := HU.out _ (by rw [HS.out]; exact Par.ext' hq2.symm rfl)
                  generalize (digitP x ⟨qs es', o'⟩).o = o2 at *
                  have HE := Lib.hid hE
                  clear hE hi2 hq2 hoff hb2 hb2' b1 d0 d1 f0 f1 hc HS
                  go_wp2_with fail
                  refine ⟨⟨⟨_, trivial⟩, rfl⟩, ?_⟩
                  unfold wpChain
                  go_wp2_with fail
                  refine ⟨⟨⟨_, trivial⟩, rfl⟩, ?_⟩
                  simp only [wpChain, wpPlan]
                  go_wp2_with fail
                  exact ⟨⟨k + 1, by omega, by go_num, A2, c2, es2, o2, hps2, HE, hyb⟩, by simp [intOf]; omega⟩
              · have hbel3 := hbel.trans (hr.bel.mono hbel.size)
                unfold isDig at hd
                by_cases z48 : (x : Int) ≥ 48
                · have z57 : ¬ (x : Int) ≤ 57 := by omega
                  clear x58 x59 hd
                  go_wp2_with fail
                  go_ret
                  exact ⟨rfl, hbel3⟩
                · clear x58 x59 hd
                  go_wp2_with fail
                  go_ret
                  exact ⟨rfl, hbel3⟩
        · obtain rfl : k = bs.length := by omega
          refine absurd (HB.out _ ?_) HJ.out.2
          rw [List.take_length]
          exact List.mem_of_getElem? HJ.out.1
end Go.Proofs.Ytaaojffikpfllaa
