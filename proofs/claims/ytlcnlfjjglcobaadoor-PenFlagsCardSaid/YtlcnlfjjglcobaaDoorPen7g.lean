/- Package pen: a pen by parameters. -/
import Derived.Test.YtlcnlfjjglcobaaDoorPen7f
namespace Go.Proofs.YtlcnlfjjglcobaaDoor
open Go Go.RowKit
set_option linter.unusedVariables false
set_option linter.unusedSimpArgs false

def slLen : Value → Nat
  | .slice _ n _ => n
  | _ => 0
theorem step_rest (p : Pn) (q : List Int) (rest : List (List Int)) : (∀ x ∈ (stepC p q rest).2, x ∈ rest) ∧ (stepC p q rest).2.length ≤ rest.length := by
  have key : ∀ l : List (List Int), (l = rest ∨ l = [] ∨ ∃ k, l = rest.drop k) → (∀ x ∈ l, x ∈ rest) ∧ l.length ≤ rest.length := by
    intro l h
    rcases h with rfl | rfl | ⟨k, rfl⟩
    · exact ⟨fun x h => h, Nat.le_refl _⟩
    · exact ⟨by simp, Nat.zero_le _⟩
    · exact ⟨fun x h => List.mem_of_mem_drop h, by rw [List.length_drop]; omega⟩
  refine key _ ?_
  unfold stepC
  split
  · exact .inl rfl
  split
  · unfold extC
    split
    · exact .inl rfl
    split
    · exact .inr (.inl rfl)
    · exact .inr (.inr ⟨_, rfl⟩)
  · exact .inl rfl
/-- Where the loop stands. -/
def ApAt (w wr : World) (R : Pn) (A : Option Addr) (c : Nat) (es : List El) : Prop :=
  ∃ q, InP w A c es ∧ TwoB w wr q zeroN ∧ SaneN q ∧ goN q (qs es) = R ∧ Nums (qs es)
set_option maxRecDepth 100000 in
set_option maxHeartbeats 4000000 in
theorem apply7_c : Apply7C := by
  intro p A c es w hok hin hnum hTog
  have hT0 : TwoB w ((w.alloc (.cells #[.int .i64 p.fg, .int .i64 p.bg, .int .i64 p.fl] 23)).alloc (.cells #[.int .i64 0, .int .i64 0, .int .i64 0] 23)) p zeroN := TwoB.new w p zeroN
  have hs := fun V : World => sane7_c p V hok
  obtain ⟨fg, bg, fl⟩ := p
  have v1 : pnV ⟨fg, bg, fl⟩ = .agg #[.int .i64 fg, .int .i64 bg, .int .i64 fl] := rfl
  rw [v1] at hs
  rw [v1]
  have HT := Lib.hid hT0
  have hlen := hin.len
  unfold maxLen at hlen
  by_cases hsane : SaneN ⟨fg, bg, fl⟩
  · have hs1 := fun V => hs V
    rw [decide_eq_true hsane] at hs1
    by_cases hnil : es = []
    · have HR := Lib.hid (show applyN ⟨fg, bg, fl⟩ (qs es) = zeroN by unfold applyN; rw [if_neg (by rw [hnil]; simp [qs])])
      subst hnil
      have hl3 : ([] : List El).length = 0 := rfl
      clear hs hin hnum hsane hT0
      go_enter Tryd.func11, Tryd.ntmps11
      go_wp2_with fail
      refine (hs1 _).mono ?_
      rintro r w1 ⟨rfl, hb1⟩
      have hE1 := HT.out.on hb1
      clear hs1 hb1
      obtain ⟨-, -, ⟨m0, m1, m2⟩, ⟨f0, f1, f2⟩⟩ := hE1.cells
      have HE4 := Lib.hid (hE1.put2 zeroN)
      clear hE1
      go_wp2_with fail
      refine bodyPost_ret (ret_pen rfl zeroN _ _ (w.heap.size + 1) _ rfl HE4.out.b2) rfl ?_
      exact ⟨by rw [HR.out], HE4.out.bel⟩
    · have HR := Lib.hid (show goN ⟨fg, bg, fl⟩ (qs es) = applyN ⟨fg, bg, fl⟩ (qs es) by unfold applyN; rw [if_pos ⟨hsane, by intro h; apply hnil; simpa [qs] using h⟩])
      have hpos : 0 < es.length := List.length_pos_iff.2 hnil
      have hl4 : ((es.length : Int) == 0) = false := beq_eq_false_iff_ne.2 (by omega)
      have HIN := Lib.hid (And.intro hin (And.intro hsane hnum))
      obtain ⟨R, hR⟩ : ∃ R, applyN ⟨fg, bg, fl⟩ (qs es) = R := ⟨_, rfl⟩
      rw [hR]
      rw [hR] at HR
      clear hs hin hnum hsane hT0 hnil hR
      go_enter Tryd.func11, Tryd.ntmps11
      go_wp2_with fail
      refine (hs1 _).mono ?_
      rintro r w1 ⟨rfl, hb1⟩
      have hE1 := HT.out.on hb1
      clear hs1 hb1
      have HAP : Hid (ApAt w w1 R A c es) := Lib.hid ⟨_, HIN.out.1, hE1, HIN.out.2.1, HR.out, HIN.out.2.2⟩
      clear hE1
      go_wp2_with fail
      go_loopw [1] (fun u wr => ∃ (A' : Option Addr) (c' : Nat) (es' : List El), u = .slice A' es'.length c' ∧ es'.length ≤ 9223372036854775807 ∧ Hid (ApAt w wr R A' c' es')) (fun u _ => slLen u)
      case atStart => exact ⟨A, c, es, rfl, by omega, HAP⟩
      case round =>
        obtain ⟨A', c', es', rfl, hl', HA⟩ := hrel
        match es', hl', HA with
        | [], hl', HA =>
          obtain ⟨q, hin', hE, hsq, hgo, hnq⟩ := HA.out
          have hRq : R = q := by rw [← hgo]; exact goN_nil q
          subst hRq
          obtain ⟨a1, a2, a3⟩ := R
          obtain ⟨⟨k0, k1, k2⟩, -, ⟨m0, m1, m2⟩, ⟨f0, f1, f2⟩⟩ := hE.cells
          have HE4 := Lib.hid (hE.put2 ⟨a1, a2, a3⟩)
          simp only at k0 k1 k2
          have hl3 : ([] : List El).length = 0 := rfl
          clear hin' hE hsq hgo hnq HA
          go_wp2_with fail
          refine bodyPost_ret (ret_pen rfl ⟨a1, a2, a3⟩ _ _ (w.heap.size + 1) _ rfl HE4.out.b2) rfl ?_
          exact ⟨rfl, HE4.out.bel⟩
        | e0 :: es1, hl', HA =>
          obtain ⟨q, hin', hE, hsq, hgo, hnq⟩ := HA.out
          obtain ⟨a1, a2, a3⟩ := q
          have v2 : pnV ⟨a1, a2, a3⟩ = .agg #[.int .i64 a1, .int .i64 a2, .int .i64 a3] := rfl
          have hst := step_c7 ⟨a1, a2, a3⟩ A' c' e0 es1 wr (hin'.on hE.bel) (hnq e0.q (by simp [qs])) (hTog.on hE.bel)
          have hsi := step_is hsq e0.q (qs es1)
          have hsr := step_rest ⟨a1, a2, a3⟩ e0.q (qs es1)
          have hgo' : goN ⟨a1, a2, a3⟩ (e0.q :: qs es1) = R := hgo
          rw [hgo'] at hsi
          rw [v2] at hst
          unfold GivesPS at hst
          generalize stepC ⟨a1, a2, a3⟩ e0.q (qs es1) = st at *
          obtain ⟨⟨b1, b2, b3⟩, sl⟩ := st
          have v3 : pnV ⟨b1, b2, b3⟩ = .agg #[.int .i64 b1, .int .i64 b2, .int .i64 b3] := rfl
          simp only [v3] at hst
          obtain ⟨⟨k0, k1, k2⟩, -⟩ := hE.cells
          simp only at k0 k1 k2
          have HE := Lib.hid hE
          have HSI := Lib.hid hsi
          have HSR := Lib.hid hsr
          have HNQ := Lib.hid (And.intro hin' hnq)
          have z1 : (0 : Int) < (es1.length : Int) + 1 := by omega
          simp only [List.length_cons] at hst hl' ⊢
          clear hin' hE hsq hgo hgo' hnq hsi hsr HA
          go_wp2_with fail
          refine hst.mono ?_
          rintro r w2 ⟨Y, dy, es2, rfl, hall, hq2, hb2⟩
          have hE2 := HE.out.on hb2
          clear hst k0 k1 k2 hb2
          obtain ⟨-, ⟨g0, g1, g2⟩, -⟩ := hE2.cells
          obtain ⟨⟨k0, k1, k2⟩, -⟩ := hE2.cells
          have HE3 := Lib.hid (hE2.put1 ⟨b1, b2, b3⟩)
          have hl2 : es2.length ≤ es1.length := by rw [← qs_length, hq2, ← qs_length es1]; exact HSR.out.2
          have HAP2 : Hid (ApAt w _ R Y dy es2) := Lib.hid ⟨⟨b1, b2, b3⟩, hall w HNQ.out.1, HE3.out, HSI.out.2, by rw [hq2]; exact HSI.out.1, by
            rw [hq2]; exact fun x hx => HNQ.out.2 x (List.mem_cons_of_mem _ (HSR.out.1 x hx))⟩
          clear hE2 hall hq2
          go_wp2_with fail
          exact ⟨⟨Y, dy, es2, rfl, by omega, HAP2⟩, by simp [slLen]; omega⟩
  · have HR := Lib.hid (show applyN ⟨fg, bg, fl⟩ (qs es) = zeroN by unfold applyN; rw [if_neg (fun h => hsane h.1)])
    rw [decide_eq_false hsane] at hs
    clear hin hnum hsane hT0
    go_enter Tryd.func11, Tryd.ntmps11
    go_wp2_with fail
    refine (hs _).mono ?_
    rintro r w1 ⟨rfl, hb1⟩
    have hE1 := HT.out.on hb1
    clear hs hb1
    obtain ⟨-, -, ⟨m0, m1, m2⟩, ⟨f0, f1, f2⟩⟩ := hE1.cells
    have HE4 := Lib.hid (hE1.put2 zeroN)
    clear hE1
    go_wp2_with fail
    refine bodyPost_ret (ret_pen rfl zeroN _ _ (w.heap.size + 1) _ rfl HE4.out.b2) rfl ?_
    exact ⟨by rw [HR.out], HE4.out.bel⟩
end Go.Proofs.YtlcnlfjjglcobaaDoor
