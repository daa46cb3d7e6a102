/- ParamsStays, walked over the contracts. -/
import Derived.Test.YtaaojffikpfllaaDoorParBackL
import Derived.Test.YtaaojffikpfllaaDoorRefFew
import Derived.Test.YtaaojffikpfllaaDoorMath05b
namespace Go.Proofs.YtaaojffikpfllaaDoor
open Go Go.RowKit
set_option linter.unusedVariables false
set_option linter.unusedSimpArgs false

abbrev cells2 (A : Option Addr) (n c : Nat) (o : Bool) : Array Value := #[.slice A n c, .bool o]
theorem ours_c (A : Option Addr) (n c : Nat) (o : Bool) (w : World) : Calls Tryd.prog 11 #[.agg #[.slice A n c, .bool o]] w fun e w' => e = .returned (.agg #[.slice A n c, .bool o]) ∧ Below w.heap.size w w' := by
  have hX : Box ((w.alloc (.cells #[.slice A n c, .bool o] 34)).alloc (.cells #[.slice A n c, .bool o] 32)) (w.heap.size + 1) 32 #[.slice A n c, .bool o] := by have := Box.new (w.alloc (.cells #[.slice A n c, .bool o] 34)) 32 #[.slice A n c, .bool o]; simpa using this
  have hb : Below w.heap.size w ((w.alloc (.cells #[.slice A n c, .bool o] 34)).alloc (.cells #[.slice A n c, .bool o] 32)) := ((Below.refl _ _).alloc (Nat.le_refl _) _).alloc (by simp) _
  have HX := Lib.hid (And.intro hX hb)
  clear hX hb
  go_enter Tryd.func11, Tryd.ntmps11
  go_wp2_with fail
  exact bodyPost_ret (results_cell_row rfl _ _ (w.heap.size + 1) _ _ (0, 0) _ rfl HX.out.1 Tryd.underlying32 rfl (by kernel_rfl)) rfl ⟨rfl, HX.out.2⟩

/-- What the law keeps: the parameter's variable and the three results'. -/
structure Env (w W : World) (P D X S : Nat) (A Ad Ax As : Option Addr) (c cd cx cs : Nat) (es ed ex eS : List El) (o od ox os : Bool) : Prop where
  bp : Box W P 34 #[.slice A es.length c, .bool o]
  bd : Box W D 32 #[.slice Ad ed.length cd, .bool od]
  bx : Box W X 32 #[.slice Ax ex.length cx, .bool ox]
  bs : Box W S 32 #[.slice As eS.length cs, .bool os]
  ip : InP W A c es
  id : InP W Ad cd ed
  ix : InP W Ax cx ex
  is : InP W As cs eS
  bel : Below w.heap.size w W
section
variable {w W W' : World} {P D X S : Nat} {A Ad Ax As : Option Addr} {c cd cx cs : Nat} {es ed ex eS : List El} {o od ox os : Bool}
theorem Env.on (h : Env w W P D X S A Ad Ax As c cd cx cs es ed ex eS o od ox os) (hb : Below W.heap.size W W') : Env w W' P D X S A Ad Ax As c cd cx cs es ed ex eS o od ox os :=
  ⟨h.bp.below hb h.bp.lt, h.bd.below hb h.bd.lt, h.bx.below hb h.bx.lt, h.bs.below hb h.bs.lt, h.ip.on hb, h.id.on hb, h.ix.on hb, h.is.on hb, h.bel.trans (hb.mono h.bel.size)⟩
theorem Env.cells (h : Env w W P D X S A Ad Ax As c cd cx cs es ed ex eS o od ox os) : W.cell? ⟨P, 0, none⟩ = some (.slice A es.length c) ∧ W.cell? ⟨P, 1, none⟩ = some (.bool o) ∧
    W.cell? ⟨D, 0, none⟩ = some (.slice Ad ed.length cd) ∧ W.cell? ⟨D, 1, none⟩ = some (.bool od) ∧ W.cell? ⟨X, 0, none⟩ = some (.slice Ax ex.length cx) ∧ W.cell? ⟨X, 1, none⟩ = some (.bool ox) ∧
    W.cell? ⟨S, 0, none⟩ = some (.slice As eS.length cs) ∧ W.cell? ⟨S, 1, none⟩ = some (.bool os) :=
  ⟨h.bp.cell 0, h.bp.cell 1, h.bd.cell 0, h.bd.cell 1, h.bx.cell 0, h.bx.cell 1, h.bs.cell 0, h.bs.cell 1⟩
end
theorem single_in (W : World) (e : El) (h : ElOk W W.heap.size e) : InP (W.alloc (.cells #[.slice e.A e.q.length e.c] 29)) (some ⟨W.heap.size, 0, none⟩) 1 [e] := by
  have h1 : Box (W.alloc (.cells #[.slice e.A e.q.length e.c] 29)) W.heap.size 29 ([e].map elV).toArray := Box.new W _ _
  refine ⟨⟨Rd.of_box h1, ?_⟩, Nat.le_refl _, show 1 ≤ maxLen by decide⟩
  intro x hx
  simp only [List.mem_singleton] at hx
  subst hx
  exact h.on ((Below.refl _ _).alloc (Nat.le_refl _) _)

set_option maxRecDepth 100000 in
set_option maxHeartbeats 4000000 in
theorem stays_law (hp : ParseC) (hget : GetC) (hsane : SaneC) (hprint : PrintC) (hdig : DigitC) (hnext : NextC) (hsub : SubC) (A : Option Addr) (c : Nat) (es : List El) (o : Bool) (k : Nat) (hk : k < 256) (w : World) (hin : InP w A c es)
    (hI : ∀ q ∈ qs es, ∀ n ∈ q, I64 n) (hP : Pw w) :
    Calls Tryd.prog 4 #[.agg #[.slice A es.length c, .bool o], .int .u8 (k : Int)] w fun e w' => e = .returned (.bool true) ∧ Below w.heap.size w w' := by
  have hg := hP.size
  have hA0 : Box (w.alloc (.cells #[.slice A es.length c, .bool o] 34)) w.heap.size 34 #[.slice A es.length c, .bool o] := Box.new w _ _
  have hbel0 := (Below.refl w.heap.size w).alloc (Nat.le_refl _) (.cells #[.slice A es.length c, .bool o] 34)
  have hin0 := hin.on hbel0
  go_enter Tryd.func4, Tryd.ntmps4
  go_wp2_with fail
  refine (awake_c hp hget _).mono ?_
  rintro e w1 ⟨rfl, hb1⟩
  have hbel1 := hbel0.trans (hb1.mono hbel0.size)
  have hA1 := hA0.below hb1 hA0.lt
  have hin1 := hin0.on hb1
  have hf := few_c A es c w1 hin1.nest
  have x0 := hA1.cell 0
  have x1 := hA1.cell 1
  clear hA0 hbel0 hin0 hb1
  cases hfew : fewB (qs es) with
  | false =>
    rw [hfew] at hf
    go_wp2_with fail
    refine hf.mono ?_
    rintro e w2 ⟨rfl, hb2⟩
    have hbel2 := hbel1.trans (hb2.mono hbel1.size)
    clear x0 x1 hf
    go_wp2_with fail
    go_ret
    exact ⟨rfl, hbel2⟩
  | true =>
    rw [hfew] at hf
    have hsz : SizeP (qs es) := by
      unfold fewB at hfew
      obtain ⟨h1, h2⟩ := of_decide_eq_true hfew
      exact ⟨h1, fun q hq => ⟨h2 q hq, hI q hq⟩⟩
    clear hfew
    go_wp2_with fail
    refine hf.mono ?_
    rintro e w2 ⟨rfl, hb2⟩
    have hbel2 := hbel1.trans (hb2.mono hbel1.size)
    have hA2 := hA1.below hb2 hA1.lt
    have hin2 := hin1.on hb2
    clear x0 x1 hf hb2 hA1 hin1 hbel1
    have x0 := hA2.cell 0
    have x1 := hA2.cell 1
    go_wp2_with fail
    refine (ours_c A es.length c o _).mono ?_
    rintro e w3 ⟨rfl, hb3⟩
    have hbel3 := hbel2.trans (hb3.mono hbel2.size)
    have hA3 := hA2.below hb3 hA2.lt
    have hin3 := hin2.on hb3
    have hsn := hsane A c es o w3 hin3
    clear x0 x1 hb3 hA2 hin2 hbel2
    by_cases hsp : SaneP ⟨qs es, o⟩
    · rw [decide_eq_true hsp] at hsn
      have HSP := Lib.hid hsp
      clear hsp
      go_wp2_with fail
      refine hsn.mono ?_
      rintro e w4 ⟨rfl, hb4⟩
      have hbel4 := hbel3.trans (hb4.mono hbel3.size)
      have hA4 := hA3.below hb4 hA3.lt
      have hin4 := hin3.on hb4
      have hpr := fun V (hV : InP V A c es) hPV => refPrint_c A es c V hV.nest hsz hPV
      generalize strS (printP (qs es)) = T at hpr
      have HPR := Lib.hid hpr
      have hpr4 := hpr w4 hin4 (hP.below hbel4 hg)
      clear hsn hb4 hA3 hin3 hbel3 hpr
      have x0 := hA4.cell 0
      have x1 := hA4.cell 1
      go_wp2_with fail
      refine hpr4.mono ?_
      rintro e w5 ⟨rfl, hb5⟩
      have hbel5 := hbel4.trans (hb5.mono hbel4.size)
      have hA5 := hA4.below hb5 hA4.lt
      have hin5 := hin4.on hb5
      clear x0 x1 hpr4 hb5 hA4 hin4 hbel4
      have x0 := hA5.cell 0
      have x1 := hA5.cell 1
      go_wp2_with fail
      refine (ours_c A es.length c o _).mono ?_
      rintro e w6 ⟨rfl, hb6⟩
      have hbel6 := hbel5.trans (hb6.mono hbel5.size)
      have hA6 := hA5.below hb6 hA5.lt
      have hin6 := hin5.on hb6
      have hd6 := hdig A c es o k w6 hk hin6
      clear x0 x1 hb6 hA5 hin5 hbel5
      go_wp2_with fail
      refine hd6.mono ?_
      rintro e w7 ⟨Ad, cd, ed, rfl, hid7, hqd, _, hb7⟩
      have hbel7 := hbel6.trans (hb7.mono hbel6.size)
      have hA7 := hA6.below hb7 hA6.lt
      have hin7 := hin6.on hb7
      have HQD : Hid ((⟨qs ed, (digitP k ⟨qs es, o⟩).o⟩ : Par) = digitP k ⟨qs es, o⟩) := Lib.hid (Par.ext' hqd rfl)
      generalize (digitP k ⟨qs es, o⟩).o = od at *
      have hz7 : Below w7.heap.size w7 (w7.alloc (.cells #[.slice Ad ed.length cd, .bool od] 32)) := (Below.refl _ _).alloc (Nat.le_refl _) _
      have hD8 : Box (w7.alloc (.cells #[.slice Ad ed.length cd, .bool od] 32)) w7.heap.size 32 #[.slice Ad ed.length cd, .bool od] := Box.new _ _ _
      have hbel8 := hbel7.trans (hz7.mono hbel7.size)
      have hA8 := hA7.below hz7 hA7.lt
      have hin8 := hin7.on hz7
      have hid8 := hid7.on hz7
      have x0 := hA8.cell 0
      have x1 := hA8.cell 1
      clear hd6 hb7 hA6 hin6 hbel6 hqd hz7 hA7 hin7 hid7 hbel7
      go_wp2_with fail
      generalize w7.alloc (.cells #[.slice Ad ed.length cd, .bool od] 32) = w8 at *
      generalize w7.heap.size = D at *
      refine (ours_c A es.length c o _).mono ?_
      rintro e w9 ⟨rfl, hb9⟩
      have hbel9 := hbel8.trans (hb9.mono hbel8.size)
      have hA9 := hA8.below hb9 hA8.lt
      have hD9 := hD8.below hb9 hD8.lt
      have hin9 := hin8.on hb9
      have hid9 := hid8.on hb9
      have hn9 := hnext A c es o w9 hin9
      clear x0 x1 hb9 hA8 hD8 hin8 hid8 hbel8
      go_wp2_with fail
      refine hn9.mono ?_
      rintro e w10 ⟨Ax, cx, ex, rfl, hix10, hqx, _, hb10⟩
      have hz10 : Below w10.heap.size w10 (w10.alloc (.cells #[.slice Ax ex.length cx, .bool (nextP ⟨qs es, o⟩).o] 32)) := (Below.refl _ _).alloc (Nat.le_refl _) _
      have hX11 : Box (w10.alloc (.cells #[.slice Ax ex.length cx, .bool (nextP ⟨qs es, o⟩).o] 32)) w10.heap.size 32 #[.slice Ax ex.length cx, .bool (nextP ⟨qs es, o⟩).o] := Box.new _ _ _
      have hb11 := hb10.trans (hz10.mono hb10.size)
      have hbel11 := hbel9.trans (hb11.mono hbel9.size)
      have hA11 := hA9.below hb11 hA9.lt
      have hD11 := hD9.below hb11 hD9.lt
      have hin11 := hin9.on hb11
      have hid11 := hid9.on hb11
      have hix11 := hix10.on hz10
      have HQX : Hid ((⟨qs ex, (nextP ⟨qs es, o⟩).o⟩ : Par) = nextP ⟨qs es, o⟩) := Lib.hid (Par.ext' hqx rfl)
      generalize (nextP ⟨qs es, o⟩).o = ox at *
      have x0 := hA11.cell 0
      have x1 := hA11.cell 1
      clear hn9 hb10 hz10 hb11 hA9 hD9 hin9 hid9 hix10 hbel9 hqx
      go_wp2_with fail
      generalize w10.alloc (.cells #[.slice Ax ex.length cx, .bool ox] 32) = w11 at *
      generalize w10.heap.size = X at *
      refine (ours_c A es.length c o _).mono ?_
      rintro e w12 ⟨rfl, hb12⟩
      have hbel12 := hbel11.trans (hb12.mono hbel11.size)
      have hA12 := hA11.below hb12 hA11.lt
      have hD12 := hD11.below hb12 hD11.lt
      have hX12 := hX11.below hb12 hX11.lt
      have hin12 := hin11.on hb12
      have hid12 := hid11.on hb12
      have hix12 := hix11.on hb12
      have hn12 := hsub A c es o w12 hin12
      clear x0 x1 hb12 hA11 hD11 hX11 hin11 hid11 hix11 hbel11
      go_wp2_with fail
      refine hn12.mono ?_
      rintro e w13 ⟨As, cs, eS, rfl, his13, hqs, _, hb13⟩
      have hz13 : Below w13.heap.size w13 (w13.alloc (.cells #[.slice As eS.length cs, .bool (subP ⟨qs es, o⟩).o] 32)) := (Below.refl _ _).alloc (Nat.le_refl _) _
      have hS14 : Box (w13.alloc (.cells #[.slice As eS.length cs, .bool (subP ⟨qs es, o⟩).o] 32)) w13.heap.size 32 #[.slice As eS.length cs, .bool (subP ⟨qs es, o⟩).o] := Box.new _ _ _
      have hb14 := hb13.trans (hz13.mono hb13.size)
      have hE : Env w (w13.alloc (.cells #[.slice As eS.length cs, .bool (subP ⟨qs es, o⟩).o] 32)) w.heap.size D X w13.heap.size A Ad Ax As c cd cx cs es ed ex eS o od ox (subP ⟨qs es, o⟩).o :=
        ⟨hA12.below hb14 hA12.lt, hD12.below hb14 hD12.lt, hX12.below hb14 hX12.lt, hS14, hin12.on hb14, hid12.on hb14, hix12.on hb14, his13.on hz13, hbel12.trans (hb14.mono hbel12.size)⟩
      have HQS : Hid ((⟨qs eS, (subP ⟨qs es, o⟩).o⟩ : Par) = subP ⟨qs es, o⟩) := Lib.hid (Par.ext' hqs rfl)
      generalize (subP ⟨qs es, o⟩).o = os at *
      clear hn12 hb13 hz13 hb14 hA12 hD12 hX12 hS14 hin12 hid12 hix12 his13 hbel12 hqs
      obtain ⟨p0, p1, q0, q1, r0, r1, s0, s1⟩ := hE.cells
      have hpr14 := HPR.out _ hE.ip (hP.below hE.bel hg)
      go_wp2_with fail
      refine hpr14.mono ?_
      rintro e w15 ⟨rfl, hb15⟩
      have hE15 := hE.on hb15
      have hsd := hsane Ad cd ed od w15 hE15.id
      rw [decide_eq_true (show SaneP ⟨qs ed, od⟩ by rw [HQD.out]; exact digit_sane)] at hsd
      have hsx := fun V (hV : InP V Ax cx ex) => hsane Ax cx ex ox V hV
      rw [decide_eq_true (show SaneP ⟨qs ex, ox⟩ by rw [HQX.out]; exact next_sane)] at hsx
      have hss := fun V (hV : InP V As cs eS) => hsane As cs eS os V hV
      rw [decide_eq_true (show SaneP ⟨qs eS, os⟩ by rw [HQS.out]; exact sub_sane)] at hss
      have HSX := Lib.hid hsx
      have HSS := Lib.hid hss
      have ld : (ed.length : Int) = max (es.length : Int) (min (ed.length : Int) 1) := by
        have h := digit_len HSP.out k
        rw [← HQD.out] at h
        simp only [qs_length] at h
        omega
      have lx : es.length ≤ ex.length ∧ ex.length ≤ 16 := by
        have h := next_len HSP.out
        rw [← HQX.out] at h
        simp only [qs_length] at h
        exact h
      have ls : (eS.length : Int) = max (es.length : Int) 1 := by
        have h := sub_len HSP.out
        rw [← HQS.out] at h
        simp only [qs_length] at h
        omega
      have z1 : ¬ (ed.length : Int) < (es.length : Int) := by omega
      have z2 : ¬ (ex.length : Int) < (es.length : Int) := by omega
      have z3 : ¬ (eS.length : Int) < (es.length : Int) := by omega
      have z1' : decide (ed.length < es.length) = false := decide_eq_false (by omega)
      have z2' : decide (ex.length < es.length) = false := decide_eq_false (by omega)
      have z3' : decide (eS.length < es.length) = false := decide_eq_false (by omega)
      have zn : es.length ≤ 30 := by rw [← qs_length]; exact hsz.few
      have LD := Lib.hid ld
      have LS := Lib.hid ls
      clear hsx hss hb15 hpr14 p0 p1 q0 q1 r0 r1 s0 s1 hE ld ls
      obtain ⟨p0, p1, q0, q1, r0, r1, s0, s1⟩ := hE15.cells
      go_wp2_with fail
      refine hsd.mono ?_
      rintro e w16 ⟨rfl, hb16⟩
      have hE16 := hE15.on hb16
      have hsx16 := HSX.out w16 hE16.ix
      clear hb16 p0 p1 q0 q1 r0 r1 s0 s1 hE15 hsd
      obtain ⟨p0, p1, q0, q1, r0, r1, s0, s1⟩ := hE16.cells
      go_wp2_with fail
      refine hsx16.mono ?_
      rintro e w17 ⟨rfl, hb17⟩
      have hE17 := hE16.on hb17
      have hss17 := HSS.out w17 hE17.is
      clear hb17 p0 p1 q0 q1 r0 r1 s0 s1 hE16 hsx16
      obtain ⟨p0, p1, q0, q1, r0, r1, s0, s1⟩ := hE17.cells
      go_wp2_with fail
      refine hss17.mono ?_
      rintro e w18 ⟨rfl, hb18⟩
      have hE18 := hE17.on hb18
      clear hb18 p0 p1 q0 q1 r0 r1 s0 s1 hE17 hss17
      obtain ⟨p0, p1, q0, q1, r0, r1, s0, s1⟩ := hE18.cells
      generalize w13.heap.size = S at *
      go_wp2_with fail
      clear p0 p1 q0 q1 r0 r1 s0 s1
      go_loopw [11] (fun iv wr => ∃ j : Nat, (j + 1 ≤ es.length ∨ j = 0) ∧ iv = .int .i64 (j : Int) ∧ Env w wr w.heap.size D X S A Ad Ax As c cd cx cs es ed ex eS o od ox os) (fun iv _ => es.length - (intOf iv).toNat)
      case atStart => exact ⟨0, .inr rfl, rfl, hE18⟩
      case round =>
        obtain ⟨j, hj, rfl, hE⟩ := hrel
        obtain ⟨p0, p1, q0, q1, r0, r1, s0, s1⟩ := hE.cells
        by_cases hlt : j + 1 < es.length
        · have zl : (j : Int) < (es.length : Int) - 1 := by omega
          have gp : es[j]? = some es[j] := List.getElem?_eq_getElem (by omega)
          have g1 : ed[j]? = some ed[j] := List.getElem?_eq_getElem (by omega)
          have g2 : ex[j]? = some ex[j] := List.getElem?_eq_getElem (by omega)
          have g3 : eS[j]? = some eS[j] := List.getElem?_eq_getElem (by omega)
          generalize es[j] = ep at gp
          generalize ed[j] = e1 at g1
          generalize ex[j] = e2 at g2
          generalize eS[j] = e3 at g3
          have hj2 : j + 1 < (⟨qs es, o⟩ : Par).l.length := by show j + 1 < (qs es).length; rw [qs_length]; exact hlt
          have h1 : ep.q = e1.q := by
            have h := digit_at HSP.out k hj2
            rw [← HQD.out] at h
            have h5 := (qs_at g1).symm.trans (h.trans (qs_at gp))
            injection h5 with h5
            exact h5.symm
          have h2 : ep.q = e2.q := by
            have h := next_at HSP.out hj2
            rw [← HQX.out] at h
            have h5 := (qs_at g2).symm.trans (h.trans (qs_at gp))
            injection h5 with h5
            exact h5.symm
          have h3 : ep.q = e3.q := by
            have h := sub_at HSP.out hj2
            rw [← HQS.out] at h
            have h5 := (qs_at g3).symm.trans (h.trans (qs_at gp))
            injection h5 with h5
            exact h5.symm
          have t1 : decide (qs [ep] = qs [e1]) = true := decide_eq_true (by simp [qs, h1])
          have t2 : decide (qs [ep] = qs [e2]) = true := decide_eq_true (by simp [qs, h2])
          have t3 : decide (qs [ep] = qs [e3]) = true := decide_eq_true (by simp [qs, h3])
          have zj1 : (j : Int) < (ed.length : Int) := by omega
          have zj2 : (j : Int) < (ex.length : Int) := by omega
          have zj3 : (j : Int) < (eS.length : Int) := by omega
          have zj0 : (j : Int) < (es.length : Int) := by omega
          have G1 := Lib.hid g1
          have G2 := Lib.hid g2
          have G3 := Lib.hid g3
          have T1 := Lib.hid t1
          have T2 := Lib.hid t2
          have T3 := Lib.hid t3
          obtain ⟨bp, op, rfl, _, dp, okp⟩ := hE.ip.nest.at_ gp
          clear g1 g2 g3 gp h1 h2 h3 t1 t2 t3 hj2
          have inA := single_in wr ep okp
          have hzA : Below wr.heap.size wr (wr.alloc (.cells #[.slice ep.A ep.q.length ep.c] 29)) := (Below.refl _ _).alloc (Nat.le_refl _) _
          have hEA := hE.on hzA
          go_upto_region 15 with fail
          clear p0 p1 q0 q1 r0 r1 s0 s1 dp hzA hE okp
          generalize wr.alloc (.cells #[.slice ep.A ep.q.length ep.c] 29) = wA at *
          generalize wr.heap.size = gA at *
          have x0 := hEA.bd.cell 0
          obtain ⟨b1, o1, rfl, _, d1, ok1⟩ := hEA.id.nest.at_ G1.out
          have inB := single_in wA e1 ok1
          have hzB : Below wA.heap.size wA (wA.alloc (.cells #[.slice e1.A e1.q.length e1.c] 29)) := (Below.refl _ _).alloc (Nat.le_refl _) _
          have inA1 := inA.on hzB
          have hsm := same_c _ _ _ _ 1 1 _ inA1.nest inB.nest (show 1 ≤ maxLen by decide) (show 1 ≤ maxLen by decide)
          rw [T1.out] at hsm
          simp only [List.length_cons, List.length_nil, Nat.zero_add] at hsm
          have hEB := hEA.on hzB
          go_wp2_with fail
          refine hsm.mono ?_
          rintro e wC ⟨rfl, hbC⟩
          have hEC := hEB.on hbC
          have inC := inA1.on hbC
          clear x0 d1 ok1 inB hzB inA1 hsm hEB hbC hEA inA
          have x0 := hEC.bx.cell 0
          obtain ⟨b2, o2, rfl, _, d2, ok2⟩ := hEC.ix.nest.at_ G2.out
          have inB := single_in wC e2 ok2
          have hzB : Below wC.heap.size wC (wC.alloc (.cells #[.slice e2.A e2.q.length e2.c] 29)) := (Below.refl _ _).alloc (Nat.le_refl _) _
          have inA1 := inC.on hzB
          have hsm := same_c _ _ _ _ 1 1 _ inA1.nest inB.nest (show 1 ≤ maxLen by decide) (show 1 ≤ maxLen by decide)
          rw [T2.out] at hsm
          simp only [List.length_cons, List.length_nil, Nat.zero_add] at hsm
          have hEB := hEC.on hzB
          go_wp2_with fail
          refine hsm.mono ?_
          rintro e wE ⟨rfl, hbE⟩
          have hEE := hEB.on hbE
          have inE := inA1.on hbE
          clear x0 d2 ok2 inB hzB inA1 hsm hEB hbE hEC inC
          have x0 := hEE.bs.cell 0
          obtain ⟨b3, o3, rfl, _, d3, ok3⟩ := hEE.is.nest.at_ G3.out
          have inB := single_in wE e3 ok3
          have hzB : Below wE.heap.size wE (wE.alloc (.cells #[.slice e3.A e3.q.length e3.c] 29)) := (Below.refl _ _).alloc (Nat.le_refl _) _
          have inA1 := inE.on hzB
          have hsm := same_c _ _ _ _ 1 1 _ inA1.nest inB.nest (show 1 ≤ maxLen by decide) (show 1 ≤ maxLen by decide)
          rw [T3.out] at hsm
          simp only [List.length_cons, List.length_nil, Nat.zero_add] at hsm
          have hEB := hEE.on hzB
          go_wp2_with fail
          refine hsm.mono ?_
          rintro e wG ⟨rfl, hbG⟩
          have hEG := hEB.on hbG
          clear x0 d3 ok3 inB hzB inA1 hsm hEB hbG hEE inE
          go_wp2_with fail
          exact ⟨⟨j + 1, by omega, by go_num, hEG⟩, by simp [intOf]; omega⟩
        · have zl : ¬ (j : Int) < (es.length : Int) - 1 := by omega
          have y1 : (ex.length : Int) ≤ 16 := by omega
          have y2 : ((ed.length : Int) == max (es.length : Int) (min (ed.length : Int) 1)) = true := by rw [beq_iff_eq]; exact LD.out
          have y3 : ((eS.length : Int) == max (es.length : Int) 1) = true := by rw [beq_iff_eq]; exact LS.out
          have hbel := hE.bel
          clear lx
          go_wp2_with fail
          go_ret
          exact ⟨by simp, hbel⟩
    · rw [decide_eq_false hsp] at hsn
      clear hsp
      go_wp2_with fail
      refine hsn.mono ?_
      rintro e w4 ⟨rfl, hb4⟩
      have hbel4 := hbel3.trans (hb4.mono hbel3.size)
      clear hsn
      go_wp2_with fail
      go_ret
      exact ⟨rfl, hbel4⟩
end Go.Proofs.YtaaojffikpfllaaDoor
