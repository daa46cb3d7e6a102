/- Package parse: may a state be? Package parse: Sane, as the document says it. -/
import Derived.Test.YtiaippdaogmcmaaDoorPar6a
import Derived.Test.YtiaippdaogmcmaaDoorP5Sane
import Derived.Test.YtiaippdaogmcmaaDoorP5Parse
namespace Go.Proofs.YtiaippdaogmcmaaDoor
open Go Go.RowKit
set_option linter.unusedVariables false
set_option linter.unusedSimpArgs false

/-- May it stand there? -/
def okB (k c : Nat) : Bool := midB c || (k == 0 && signB c)
theorem inter_iff (l : List Nat) : interB l = true ↔ ∀ (k c : Nat), l[k]? = some c → okB k c = true := by
  cases l with
  | nil => simp [interB]
  | cons c l =>
    simp only [interB, Bool.and_eq_true, Bool.or_eq_true, List.all_eq_true]
    constructor
    · rintro ⟨h1, h2⟩ k x hx
      cases k with
      | zero =>
        simp at hx; subst hx
        unfold okB
        rcases h1 with h | h <;> simp [h]
      | succ k =>
        simp at hx
        unfold okB
        rw [h2 x (List.mem_of_getElem? hx)]
        rfl
    · intro h
      refine ⟨?_, fun x hx => ?_⟩
      · have := h 0 c rfl
        unfold okB at this
        simpa using this
      · obtain ⟨k, hk⟩ := List.mem_iff_getElem?.1 hx
        have := h (k + 1) x (by simpa using hk)
        unfold okB at this
        simpa using this
theorem inter_no {l : List Nat} {k c : Nat} (h : l[k]? = some c) (ho : okB k c = false) : interB l = false := by
  cases hi : interB l with
  | false => rfl
  | true => have := (inter_iff l).1 hi k c h; rw [ho] at this; cases this
set_option maxRecDepth 100000 in
set_option maxHeartbeats 1000000 in
theorem mayBeInter_c (l : List Nat) (hl : l.length ≤ 1000000) (hb : ∀ c ∈ l, c < 256) (w : World) :
    Calls Tryd.prog 22 #[.string (strS l)] w fun e w' => e = .returned (.bool (interB l && decide (l.length ≤ 2))) ∧ w' = w := by
  have hs : (strS l).size = l.length := strS_size l
  have HL := Lib.hid hl
  generalize hR : (interB l && decide (l.length ≤ 2)) = R
  have HR := Lib.hid hR
  clear hR
  go_enter Tryd.func22, Tryd.ntmps22
  go_wp2_with fail
  go_loopw [6] (fun u6 wr => ∃ k : Nat, k ≤ l.length ∧ u6 = .int .i64 (k : Int) ∧ wr = w ∧ Hid (∀ (j c : Nat), j < k → l[j]? = some c → okB j c = true)) (fun u6 _ => l.length - (intOf u6).toNat)
  case atStart => exact ⟨0, Nat.zero_le _, rfl, rfl, Lib.hid (by omega)⟩
  case round =>
    obtain ⟨k, hk, rfl, rfl, HA⟩ := hrel
    by_cases hlt : k < l.length
    · obtain ⟨x, hx⟩ : ∃ x, l[k]? = some x := ⟨_, List.getElem?_eq_getElem hlt⟩
      have hx2 := hb x (List.mem_of_getElem? hx)
      have hix := idx_at hx hx2
      have hin := isInter_c x hx2 wr
      have z1 : (k : Int) < (l.length : Int) := by omega
      have hstep : okB k x = true → Hid (∀ (j c : Nat), j < k + 1 → l[j]? = some c → okB j c = true) := fun ho => Lib.hid (by
        intro j c hj hc
        by_cases hjk : j = k
        · subst hjk; rw [hx] at hc; injection hc with hc; subst hc; exact ho
        · exact HA.out j c (by omega) hc)
      have hbad : okB k x = false → R = false := fun ho => by rw [← HR.out, inter_no hx ho]; rfl
      have HS := Lib.hid (And.intro hstep hbad)
      clear hstep hbad hx hs
      cases hm : midB x with
      | true =>
        rw [hm] at hin
        have HO := Lib.hid (HS.out.1 (by unfold okB; rw [hm]; rfl))
        clear hm HS
        go_wp2_with fail
        refine hin.mono ?_
        rintro e w1 ⟨rfl, rfl⟩
        clear hin
        go_wp2_with fail
        exact ⟨⟨k + 1, by omega, by simp, by first | trivial | rfl, HO.out⟩, by simp [intOf]; omega⟩
      | false =>
        rw [hm] at hin
        by_cases h0 : k = 0
        · subst h0
          have hix0 : ∀ V, (Instr.index 9 (.string (strS l)) (.int .i64 0)).run Tryd.prog V = .ok (.int .u8 (x : Int)) V := fun V => hix V
          have hpr := isPrivate_c x hx2 wr
          cases hg : signB x with
          | true =>
            rw [hg] at hpr
            have HO := Lib.hid (HS.out.1 (by unfold okB; rw [hm, hg]; rfl))
            clear hm hg HS
            go_wp2_with fail
            refine hin.mono ?_
            rintro e w1 ⟨rfl, rfl⟩
            clear hin
            go_wp2_with fail
            refine hpr.mono ?_
            rintro e w1 ⟨rfl, rfl⟩
            clear hpr
            go_wp2_with fail
            exact ⟨⟨1, by omega, by simp, by first | trivial | rfl, HO.out⟩, by simp [intOf]; omega⟩
          | false =>
            rw [hg] at hpr
            have HO := Lib.hid (HS.out.2 (by unfold okB; rw [hm, hg]; rfl))
            clear hm hg HS
            go_wp2_with fail
            refine hin.mono ?_
            rintro e w1 ⟨rfl, rfl⟩
            clear hin
            go_wp2_with fail
            refine hpr.mono ?_
            rintro e w1 ⟨rfl, rfl⟩
            clear hpr
            go_wp2_with fail
            go_ret
            exact ⟨ret_bool HO.out.symm, rfl⟩
        · have hkk : (k == 0) = false := beq_eq_false_iff_ne.2 h0
          have HO := Lib.hid (HS.out.2 (by unfold okB; rw [hm, hkk]; rfl))
          have z2 : (k : Int) > 0 := by omega
          clear hm HS hkk
          go_wp2_with fail
          refine hin.mono ?_
          rintro e w1 ⟨rfl, rfl⟩
          clear hin
          go_wp2_with fail
          go_ret
          exact ⟨ret_bool HO.out.symm, rfl⟩
    · have hi : interB l = true := (inter_iff l).2 fun j c hc => HA.out j c (by have := (List.getElem?_eq_some_iff.1 hc).1; omega) hc
      have hR : R = decide (l.length ≤ 2) := by rw [← HR.out, hi]; rfl
      have HRR := Lib.hid hR
      clear HA hi hR
      by_cases h2 : l.length ≤ 2
      · have z2 : (l.length : Int) ≤ 2 := by omega
        go_wp2_with fail
        go_ret
        exact ⟨ret_bool (HRR.out.trans (decide_eq_true h2)).symm, rfl⟩
      · have z2 : ¬ (l.length : Int) ≤ 2 := by omega
        go_wp2_with fail
        go_ret
        exact ⟨ret_bool (HRR.out.trans (decide_eq_false h2)).symm, rfl⟩
end Go.Proofs.YtiaippdaogmcmaaDoor

namespace Go.Proofs.YtiaippdaogmcmaaDoor
open Go Go.RowKit
set_option linter.unusedVariables false
set_option linter.unusedSimpArgs false

theorem str_empty (l : List Nat) : (strS l).toList.isEmpty = l.isEmpty := by
  rw [ByteArray.toList_eq]
  cases l <;> rfl
set_option maxRecDepth 100000 in
set_option maxHeartbeats 2000000 in
theorem sane6_c : Sane6C := by
  intro s A c es w hS hB hZ
  have hbx : Box (w.alloc (.cells #[.int .i64 s.at_, .string (strS s.inter), .bool s.over, .slice A es.length c, .bool s.par.o, .string (strS s.text), .int .u8 (s.kind : Int)] 28)) w.heap.size 28 (stCells s A es.length c) := Box.new w _ _
  have hbel : Below w.heap.size w (w.alloc (.cells #[.int .i64 s.at_, .string (strS s.inter), .bool s.over, .slice A es.length c, .bool s.par.o, .string (strS s.text), .int .u8 (s.kind : Int)] 28)) := (Below.refl _ _).alloc (Nat.le_refl _) _
  generalize hR : decide (SaneS s) = R
  have hno : ¬ SaneS s → R = false := fun h => by rw [← hR]; exact decide_eq_false h
  have hyes : SaneS s → R = true := fun h => by rw [← hR]; exact decide_eq_true h
  clear hR
  have HR := Lib.hid (And.intro hno hyes)
  clear hno hyes
  have hs1 : (strS s.inter).size = s.inter.length := strS_size _
  have hs2 : (strS s.text).size = s.text.length := strS_size _
  simp only [stV_eq]
  by_cases h0 : s.at_ < 0
  · have HN := Lib.hid (HR.out.1 fun h => by have := h.lo; omega)
    clear HR
    have HBL := Lib.hid hbel
    clear hbel hbx hs1 hs2
    go_enter Tryd.func13, Tryd.ntmps13
    go_wp2_with fail
    go_ret
    exact ⟨ret_bool HN.out.symm, HBL.out⟩
  by_cases h9 : s.at_ > 9
  · have HN := Lib.hid (HR.out.1 fun h => by have := h.hi; omega)
    clear HR
    have HBL := Lib.hid hbel
    clear hbel hbx hs1 hs2
    go_enter Tryd.func13, Tryd.ntmps13
    go_wp2_with fail
    go_ret
    exact ⟨ret_bool HN.out.symm, HBL.out⟩
  have hmi := mayBeInter_c s.inter hZ.1 hB.inter (w.alloc (.cells #[.int .i64 s.at_, .string (strS s.inter), .bool s.over, .slice A es.length c, .bool s.par.o, .string (strS s.text), .int .u8 (s.kind : Int)] 28))
  cases hI : (interB s.inter && decide (s.inter.length ≤ 2)) with
  | false =>
    have HN := Lib.hid (HR.out.1 fun h => by rw [h.mid, decide_eq_true h.short] at hI; cases hI)
    rw [hI] at hmi
    have HBL := Lib.hid hbel
    clear hbel hbx hs1 hs2 hI HR
    go_enter Tryd.func13, Tryd.ntmps13
    go_wp2_with fail
    refine hmi.mono ?_
    rintro e w1 ⟨rfl, rfl⟩
    clear hmi
    go_wp2_with fail
    go_ret
    exact ⟨ret_bool HN.out.symm, HBL.out⟩
  | true =>
    rw [hI] at hmi
    have hI2 : interB s.inter = true ∧ s.inter.length ≤ 2 := by simpa using hI
    have HI2 := Lib.hid hI2
    clear hI hI2
    have hps := sane_c A c es s.par.o _ (hS.inp.on hbel)
    have hpe : (⟨qs es, s.par.o⟩ : Par) = s.par := Par.ext' hS.reads rfl
    rw [hpe] at hps
    by_cases hp : SaneP s.par
    · rw [decide_eq_true hp] at hps
      have HP := Lib.hid hp
      clear hp hpe
      have HBX := Lib.hid (And.intro hbx hbel)
      have HS := Lib.hid hS
      have HBY := Lib.hid hB
      clear hbx hbel hS hB
      go_enter Tryd.func13, Tryd.ntmps13
      go_wp2_with fail
      refine hmi.mono ?_
      rintro e w1 ⟨rfl, rfl⟩
      clear hmi
      go_wp2_with fail
      refine hps.mono ?_
      rintro e w2 ⟨rfl, hb2⟩
      have hbx2 := HBX.out.1.below hb2 HBX.out.1.lt
      have hbel2 := HBX.out.2.trans (hb2.mono HBX.out.2.size)
      obtain ⟨c0, c1, c2, c3, c4, c5, c6⟩ := hbx2.st'
      have HBL := Lib.hid hbel2
      clear hps hb2 hbx2 hbel2 HBX
      by_cases h5 : s.text.length ≤ 1024
      · have z5 : ¬ (s.text.length : Int) > 1024 := by omega
        by_cases ha0 : s.at_ = 0
        · have e0 : (s.at_ == 0) = true := beq_iff_eq.2 ha0
          have hG : groundB s = R := by
            cases hg : groundB s with
            | true => exact (HR.out.2 ⟨by omega, by omega, fun h => absurd h (by omega), HI2.out.2, h5, HP.out, HI2.out.1, fun _ => hg⟩).symm
            | false => exact (HR.out.1 fun h => by have := h.ground ha0; rw [hg] at this; cases this).symm
          clear HR h0 h9 h5
          unfold groundB at hG
          have hlen : s.par.l.isEmpty = decide (es.length = 0) := by
            have := congrArg List.length HS.out.reads
            rw [qs_length] at this
            cases hl : s.par.l with
            | nil => rw [hl] at this; simp at this; simp [this]
            | cons x l => rw [hl] at this; simp at this; rw [this]; simp
          rw [hlen] at hG
          clear hlen hs1
          have hi := str_empty s.inter
          have ht := str_empty s.text
          cases h1 : s.inter.isEmpty with
          | false =>
            rw [h1] at hi hG
            have HG := Lib.hid hG
            clear h1 ht hG
            go_wp2_with fail
            go_ret
            exact ⟨ret_bool HG.out, HBL.out⟩
          | true =>
            rw [h1] at hi hG
            clear h1
            cases h2 : s.over with
            | true =>
              rw [h2] at hG c2
              have HG := Lib.hid hG
              clear hG ht h2
              go_wp2_with fail
              go_ret
              exact ⟨ret_bool HG.out, HBL.out⟩
            | false =>
              rw [h2] at hG c2
              clear h2
              by_cases h3 : es.length = 0
              · have e4 : ((es.length : Int) == 0) = true := beq_iff_eq.2 (by omega)
                rw [decide_eq_true h3] at hG
                clear h3
                cases h4 : s.text.isEmpty with
                | false =>
                  rw [h4] at ht hG
                  have HG := Lib.hid hG
                  clear h4 hG
                  go_wp2_with fail
                  go_ret
                  exact ⟨ret_bool HG.out, HBL.out⟩
                | true =>
                  rw [h4] at ht hG
                  have HG := Lib.hid hG
                  clear h4 hG
                  go_wp2_with fail
                  go_ret
                  exact ⟨ret_bool (Eq.trans (by simp; rw [Bool.eq_iff_iff]; simp) HG.out), HBL.out⟩
              · have e4 : ((es.length : Int) == 0) = false := beq_eq_false_iff_ne.2 (by omega)
                rw [decide_eq_false h3] at hG
                have HG := Lib.hid hG
                clear hG ht h3
                go_wp2_with fail
                go_ret
                exact ⟨ret_bool HG.out, HBL.out⟩
        · have e0 : (s.at_ == 0) = false := beq_eq_false_iff_ne.2 ha0
          by_cases ha3 : s.at_ = 3
          · have e3 : (s.at_ == 3) = true := beq_iff_eq.2 ha3
            by_cases hi0 : s.inter = []
            · have HN := Lib.hid (HR.out.2 ⟨by omega, by omega, fun _ => hi0, HI2.out.2, h5, HP.out, HI2.out.1, fun h => absurd h ha0⟩)
              have e1 : strS s.inter = (⟨#[]⟩ : ByteArray) := by rw [hi0]; rfl
              clear HR h0 h9 h5 hs1 hi0
              go_wp2_with fail
              go_ret
              exact ⟨ret_bool HN.out.symm, HBL.out⟩
            · have HN := Lib.hid (HR.out.1 fun h => hi0 (h.entry ha3))
              clear HR h0 h9 h5 hs1
              go_wp2_with fail
              go_ret
              exact ⟨ret_bool (Eq.trans (by rw [str_empty]; simpa using hi0) HN.out.symm), HBL.out⟩
          · have e3 : (s.at_ == 3) = false := beq_eq_false_iff_ne.2 ha3
            have HN := Lib.hid (HR.out.2 ⟨by omega, by omega, fun h => absurd h ha3, HI2.out.2, h5, HP.out, HI2.out.1, fun h => absurd h ha0⟩)
            clear HR h0 h9 h5
            go_wp2_with fail
            go_ret
            exact ⟨ret_bool HN.out.symm, HBL.out⟩
      · have z5 : (s.text.length : Int) > 1024 := by omega
        have HN := Lib.hid (HR.out.1 fun h => h5 h.fits)
        clear HR h5
        go_wp2_with fail
        go_ret
        exact ⟨ret_bool HN.out.symm, HBL.out⟩
    · rw [decide_eq_false hp] at hps
      have HN := Lib.hid (HR.out.1 fun h => hp h.par)
      have HBL := Lib.hid hbel
      clear hbel hbx hs1 hs2 HR hp hpe
      go_enter Tryd.func13, Tryd.ntmps13
      go_wp2_with fail
      refine hmi.mono ?_
      rintro e w1 ⟨rfl, rfl⟩
      clear hmi
      go_wp2_with fail
      refine hps.mono ?_
      rintro e w2 ⟨rfl, hb2⟩
      have hbel2 := HBL.out.trans (hb2.mono HBL.out.size)
      clear hps hb2 HBL
      go_wp2_with fail
      go_ret
      exact ⟨ret_bool HN.out.symm, hbel2⟩
end Go.Proofs.YtiaippdaogmcmaaDoor
