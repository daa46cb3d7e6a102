/- Shape and Ligature, by their contracts. -/
import Derived.Test.YthlkpcfpapiigaaDoorTells
namespace Go.Proofs.YthlkpcfpapiigaaDoor
open Go Go.RowKit
set_option linter.unusedVariables false
set_option linter.unusedSimpArgs false

theorem step_c (n which : Int) (w : World) : Calls Tryd.prog 22 #[.int .i64 n, .int .i64 which] w fun e w' => e = .returned (.int .i64 (stepF n which)) ∧ w' = w := by
  by_cases h4 : n = 4
  · subst h4
    have hv : which = stepF 4 which := by simp [stepF]
    have HV := Lib.hid hv
    clear hv
    go_enter Tryd.func22, Tryd.ntmps22
    go_wp2
    go_ret
    exact ⟨ret_int HV.out, rfl⟩
  · by_cases h2 : n = 2
    · subst h2
      by_cases h1 : which = 1
      · subst h1
        go_enter Tryd.func22, Tryd.ntmps22
        go_wp2
        go_ret
        exact ⟨rfl, rfl⟩
      · by_cases h3 : which = 3
        · subst h3
          go_enter Tryd.func22, Tryd.ntmps22
          go_wp2
          go_ret
          exact ⟨rfl, rfl⟩
        · have hv : stepF 2 which = 0 := by simp [stepF, h1, h3]
          have k1 : (which == 1) = false := beq_eq_false_iff_ne.2 h1
          have k3 : (which == 3) = false := beq_eq_false_iff_ne.2 h3
          rw [hv]
          clear hv
          go_enter Tryd.func22, Tryd.ntmps22
          go_wp2
          go_ret
          exact ⟨rfl, rfl⟩
    · have hv : stepF n which = 0 := by simp [stepF, h4, h2]
      have k1 : (n == 4) = false := beq_eq_false_iff_ne.2 h4
      have k3 : (n == 2) = false := beq_eq_false_iff_ne.2 h2
      rw [hv]
      clear hv
      go_enter Tryd.func22, Tryd.ntmps22
      go_wp2
      go_ret
      exact ⟨rfl, rfl⟩
theorem stepF_bd {n which : Int} (h0 : 0 ≤ which) (h1 : which ≤ 3) : 0 ≤ stepF n which ∧ stepF n which ≤ 3 := by
  unfold stepF
  split
  · exact ⟨h0, h1⟩
  · split <;> omega
theorem form_bd : ∀ x ∈ formRows, 0 ≤ x.hi ∧ x.hi ≤ 70000 := by
  have h : (formRows.all fun x => decide (0 ≤ x.hi ∧ x.hi ≤ 70000)) = true := by kernel_rfl
  simpa using h
theorem shapeL_drop {l : List R3} {k : Nat} {x : R3} (hx : l[k]? = some x) (r which : Int) : shapeL (l.drop k) r which = if x.lo = r then x.hi + stepF x.v which else shapeL (l.drop (k + 1)) r which := by
  rw [drop_cons hx]; rfl

section
variable {A1 A2 A3 A4 A5 A6 : Option Addr} {c1 c2 c3 c4 c5 c6 : Nat}
set_option maxRecDepth 100000 in
set_option maxHeartbeats 2000000 in
theorem shape_c (r which : Int) (w : World) (h : DataAt w A1 A2 A3 A4 A5 A6) :
    Calls Tryd.prog 12 #[dataV A1 A2 A3 A4 A5 A6 c1 c2 c3 c4 c5 c6, .int .i64 r, .int .i64 which] w fun e w' => e = .returned (.int .i64 (shapeF r which)) ∧ Below w.heap.size w w' := by
  have hT := h.t6
  have hn : formRows.length ≤ 1000 := by rw [form_len]; decide
  have hbd := form_bd
  have hS : shapeF r which = if 0 ≤ which ∧ which ≤ 3 then shapeL formRows r which else r := rfl
  unfold dataV
  generalize classRows.length = n1 at *
  generalize wideRows.length = n2 at *
  generalize joinRows.length = n3 at *
  generalize mirrorRows.length = n4 at *
  generalize bracketRows.length = n5 at *
  have HS := Lib.hid hS
  have HL : w.heap.size ≤ w.heap.size := Nat.le_refl _
  clear h hS
  generalize formRows = l at *
  generalize shapeF r which = res at *
  by_cases h0 : which < 0
  · have HV : Hid (r = res) := Lib.hid (by rw [HS.out, if_neg (by omega)])
    have k0 : decide (which < 0) = true := by simpa using h0
    go_enter Tryd.func12, Tryd.ntmps12
    go_wp2_with fail
    go_ret
    exact ⟨ret_int HV.out, (Below.refl _ _).alloc HL _⟩
  · by_cases h3 : 3 < which
    · have HV : Hid (r = res) := Lib.hid (by rw [HS.out, if_neg (by omega)])
      go_enter Tryd.func12, Tryd.ntmps12
      go_wp2_with fail
      go_ret
      exact ⟨ret_int HV.out, (Below.refl _ _).alloc HL _⟩
    · have HV : Hid (res = shapeL l r which) := Lib.hid (by rw [HS.out, if_pos (by omega)])
      have hw0 : 0 ≤ which := by omega
      have hw3 : which ≤ 3 := by omega
      clear HS
      go_enter Tryd.func12, Tryd.ntmps12
      go_wp2_with fail
      go_loopw [19] (fun i wr => ∃ k : Nat, k ≤ l.length ∧ i = .int .i64 k ∧ Hid (res = shapeL (l.drop k) r which) ∧ Below w.heap.size w wr) (fun i _ => l.length - (intOf i).toNat)
      case atStart => exact ⟨0, Nat.zero_le _, rfl, HV, (Below.refl _ _).alloc HL _⟩
      case round =>
        obtain ⟨k, hk, rfl, HF, hbel⟩ := hrel
        by_cases hlt : k < l.length
        · have hg : l[k]? = some l[k] := List.getElem?_eq_getElem hlt
          have hd := shapeL_drop hg r which
          have hxb := hbd l[k] (List.getElem_mem _)
          generalize l[k] = x at *
          obtain ⟨b, o, rfl, hb, h0'⟩ := hT.at_ hg
          obtain ⟨h1, h2, h3'⟩ := h0'.below hbel hb
          have HD := Lib.hid hd
          clear hg h0' hT hd hbd
          by_cases ha : x.lo = r
          · have hsb := stepF_bd (n := x.v) hw0 hw3
            have HR : Hid (x.hi + stepF x.v which = res) := Lib.hid (by rw [HF.out, HD.out, if_pos ha])
            have cs := fun W => step_c x.v which W
            clear HD HF
            subst ha
            generalize stepF x.v which = sv at *
            have hwr : IntKind.i64.wrap (x.hi + sv) = x.hi + sv := by rw [IntKind.wrap_i64]; omega
            have HW := Lib.hid hwr
            have HC := Lib.hid cs
            clear hwr cs
            go_wp2_with fail
            have hwr := HW.out
            go_quiet ((go_at_call 22; exact Calls.quiet_of_same (HC.out _)))
            clear hwr
            go_wp2
            go_ret
            exact ⟨ret_int HR.out, below_drewN (hbel.alloc hbel.size _) _⟩
          · have HR : Hid (res = shapeL (l.drop (k + 1)) r which) := Lib.hid (by rw [HF.out, HD.out, if_neg ha])
            have k1 : (x.lo == r) = false := beq_eq_false_iff_ne.2 ha
            clear HD HF ha
            go_wp2_with fail
            exact ⟨⟨k + 1, by omega, by go_num, HR, hbel.alloc hbel.size _⟩, by simp [intOf]; omega⟩
        · have hkl : k = l.length := by omega
          have HR : Hid (r = res) := Lib.hid (by rw [HF.out, hkl, List.drop_length]; rfl)
          clear HF hbd
          go_wp2_with fail
          go_ret
          exact ⟨ret_int HR.out, hbel⟩
end

def ligF (lam alef : Int) (fin : Bool) : Int × Bool :=
  if lam = 1604 then
    (if alef = 1570 then (if fin then (65270, true) else (65269, true))
     else if alef = 1571 then (if fin then (65272, true) else (65271, true))
     else if alef = 1573 then (if fin then (65274, true) else (65273, true))
     else if alef = 1575 then (if fin then (65276, true) else (65275, true))
     else (0, false))
  else (0, false)
theorem ligature_c (lam alef : Int) (fin : Bool) (w : World) : Calls Tryd.prog 17 #[.int .i64 lam, .int .i64 alef, .bool fin] w fun e w' => e = .returned (.tuple #[.int .i64 (ligF lam alef fin).1, .bool (ligF lam alef fin).2]) ∧ w' = w := by
  by_cases h0 : lam = 1604
  · subst h0
    by_cases h1 : alef = 1570
    · subst h1
      cases fin <;> (go_enter Tryd.func17, Tryd.ntmps17; go_wp2; go_ret2; exact ⟨rfl, rfl⟩)
    · by_cases h2 : alef = 1571
      · subst h2
        cases fin <;> (go_enter Tryd.func17, Tryd.ntmps17; go_wp2; go_ret2; exact ⟨rfl, rfl⟩)
      · by_cases h3 : alef = 1573
        · subst h3
          cases fin <;> (go_enter Tryd.func17, Tryd.ntmps17; go_wp2; go_ret2; exact ⟨rfl, rfl⟩)
        · by_cases h4 : alef = 1575
          · subst h4
            cases fin <;> (go_enter Tryd.func17, Tryd.ntmps17; go_wp2; go_ret2; exact ⟨rfl, rfl⟩)
          · have hv : ligF 1604 alef fin = (0, false) := by simp [ligF, h1, h2, h3, h4]
            have k1 : (alef == 1570) = false := beq_eq_false_iff_ne.2 h1
            have k2 : (alef == 1571) = false := beq_eq_false_iff_ne.2 h2
            have k3 : (alef == 1573) = false := beq_eq_false_iff_ne.2 h3
            have k4 : (alef == 1575) = false := beq_eq_false_iff_ne.2 h4
            rw [hv]
            clear hv h1 h2 h3 h4
            go_enter Tryd.func17, Tryd.ntmps17
            go_wp2
            go_ret2
            exact ⟨rfl, rfl⟩
  · have hv : ligF lam alef fin = (0, false) := by simp [ligF, h0]
    have k1 : (lam == 1604) = false := beq_eq_false_iff_ne.2 h0
    have k2 : (lam != 1604) = true := by simpa using h0
    rw [hv]
    clear hv h0
    go_enter Tryd.func17, Tryd.ntmps17
    go_wp2
    go_ret2
    exact ⟨rfl, rfl⟩
end Go.Proofs.YthlkpcfpapiigaaDoor
