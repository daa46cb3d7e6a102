/- Class, Width, Join, Mirror, Bracket, Shape, Ligature, by their contracts, of the document's tables. -/
import Derived.Test.YthlkpcfpapiigaaDoorLoadLaw
namespace Go.Proofs.YthlkpcfpapiigaaDoor
open Go Go.RowKit
set_option linter.unusedVariables false
set_option linter.unusedSimpArgs false

def classF (r : Int) : Int := if 0 < getF classRows r then getF classRows r else 1
def widthF (r : Int) : Int := if 0 < getF wideRows r then getF wideRows r - 1 else 1
def joinV (r : Int) : Int := getF joinRows r
def findF : List P2 → Int → Int × Int
  | [], _ => (0, 0)
  | p :: l, r => if r = p.a then (p.b, 1) else if r = p.b then (p.a, 2) else findF l r
def mirrorF (r : Int) : Int := if 0 < (findF mirrorRows r).2 then (findF mirrorRows r).1 else r
def stepF (n which : Int) : Int := if n = 4 then which else if n = 2 ∧ (which = 1 ∨ which = 3) then 1 else 0
def shapeL : List R3 → Int → Int → Int
  | [], r, _ => r
  | f :: l, r, which => if f.lo = r then f.hi + stepF f.v which else shapeL l r which
def shapeF (r which : Int) : Int := if 0 ≤ which ∧ which ≤ 3 then shapeL formRows r which else r

section
variable {A1 A2 A3 A4 A5 A6 : Option Addr} {c1 c2 c3 c4 c5 c6 : Nat}

theorem getF_bd_class (r : Int) : 0 ≤ getF classRows r ∧ getF classRows r ≤ 255 := by
  rcases getF_cases classRows r with ⟨k, x, hx, _, e⟩ | ⟨_, e⟩
  · rw [e]; have := rise_ok class_rise hx; omega
  · rw [e]; omega
theorem getF_bd_wide (r : Int) : 0 ≤ getF wideRows r ∧ getF wideRows r ≤ 255 := by
  rcases getF_cases wideRows r with ⟨k, x, hx, _, e⟩ | ⟨_, e⟩
  · rw [e]; have := rise_ok wide_rise hx; omega
  · rw [e]; omega

set_option maxRecDepth 100000 in
set_option maxHeartbeats 1000000 in
theorem class_c (r : Int) (w : World) (h : DataAt w A1 A2 A3 A4 A5 A6) :
    Calls Tryd.prog 14 #[dataV A1 A2 A3 A4 A5 A6 c1 c2 c3 c4 c5 c6, .int .i64 r] w fun e w' => e = .returned (.int .i64 (classF r)) ∧ Below w.heap.size w w' := by
  have hcl : classF r = if 0 < getF classRows r then getF classRows r else 1 := rfl
  have hg : ∀ W, Below w.heap.size w W → Calls Tryd.prog 23 #[.agg #[.slice A1 classRows.length c1], .int .i64 r] W _ := fun W hb => get_c A1 classRows c1 r W (by rw [class_len]; decide) (h.t1.later hb)
  have hbd := getF_bd_class r
  unfold dataV
  generalize classRows.length = n1 at *
  generalize wideRows.length = n2 at *
  generalize joinRows.length = n3 at *
  generalize mirrorRows.length = n4 at *
  generalize bracketRows.length = n5 at *
  generalize formRows.length = n6 at *
  have HC := Lib.hid hcl
  have HG := Lib.hid hg
  have HL : w.heap.size ≤ w.heap.size := Nat.le_refl _
  clear hcl hg h
  generalize getF classRows r = g at *
  generalize classF r = cl at *
  obtain ⟨hg0, hg1⟩ := hbd
  by_cases hpos : 0 < g
  · have hv : g = cl := by rw [HC.out, if_pos hpos]
    have HV := Lib.hid hv
    clear hv
    go_enter Tryd.func14, Tryd.ntmps14
    go_wp2_with fail
    refine (HG.out _ ((Below.refl _ _).alloc HL _)).mono ?_
    rintro e w1 ⟨rfl, hb1⟩
    have hbel := ((Below.refl _ _).alloc HL _).trans (hb1.mono (by simp))
    clear hb1
    go_wp2
    go_ret
    exact ⟨ret_int HV.out, hbel⟩
  · have hv : (1 : Int) = cl := by rw [HC.out, if_neg hpos]
    have HV := Lib.hid hv
    clear hv
    go_enter Tryd.func14, Tryd.ntmps14
    go_wp2_with fail
    refine (HG.out _ ((Below.refl _ _).alloc HL _)).mono ?_
    rintro e w1 ⟨rfl, hb1⟩
    have hbel := ((Below.refl _ _).alloc HL _).trans (hb1.mono (by simp))
    clear hb1
    go_wp2
    go_ret
    exact ⟨ret_int HV.out, hbel⟩
set_option maxRecDepth 100000 in
set_option maxHeartbeats 1000000 in
theorem width_c (r : Int) (w : World) (h : DataAt w A1 A2 A3 A4 A5 A6) :
    Calls Tryd.prog 15 #[dataV A1 A2 A3 A4 A5 A6 c1 c2 c3 c4 c5 c6, .int .i64 r] w fun e w' => e = .returned (.int .i64 (widthF r)) ∧ Below w.heap.size w w' := by
  have hcl : widthF r = if 0 < getF wideRows r then getF wideRows r - 1 else 1 := rfl
  have hg : ∀ W, Below w.heap.size w W → Calls Tryd.prog 23 #[.agg #[.slice A2 wideRows.length c2], .int .i64 r] W _ := fun W hb => get_c A2 wideRows c2 r W (by rw [wide_len]; decide) (h.t2.later hb)
  have hbd := getF_bd_wide r
  unfold dataV
  generalize classRows.length = n1 at *
  generalize wideRows.length = n2 at *
  generalize joinRows.length = n3 at *
  generalize mirrorRows.length = n4 at *
  generalize bracketRows.length = n5 at *
  generalize formRows.length = n6 at *
  have HC := Lib.hid hcl
  have HG := Lib.hid hg
  have HL : w.heap.size ≤ w.heap.size := Nat.le_refl _
  clear hcl hg h
  generalize getF wideRows r = g at *
  generalize widthF r = cl at *
  obtain ⟨hg0, hg1⟩ := hbd
  by_cases hpos : 0 < g
  · have hv : g - 1 = cl := by rw [HC.out, if_pos hpos]
    have HV := Lib.hid hv
    clear hv
    go_enter Tryd.func15, Tryd.ntmps15
    go_wp2_with fail
    refine (HG.out _ ((Below.refl _ _).alloc HL _)).mono ?_
    rintro e w1 ⟨rfl, hb1⟩
    have hbel := ((Below.refl _ _).alloc HL _).trans (hb1.mono (by simp))
    clear hb1
    go_wp2
    go_ret
    exact ⟨ret_int HV.out, hbel⟩
  · have hv : (1 : Int) = cl := by rw [HC.out, if_neg hpos]
    have HV := Lib.hid hv
    clear hv
    go_enter Tryd.func15, Tryd.ntmps15
    go_wp2_with fail
    refine (HG.out _ ((Below.refl _ _).alloc HL _)).mono ?_
    rintro e w1 ⟨rfl, hb1⟩
    have hbel := ((Below.refl _ _).alloc HL _).trans (hb1.mono (by simp))
    clear hb1
    go_wp2
    go_ret
    exact ⟨ret_int HV.out, hbel⟩
set_option maxRecDepth 100000 in
set_option maxHeartbeats 1000000 in
theorem join_c' (r : Int) (w : World) (h : DataAt w A1 A2 A3 A4 A5 A6) :
    Calls Tryd.prog 13 #[dataV A1 A2 A3 A4 A5 A6 c1 c2 c3 c4 c5 c6, .int .i64 r] w fun e w' => e = .returned (.int .i64 (joinV r)) ∧ Below w.heap.size w w' := by
  have hg : ∀ W, Below w.heap.size w W → Calls Tryd.prog 23 #[.agg #[.slice A3 joinRows.length c3], .int .i64 r] W fun e w' => e = .returned (.int .i64 (joinV r)) ∧ Below W.heap.size W w' := fun W hb => get_c A3 joinRows c3 r W (by rw [join_len]; decide) (h.t3.later hb)
  unfold dataV
  generalize classRows.length = n1 at *
  generalize wideRows.length = n2 at *
  generalize joinRows.length = n3 at *
  generalize mirrorRows.length = n4 at *
  generalize bracketRows.length = n5 at *
  generalize formRows.length = n6 at *
  have HG := Lib.hid hg
  have HL : w.heap.size ≤ w.heap.size := Nat.le_refl _
  clear hg h
  generalize joinV r = g at *
  go_enter Tryd.func13, Tryd.ntmps13
  go_wp2_with fail
  refine (HG.out _ ((Below.refl _ _).alloc HL _)).mono ?_
  rintro e w1 ⟨rfl, hb1⟩
  have hbel := ((Below.refl _ _).alloc HL _).trans (hb1.mono (by simp))
  clear hb1
  go_wp2
  go_ret
  exact ⟨rfl, hbel⟩

theorem findF_drop {l : List P2} {k : Nat} {x : P2} (hx : l[k]? = some x) (r : Int) : findF (l.drop k) r = if r = x.a then (x.b, 1) else if r = x.b then (x.a, 2) else findF (l.drop (k + 1)) r := by
  rw [drop_cons hx]; rfl

set_option maxRecDepth 100000 in
set_option maxHeartbeats 1000000 in
theorem find_c (A : Option Addr) (l : List P2) (c : Nat) (r : Int) (w : World) (hn : l.length ≤ 1000) (h : Tab2 w w.heap.size A l) :
    Calls Tryd.prog 21 #[.slice A l.length c, .int .i64 r] w fun e w' => e = .returned (.tuple #[.int .i64 (findF l r).1, .int .i64 (findF l r).2]) ∧ Below w.heap.size w w' := by
  go_enter Tryd.func21, Tryd.ntmps21
  go_wp2
  go_loopw [10] (fun i wr => ∃ k : Nat, k ≤ l.length ∧ i = .int .i64 k ∧ Hid (findF l r = findF (l.drop k) r) ∧ Below w.heap.size w wr) (fun i _ => l.length - (intOf i).toNat)
  case atStart => exact ⟨0, Nat.zero_le _, rfl, Lib.hid rfl, Below.refl _ _⟩
  case round =>
    obtain ⟨k, hk, rfl, HF, hbel⟩ := hrel
    by_cases hlt : k < l.length
    · have hg : l[k]? = some l[k] := List.getElem?_eq_getElem hlt
      have hd := findF_drop hg r
      generalize l[k] = x at *
      obtain ⟨b, o, rfl, hb, h0⟩ := h.at_ hg
      obtain ⟨h1, h2⟩ := h0.below hbel hb
      have HD := Lib.hid hd
      clear hg h0 h hd
      by_cases ha : r = x.a
      · have HR : Hid (findF l r = (x.b, 1)) := Lib.hid (by rw [HF.out, HD.out, if_pos ha])
        have k1 : (r == x.a) = true := beq_iff_eq.2 ha
        clear HD HF
        subst ha
        go_wp2_with fail
        all_goals (go_ret2; exact ⟨by rw [HR.out] <;> rfl, hbel.alloc hbel.size _⟩)
      · by_cases hb' : r = x.b
        · have HR : Hid (findF l r = (x.a, 2)) := Lib.hid (by rw [HF.out, HD.out, if_neg ha, if_pos hb'])
          have k1 : (r == x.a) = false := beq_eq_false_iff_ne.2 ha
          clear HD HF
          subst hb'
          go_wp2_with fail
          all_goals (go_ret2; exact ⟨by rw [HR.out] <;> rfl, hbel.alloc hbel.size _⟩)
        · have HR : Hid (findF l r = findF (l.drop (k + 1)) r) := Lib.hid (by rw [HF.out, HD.out, if_neg ha, if_neg hb'])
          have k1 : (r == x.a) = false := beq_eq_false_iff_ne.2 ha
          have k2 : (r == x.b) = false := beq_eq_false_iff_ne.2 hb'
          clear HD HF ha hb'
          go_wp2_with fail
          exact ⟨⟨k + 1, by omega, by go_num, HR, hbel.alloc hbel.size _⟩, by simp [intOf]; omega⟩
    · have hkl : k = l.length := by omega
      have HR : Hid (findF l r = (0, 0)) := Lib.hid (by rw [HF.out, hkl, List.drop_length]; rfl)
      clear HF
      go_wp2_with fail
      go_ret2
      exact ⟨by rw [HR.out] <;> rfl, hbel⟩

set_option maxRecDepth 100000 in
set_option maxHeartbeats 1000000 in
theorem bracket_c (r : Int) (w : World) (h : DataAt w A1 A2 A3 A4 A5 A6) :
    Calls Tryd.prog 10 #[dataV A1 A2 A3 A4 A5 A6 c1 c2 c3 c4 c5 c6, .int .i64 r] w fun e w' => e = .returned (.tuple #[.int .i64 (findF bracketRows r).1, .int .i64 (findF bracketRows r).2]) ∧ Below w.heap.size w w' := by
  have hg := fun W (hb : Below w.heap.size w W) => find_c A5 bracketRows c5 r W (by rw [bracket_len]; decide) (h.t5.later hb)
  unfold dataV
  generalize classRows.length = n1 at *
  generalize wideRows.length = n2 at *
  generalize joinRows.length = n3 at *
  generalize mirrorRows.length = n4 at *
  generalize bracketRows.length = n5 at *
  generalize formRows.length = n6 at *
  have HG := Lib.hid hg
  have HL : w.heap.size ≤ w.heap.size := Nat.le_refl _
  clear hg h
  generalize findF bracketRows r = g at *
  obtain ⟨g1, g2⟩ := g
  dsimp only at *
  go_enter Tryd.func10, Tryd.ntmps10
  go_wp2_with fail
  refine (HG.out _ ((Below.refl _ _).alloc HL _)).mono ?_
  rintro e w1 ⟨rfl, hb1⟩
  have hbel := ((Below.refl _ _).alloc HL _).trans (hb1.mono (by simp))
  clear hb1
  go_wp2
  go_ret2
  exact ⟨rfl, hbel⟩

set_option maxRecDepth 100000 in
set_option maxHeartbeats 1000000 in
theorem mirror_c (r : Int) (w : World) (h : DataAt w A1 A2 A3 A4 A5 A6) :
    Calls Tryd.prog 11 #[dataV A1 A2 A3 A4 A5 A6 c1 c2 c3 c4 c5 c6, .int .i64 r] w fun e w' => e = .returned (.int .i64 (mirrorF r)) ∧ Below w.heap.size w w' := by
  have hg := fun W (hb : Below w.heap.size w W) => find_c A4 mirrorRows c4 r W (by rw [mirror_len]; decide) (h.t4.later hb)
  have hm : mirrorF r = if 0 < (findF mirrorRows r).2 then (findF mirrorRows r).1 else r := rfl
  unfold dataV
  generalize classRows.length = n1 at *
  generalize wideRows.length = n2 at *
  generalize joinRows.length = n3 at *
  generalize mirrorRows.length = n4 at *
  generalize bracketRows.length = n5 at *
  generalize formRows.length = n6 at *
  have HG := Lib.hid hg
  have HL : w.heap.size ≤ w.heap.size := Nat.le_refl _
  have HM := Lib.hid hm
  clear hg h hm
  generalize findF mirrorRows r = g at *
  generalize mirrorF r = m at *
  obtain ⟨g1, g2⟩ := g
  dsimp only at *
  by_cases hpos : 0 < g2
  · have HV : Hid (g1 = m) := Lib.hid (by rw [HM.out, if_pos hpos])
    go_enter Tryd.func11, Tryd.ntmps11
    go_wp2_with fail
    refine (HG.out _ ((Below.refl _ _).alloc HL _)).mono ?_
    rintro e w1 ⟨rfl, hb1⟩
    have hbel := ((Below.refl _ _).alloc HL _).trans (hb1.mono (by simp))
    clear hb1
    go_wp2
    go_ret
    exact ⟨ret_int HV.out, hbel⟩
  · have HV : Hid (r = m) := Lib.hid (by rw [HM.out, if_neg hpos])
    go_enter Tryd.func11, Tryd.ntmps11
    go_wp2_with fail
    refine (HG.out _ ((Below.refl _ _).alloc HL _)).mono ?_
    rintro e w1 ⟨rfl, hb1⟩
    have hbel := ((Below.refl _ _).alloc HL _).trans (hb1.mono (by simp))
    clear hb1
    go_wp2
    go_ret
    exact ⟨ret_int HV.out, hbel⟩
end
end Go.Proofs.YthlkpcfpapiigaaDoor
