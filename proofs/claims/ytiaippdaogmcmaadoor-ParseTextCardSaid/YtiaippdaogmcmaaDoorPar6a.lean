/- A block of seven cells that is stored whole. Package parse: its small functions, by contracts. Package parse: what begins a state, what collects, what tells an action; by contracts. Package parse: what is collected; by contracts. -/
import Derived.Test.YtiaippdaogmcmaaDoorMem6
import Derived.Laws.Runes
namespace Go.Proofs.YtiaippdaogmcmaaDoor
open Go Go.RowKit
set_option linter.unusedVariables false
set_option linter.unusedSimpArgs false

/-- Seven cells are stored: the block has them, and old memory stays. -/
theorem Box.sto7 {w W : World} {B g : Nat} {t : TypeId} {o0 o1 o2 o3 o4 o5 o6 : Value} (h : Box W g t #[o0, o1, o2, o3, o4, o5, o6]) (hb : Below B w W) (hg : B ≤ g) (v0 v1 v2 v3 v4 v5 v6 : Value) :
    Box (set7 W g v0 v1 v2 v3 v4 v5 v6) g t #[v0, v1, v2, v3, v4, v5, v6] ∧ Below B w (set7 W g v0 v1 v2 v3 v4 v5 v6) := by
  have h0 : Box (W.setCell ⟨g, 0, none⟩ v0) g t #[v0, o1, o2, o3, o4, o5, o6] := h.set_ 0 v0
  have b0 : Below B w (W.setCell ⟨g, 0, none⟩ v0) := hb.setCell (p := ⟨g, 0, none⟩) hg v0
  have h1 : Box ((W.setCell ⟨g, 0, none⟩ v0).setCell ⟨g, 1, none⟩ v1) g t #[v0, v1, o2, o3, o4, o5, o6] := h0.set_ 1 v1
  have b1 : Below B w ((W.setCell ⟨g, 0, none⟩ v0).setCell ⟨g, 1, none⟩ v1) := b0.setCell (p := ⟨g, 1, none⟩) hg v1
  have h2 : Box (((W.setCell ⟨g, 0, none⟩ v0).setCell ⟨g, 1, none⟩ v1).setCell ⟨g, 2, none⟩ v2) g t #[v0, v1, v2, o3, o4, o5, o6] := h1.set_ 2 v2
  have b2 : Below B w (((W.setCell ⟨g, 0, none⟩ v0).setCell ⟨g, 1, none⟩ v1).setCell ⟨g, 2, none⟩ v2) := b1.setCell (p := ⟨g, 2, none⟩) hg v2
  have h3 : Box ((((W.setCell ⟨g, 0, none⟩ v0).setCell ⟨g, 1, none⟩ v1).setCell ⟨g, 2, none⟩ v2).setCell ⟨g, 3, none⟩ v3) g t #[v0, v1, v2, v3, o4, o5, o6] := h2.set_ 3 v3
  have b3 : Below B w ((((W.setCell ⟨g, 0, none⟩ v0).setCell ⟨g, 1, none⟩ v1).setCell ⟨g, 2, none⟩ v2).setCell ⟨g, 3, none⟩ v3) := b2.setCell (p := ⟨g, 3, none⟩) hg v3
  have h4 : Box (((((W.setCell ⟨g, 0, none⟩ v0).setCell ⟨g, 1, none⟩ v1).setCell ⟨g, 2, none⟩ v2).setCell ⟨g, 3, none⟩ v3).setCell ⟨g, 4, none⟩ v4) g t #[v0, v1, v2, v3, v4, o5, o6] := h3.set_ 4 v4
  have b4 : Below B w (((((W.setCell ⟨g, 0, none⟩ v0).setCell ⟨g, 1, none⟩ v1).setCell ⟨g, 2, none⟩ v2).setCell ⟨g, 3, none⟩ v3).setCell ⟨g, 4, none⟩ v4) := b3.setCell (p := ⟨g, 4, none⟩) hg v4
  have h5 : Box ((((((W.setCell ⟨g, 0, none⟩ v0).setCell ⟨g, 1, none⟩ v1).setCell ⟨g, 2, none⟩ v2).setCell ⟨g, 3, none⟩ v3).setCell ⟨g, 4, none⟩ v4).setCell ⟨g, 5, none⟩ v5) g t #[v0, v1, v2, v3, v4, v5, o6] := h4.set_ 5 v5
  have b5 : Below B w ((((((W.setCell ⟨g, 0, none⟩ v0).setCell ⟨g, 1, none⟩ v1).setCell ⟨g, 2, none⟩ v2).setCell ⟨g, 3, none⟩ v3).setCell ⟨g, 4, none⟩ v4).setCell ⟨g, 5, none⟩ v5) := b4.setCell (p := ⟨g, 5, none⟩) hg v5
  have h6 : Box (((((((W.setCell ⟨g, 0, none⟩ v0).setCell ⟨g, 1, none⟩ v1).setCell ⟨g, 2, none⟩ v2).setCell ⟨g, 3, none⟩ v3).setCell ⟨g, 4, none⟩ v4).setCell ⟨g, 5, none⟩ v5).setCell ⟨g, 6, none⟩ v6) g t #[v0, v1, v2, v3, v4, v5, v6] := h5.set_ 6 v6
  have b6 : Below B w (((((((W.setCell ⟨g, 0, none⟩ v0).setCell ⟨g, 1, none⟩ v1).setCell ⟨g, 2, none⟩ v2).setCell ⟨g, 3, none⟩ v3).setCell ⟨g, 4, none⟩ v4).setCell ⟨g, 5, none⟩ v5).setCell ⟨g, 6, none⟩ v6) := b5.setCell (p := ⟨g, 6, none⟩) hg v6
  exact ⟨h6, b6⟩
theorem Box.free7s {W : World} {g : Nat} {t : TypeId} {cs : Array Value} (h : Box W g t cs) : W.frozen? ⟨g, 0, none⟩ = false ∧ W.frozen? ⟨g, 1, none⟩ = false ∧ W.frozen? ⟨g, 2, none⟩ = false ∧ W.frozen? ⟨g, 3, none⟩ = false ∧ W.frozen? ⟨g, 4, none⟩ = false ∧ W.frozen? ⟨g, 5, none⟩ = false ∧ W.frozen? ⟨g, 6, none⟩ = false :=
  ⟨h.free 0, h.free 1, h.free 2, h.free 3, h.free 4, h.free 5, h.free 6⟩
theorem Box.cells7s {W : World} {g : Nat} {t : TypeId} {o0 o1 o2 o3 o4 o5 o6 : Value} (h : Box W g t #[o0, o1, o2, o3, o4, o5, o6]) : W.cell? ⟨g, 0, none⟩ = some o0 ∧ W.cell? ⟨g, 1, none⟩ = some o1 ∧ W.cell? ⟨g, 2, none⟩ = some o2 ∧ W.cell? ⟨g, 3, none⟩ = some o3 ∧ W.cell? ⟨g, 4, none⟩ = some o4 ∧ W.cell? ⟨g, 5, none⟩ = some o5 ∧ W.cell? ⟨g, 6, none⟩ = some o6 :=
  ⟨h.cell 0, h.cell 1, h.cell 2, h.cell 3, h.cell 4, h.cell 5, h.cell 6⟩
end Go.Proofs.YtiaippdaogmcmaaDoor

namespace Go.Proofs.YtiaippdaogmcmaaDoor
open Go Go.RowKit
set_option linter.unusedVariables false
set_option linter.unusedSimpArgs false

set_option maxRecDepth 100000 in
theorem isInter_c (k : Nat) (hk : k < 256) (w : World) : Calls Tryd.prog 34 #[.int .u8 (k : Int)] w fun e w' => e = .returned (.bool (midB k)) ∧ w' = w := by
  have h : k < 32 ∨ (32 ≤ k ∧ k ≤ 47) ∨ 47 < k := by omega
  rcases h with h | ⟨h1, h2⟩ | h
  · have e : midB k = false := decide_eq_false (by omega)
    rw [e]
    clear e
    go_enter Tryd.func34, Tryd.ntmps34
    go_wp2_with fail
    go_ret
    exact ⟨rfl, rfl⟩
  · have e : midB k = true := decide_eq_true ⟨h1, h2⟩
    rw [e]
    clear e
    go_enter Tryd.func34, Tryd.ntmps34
    go_wp2_with fail
    go_ret
    exact ⟨ret_bool (decide_eq_true (by omega)), rfl⟩
  · have e : midB k = false := decide_eq_false (by omega)
    rw [e]
    clear e
    go_enter Tryd.func34, Tryd.ntmps34
    go_wp2_with fail
    go_ret
    exact ⟨ret_bool (decide_eq_false (by omega)), rfl⟩
set_option maxRecDepth 100000 in
theorem isPrivate_c (k : Nat) (hk : k < 256) (w : World) : Calls Tryd.prog 35 #[.int .u8 (k : Int)] w fun e w' => e = .returned (.bool (signB k)) ∧ w' = w := by
  have h : k < 60 ∨ (60 ≤ k ∧ k ≤ 63) ∨ 63 < k := by omega
  rcases h with h | ⟨h1, h2⟩ | h
  · have e : signB k = false := decide_eq_false (by omega)
    rw [e]
    clear e
    go_enter Tryd.func35, Tryd.ntmps35
    go_wp2_with fail
    go_ret
    exact ⟨rfl, rfl⟩
  · have e : signB k = true := decide_eq_true ⟨h1, h2⟩
    rw [e]
    clear e
    go_enter Tryd.func35, Tryd.ntmps35
    go_wp2_with fail
    go_ret
    exact ⟨ret_bool (decide_eq_true (by omega)), rfl⟩
  · have e : signB k = false := decide_eq_false (by omega)
    rw [e]
    clear e
    go_enter Tryd.func35, Tryd.ntmps35
    go_wp2_with fail
    go_ret
    exact ⟨ret_bool (decide_eq_false (by omega)), rfl⟩
/-- Is it one of 0 to 31? -/
def ctlB (r : Int) : Bool := decide (0 ≤ r ∧ r ≤ 31)
set_option maxRecDepth 100000 in
theorem isControl_c (r : Int) (w : World) : Calls Tryd.prog 43 #[.int .i64 r] w fun e w' => e = .returned (.bool (ctlB r)) ∧ w' = w := by
  have h : r < 0 ∨ (0 ≤ r ∧ r ≤ 31) ∨ (0 ≤ r ∧ 31 < r) := by omega
  rcases h with h | ⟨h1, h2⟩ | ⟨h1, h2⟩
  · have e : ctlB r = false := decide_eq_false (by omega)
    rw [e]
    clear e
    go_enter Tryd.func43, Tryd.ntmps43
    go_wp2_with fail
    go_ret
    exact ⟨rfl, rfl⟩
  · have e : ctlB r = true := decide_eq_true ⟨h1, h2⟩
    rw [e]
    clear e
    go_enter Tryd.func43, Tryd.ntmps43
    go_wp2_with fail
    go_ret
    exact ⟨rfl, rfl⟩
  · have e : ctlB r = false := decide_eq_false (by omega)
    rw [e]
    clear e
    go_enter Tryd.func43, Tryd.ntmps43
    go_wp2_with fail
    go_ret
    exact ⟨ret_bool (decide_eq_false (by omega)), rfl⟩
/-- Is a string read there? -/
def strB (a : Int) : Bool := decide (a = 7 ∨ a = 8 ∨ a = 9)
set_option maxRecDepth 100000 in
theorem isString_c (a : Int) (w : World) : Calls Tryd.prog 31 #[.int .i64 a] w fun e w' => e = .returned (.bool (strB a)) ∧ w' = w := by
  by_cases h7 : a = 7
  · subst h7
    go_enter Tryd.func31, Tryd.ntmps31
    go_wp2_with fail
    go_ret
    exact ⟨rfl, rfl⟩
  by_cases h8 : a = 8
  · subst h8
    go_enter Tryd.func31, Tryd.ntmps31
    go_wp2_with fail
    go_ret
    exact ⟨rfl, rfl⟩
  by_cases h9 : a = 9
  · subst h9
    go_enter Tryd.func31, Tryd.ntmps31
    go_wp2_with fail
    go_ret
    exact ⟨rfl, rfl⟩
  have e : strB a = false := decide_eq_false (by omega)
  have e7 : (a == 7) = false := beq_eq_false_iff_ne.2 h7
  have e8 : (a == 8) = false := beq_eq_false_iff_ne.2 h8
  have e9 : (a == 9) = false := beq_eq_false_iff_ne.2 h9
  rw [e]
  clear e h7 h8 h9
  go_enter Tryd.func31, Tryd.ntmps31
  go_wp2_with fail
  go_ret
  exact ⟨rfl, rfl⟩
end Go.Proofs.YtiaippdaogmcmaaDoor

namespace Go.Proofs.YtiaippdaogmcmaaDoor
open Go Go.RowKit
set_option linter.unusedVariables false
set_option linter.unusedSimpArgs false

theorem ret_s1 {fn : Func} {p : Tmp} (h : fn.results = #[.cell p 28]) (s : S6) (A : Option Addr) (n c : Nat) (tmps : Array Value) (W : World) (g : Nat) (t : TypeId) (hp : tmps.getD p undef = .pointer (some ⟨g, 0, none⟩)) (hg : Box W g t (stCells s A n c)) :
    (results fn tmps).run Tryd.prog W = .ok (stV s A n c) W :=
  results_cell_row h tmps W g t (stCells s A n c) (0, 0) _ hp hg Tryd.underlying28 rfl (by kernel_rfl)
theorem ret_s2 {fn : Func} {p u : Tmp} (h : fn.results = #[.cell p 28, .tmp u]) (s : S6) (A : Option Addr) (n c : Nat) (tmps : Array Value) (W : World) (g : Nat) (t : TypeId) (x : Value) (hp : tmps.getD p undef = .pointer (some ⟨g, 0, none⟩)) (hx : tmps.getD u undef = x) (hg : Box W g t (stCells s A n c)) :
    (results fn tmps).run Tryd.prog W = .ok (.tuple #[stV s A n c, x]) W := by
  rw [results_cell_tmp h, hp, hx]
  have := run_loadVar_row (P := Tryd.prog) W g t 28 (stCells s A n c) (0, 0) _ hg Tryd.underlying28 rfl (by kernel_rfl)
  simp [asAddr, Result.andThen, this]
  rfl
/-- Two new blocks. -/
theorem two_new (w : World) (T U : TypeId) (A B : Array Value) : Box ((w.alloc (.cells A T)).alloc (.cells B U)) w.heap.size T A ∧ Box ((w.alloc (.cells A T)).alloc (.cells B U)) (w.heap.size + 1) U B ∧ Below w.heap.size w ((w.alloc (.cells A T)).alloc (.cells B U)) :=
  ⟨(Box.new w _ _).alloc _, by have := Box.new (w.alloc (.cells A T)) U B; simp only [World.alloc, Array.size_push] at this ⊢; exact this, ((Below.refl _ _).alloc (Nat.le_refl _) _).alloc (by simp) _⟩
def exE (r : Int) : AcE := ⟨2, 0, r.toNat, [], none, 0, [], []⟩
set_option maxRecDepth 100000 in
theorem executed_c (r : Int) (w : World) (h0 : 0 ≤ r) (h1 : r ≤ 255) : Calls Tryd.prog 29 #[.int .i64 r] w fun e w' => e = .returned (.slice (some ⟨w.heap.size, 0, none⟩) 1 1) ∧ w' = w.alloc (.cells #[.int .i64 2, .int .i64 0, .int .u8 r, .string ⟨#[]⟩, .slice none 0 0, .string ⟨#[]⟩] 44) := by
  go_enter Tryd.func29, Tryd.ntmps29
  go_wp2_with fail
  go_ret
  exact ⟨rfl, rfl⟩
/-- What one of 128 to 159 begins. -/
def openS (r : Int) : S6 := if r = 144 then begunS 8 else if r = 152 then kindS 88 else if r = 155 then begunS 3 else if r = 157 then begunS 7 else if r = 158 then kindS 94 else if r = 159 then kindS 95 else zeroS
set_option maxRecDepth 100000 in
theorem opened_c (r : Int) (w : World) : Calls Tryd.prog 30 #[.int .i64 r] w fun e w' => e = .returned (stV (openS r) none 0 0) ∧ Below w.heap.size w w' := by
  have key : ∀ s : S6, openS r = s → Calls Tryd.prog 30 #[.int .i64 r] w (fun e w' => e = .returned (stV s none 0 0) ∧ Below w.heap.size w w') → Calls Tryd.prog 30 #[.int .i64 r] w (fun e w' => e = .returned (stV (openS r) none 0 0) ∧ Below w.heap.size w w') := fun s h k => by rw [h]; exact k
  by_cases h0 : r = 144
  · subst h0
    refine key (begunS 8) rfl ?_
    go_enter Tryd.func30, Tryd.ntmps30
    go_wp2_with fail
    exact bodyPost_ret (ret_s1 rfl (begunS 8) none 0 0 _ _ w.heap.size _ rfl (Box.new w _ (stCells (begunS 8) none 0 0))) rfl ⟨rfl, (Below.refl _ _).alloc (Nat.le_refl _) _⟩
  by_cases h1 : r = 152
  · subst h1
    refine key (kindS 88) rfl ?_
    go_enter Tryd.func30, Tryd.ntmps30
    go_wp2_with fail
    exact bodyPost_ret (ret_s1 rfl (kindS 88) none 0 0 _ _ w.heap.size _ rfl (Box.new w _ (stCells (kindS 88) none 0 0))) rfl ⟨rfl, (Below.refl _ _).alloc (Nat.le_refl _) _⟩
  by_cases h2 : r = 155
  · subst h2
    refine key (begunS 3) rfl ?_
    go_enter Tryd.func30, Tryd.ntmps30
    go_wp2_with fail
    exact bodyPost_ret (ret_s1 rfl (begunS 3) none 0 0 _ _ w.heap.size _ rfl (Box.new w _ (stCells (begunS 3) none 0 0))) rfl ⟨rfl, (Below.refl _ _).alloc (Nat.le_refl _) _⟩
  by_cases h3 : r = 157
  · subst h3
    refine key (begunS 7) rfl ?_
    go_enter Tryd.func30, Tryd.ntmps30
    go_wp2_with fail
    exact bodyPost_ret (ret_s1 rfl (begunS 7) none 0 0 _ _ w.heap.size _ rfl (Box.new w _ (stCells (begunS 7) none 0 0))) rfl ⟨rfl, (Below.refl _ _).alloc (Nat.le_refl _) _⟩
  by_cases h4 : r = 158
  · subst h4
    refine key (kindS 94) rfl ?_
    go_enter Tryd.func30, Tryd.ntmps30
    go_wp2_with fail
    exact bodyPost_ret (ret_s1 rfl (kindS 94) none 0 0 _ _ w.heap.size _ rfl (Box.new w _ (stCells (kindS 94) none 0 0))) rfl ⟨rfl, (Below.refl _ _).alloc (Nat.le_refl _) _⟩
  by_cases h5 : r = 159
  · subst h5
    refine key (kindS 95) rfl ?_
    go_enter Tryd.func30, Tryd.ntmps30
    go_wp2_with fail
    exact bodyPost_ret (ret_s1 rfl (kindS 95) none 0 0 _ _ w.heap.size _ rfl (Box.new w _ (stCells (kindS 95) none 0 0))) rfl ⟨rfl, (Below.refl _ _).alloc (Nat.le_refl _) _⟩
  have e : openS r = zeroS := by unfold openS; rw [if_neg h0, if_neg h1, if_neg h2, if_neg h3, if_neg h4, if_neg h5]
  have e0 : (r == 144) = false := beq_eq_false_iff_ne.2 h0
  have e1 : (r == 152) = false := beq_eq_false_iff_ne.2 h1
  have e2 : (r == 155) = false := beq_eq_false_iff_ne.2 h2
  have e3 : (r == 157) = false := beq_eq_false_iff_ne.2 h3
  have e4 : (r == 158) = false := beq_eq_false_iff_ne.2 h4
  have e5 : (r == 159) = false := beq_eq_false_iff_ne.2 h5
  refine key zeroS e ?_
  clear h0 h1 h2 h3 h4 h5 e key
  go_enter Tryd.func30, Tryd.ntmps30
  go_wp2_with fail
  exact bodyPost_ret (ret_s1 rfl zeroS none 0 0 _ _ w.heap.size _ rfl (Box.new w _ (stCells zeroS none 0 0))) rfl ⟨rfl, (Below.refl _ _).alloc (Nat.le_refl _) _⟩
set_option maxRecDepth 100000 in
theorem inIgnored_c (s : S6) (A : Option Addr) (n c k : Nat) (hk : k < 256) (w : World) : Calls Tryd.prog 45 #[stV s A n c, .int .u8 (k : Int)] w fun e w' => e = .returned (if 64 ≤ k then stV zeroS none 0 0 else stV s A n c) ∧ Below w.heap.size w w' := by
  by_cases h : 64 ≤ k
  · rw [if_pos h]
    have HX := Lib.hid (two_new w 28 28 (stCells s A n c) (stCells zeroS none 0 0))
    simp only [stV_eq s]
    go_enter Tryd.func45, Tryd.ntmps45
    go_wp2_with fail
    exact bodyPost_ret (ret_s1 rfl zeroS none 0 0 _ _ (w.heap.size + 1) _ rfl HX.out.2.1) rfl ⟨rfl, HX.out.2.2⟩
  · rw [if_neg h]
    have HX := Lib.hid (two_new w 28 28 (stCells s A n c) (stCells s A n c))
    simp only [stV_eq s]
    go_enter Tryd.func45, Tryd.ntmps45
    go_wp2_with fail
    exact bodyPost_ret (ret_s1 rfl s A n c _ _ (w.heap.size + 1) _ rfl HX.out.2.1) rfl ⟨rfl, HX.out.2.2⟩
end Go.Proofs.YtiaippdaogmcmaaDoor

namespace Go.Proofs.YtiaippdaogmcmaaDoor
open Go Go.RowKit
set_option linter.unusedVariables false
set_option linter.unusedSimpArgs false

/-- What collecting makes of a state: code and place. -/
def collC (s : S6) (k : Nat) (a : Int) : S6 := if s.inter.length = 2 then { s with at_ := a, over := true } else { s with at_ := a, inter := s.inter ++ [k] }
theorem collC_eq {s : S6} (h : s.inter.length ≤ 2) (k : Nat) (a : Int) : collC s k a = collectS s (k : Int) a := by
  unfold collC collectS
  by_cases h2 : s.inter.length = 2
  · rw [if_pos h2, if_pos (by omega)]
  · rw [if_neg h2, if_neg (by omega)]; rfl
theorem Box.st' {W : World} {g : Nat} {T : TypeId} {s : S6} {A : Option Addr} {n c : Nat} (h : Box W g T (stCells s A n c)) :
    W.cell? ⟨g, 0, none⟩ = some (.int .i64 s.at_) ∧ W.cell? ⟨g, 1, none⟩ = some (.string (strS s.inter)) ∧ W.cell? ⟨g, 2, none⟩ = some (.bool s.over) ∧ W.cell? ⟨g, 3, none⟩ = some (.slice A n c) ∧
    W.cell? ⟨g, 4, none⟩ = some (.bool s.par.o) ∧ W.cell? ⟨g, 5, none⟩ = some (.string (strS s.text)) ∧ W.cell? ⟨g, 6, none⟩ = some (.int .u8 (s.kind : Int)) :=
  ⟨h.cell 0, h.cell 1, h.cell 2, h.cell 3, h.cell 4, h.cell 5, h.cell 6⟩
/-- A parameter's variable, and a result's, as the walk has them. -/
theorem two_sts (w : World) (T : TypeId) (s : S6) (A : Option Addr) (n c : Nat) : Box ((w.alloc (.cells #[.int .i64 s.at_, .string (strS s.inter), .bool s.over, .slice A n c, .bool s.par.o, .string (strS s.text), .int .u8 (s.kind : Int)] T)).alloc (.cells #[.int .i64 0, .string ⟨#[]⟩, .bool false, .slice none 0 0, .bool false, .string ⟨#[]⟩, .int .u8 0] T)) w.heap.size T (stCells s A n c) ∧ Box ((w.alloc (.cells #[.int .i64 s.at_, .string (strS s.inter), .bool s.over, .slice A n c, .bool s.par.o, .string (strS s.text), .int .u8 (s.kind : Int)] T)).alloc (.cells #[.int .i64 0, .string ⟨#[]⟩, .bool false, .slice none 0 0, .bool false, .string ⟨#[]⟩, .int .u8 0] T)) (w.heap.size + 1) T #[.int .i64 0, .string ⟨#[]⟩, .bool false, .slice none 0 0, .bool false, .string ⟨#[]⟩, .int .u8 0] ∧ Below w.heap.size w ((w.alloc (.cells #[.int .i64 s.at_, .string (strS s.inter), .bool s.over, .slice A n c, .bool s.par.o, .string (strS s.text), .int .u8 (s.kind : Int)] T)).alloc (.cells #[.int .i64 0, .string ⟨#[]⟩, .bool false, .slice none 0 0, .bool false, .string ⟨#[]⟩, .int .u8 0] T)) ∧ w.heap.size + 2 ≤ (((w.alloc (.cells #[.int .i64 s.at_, .string (strS s.inter), .bool s.over, .slice A n c, .bool s.par.o, .string (strS s.text), .int .u8 (s.kind : Int)] T)).alloc (.cells #[.int .i64 0, .string ⟨#[]⟩, .bool false, .slice none 0 0, .bool false, .string ⟨#[]⟩, .int .u8 0] T))).heap.size :=
  ⟨(two_new w T T (stCells s A n c) (stCells zeroS none 0 0)).1, (two_new w T T (stCells s A n c) (stCells zeroS none 0 0)).2.1, (two_new w T T (stCells s A n c) (stCells zeroS none 0 0)).2.2, by simp⟩
theorem enc_one {k : Nat} (hk : k < 128) : Utf8.encode (k : Int) = strS [k] := by
  unfold Utf8.encode
  have hv : Utf8.valid (k : Int) = true := by simp [Utf8.valid]; omega
  simp only [hv, if_true, Int.toNat_natCast]
  rw [if_pos (by omega)]
  rfl
theorem rune_c {k : Nat} (hk : k < 128) (V : World) : (convert 5 21 (.int .u8 (k : Int))).run Tryd.prog V = .ok (.int .i32 (k : Int)) V ∧ (convert 21 9 (.int .i32 (k : Int))).run Tryd.prog V = .ok (.string (strS [k])) V := by
  refine ⟨?_, ?_⟩
  · have e : Tryd.prog.intKind 21 = .i32 := by kernel_rfl
    have ew : IntKind.i32.wrap (k : Int) = k := by unfold IntKind.wrap; simp [IntKind.bits, IntKind.signed]; omega
    rw [run_convert_int V 5 21 .u8 (k : Int) (by rw [Tryd.underlying5]; rfl) (by rw [e]; exact Tryd.underlying21), e, ew]
  · rw [run_convert_int_string V 21 9 .i32 (k : Int) (by rw [Tryd.underlying21]; rfl) Tryd.underlying9, enc_one hk]
set_option maxRecDepth 100000 in
theorem collected_c (s : S6) (A : Option Addr) (n c k : Nat) (a : Int) (hk : k < 128) (hs : s.inter.length ≤ 2) (w : World) : Calls Tryd.prog 52 #[stV s A n c, .int .u8 (k : Int), .int .i64 a] w fun e w' => e = .returned (stV (collC s k a) A n c) ∧ Below w.heap.size w w' := by
  have HH := Lib.hid (two_sts w 28 s A n c)
  have hl : (strS s.inter).size = s.inter.length := strS_size _
  by_cases h2 : s.inter.length = 2
  · have e : collC s k a = { s with at_ := a, over := true } := by unfold collC; rw [if_pos h2]
    rw [e]
    clear e
    simp only [stV_eq s]
    go_enter Tryd.func52, Tryd.ntmps52
    go_upto_region 1 with fail
    obtain ⟨hA, hB, hbel, hsz⟩ := HH.out
    clear HH
    generalize (w.alloc (.cells #[.int .i64 s.at_, .string (strS s.inter), .bool s.over, .slice A n c, .bool s.par.o, .string (strS s.text), .int .u8 (s.kind : Int)] 28)).alloc (.cells #[.int .i64 0, .string ⟨#[]⟩, .bool false, .slice none 0 0, .bool false, .string ⟨#[]⟩, .int .u8 0] 28) = W at *
    obtain ⟨a0, a1, a2, a3, a4, a5, a6⟩ := hA.st'
    have fa0 := hA.free 0
    have fa2 := hA.free 2
    obtain ⟨c0, c1, c2, c3, c4, c5, c6⟩ := hB.cells7s
    obtain ⟨f0, f1, f2, f3, f4, f5, f6⟩ := hB.free7s
    have hb9 := (hbel.setCell (p := ⟨w.heap.size, 0, none⟩) (Nat.le_refl _) (.int .i64 a)).setCell (p := ⟨w.heap.size, 2, none⟩) (Nat.le_refl _) (.bool true)
    have hX := ((hB.far (p := ⟨w.heap.size, 0, none⟩) (by simp) (.int .i64 a)).far (p := ⟨w.heap.size, 2, none⟩) (by simp) (.bool true)).sto7 hb9 (by omega) (.int .i64 a) (.string (strS s.inter)) (.bool true) (.slice A n c) (.bool s.par.o) (.string (strS s.text)) (.int .u8 (s.kind : Int))
    have HX := Lib.hid hX
    have z2 : ((strS s.inter).size == 2) = true := by rw [hl]; exact beq_iff_eq.2 h2
    clear hX hA hB hb9 hbel
    go_wp2_with fail
    exact bodyPost_ret (ret_s1 rfl { s with at_ := a, over := true } A n c _ _ (w.heap.size + 1) _ rfl HX.out.1) rfl ⟨rfl, HX.out.2⟩
  · have e : collC s k a = { s with at_ := a, inter := s.inter ++ [k] } := by unfold collC; rw [if_neg h2]
    rw [e]
    clear e
    simp only [stV_eq s]
    go_enter Tryd.func52, Tryd.ntmps52
    go_upto_region 1 with fail
    obtain ⟨hA, hB, hbel, hsz⟩ := HH.out
    clear HH
    generalize (w.alloc (.cells #[.int .i64 s.at_, .string (strS s.inter), .bool s.over, .slice A n c, .bool s.par.o, .string (strS s.text), .int .u8 (s.kind : Int)] 28)).alloc (.cells #[.int .i64 0, .string ⟨#[]⟩, .bool false, .slice none 0 0, .bool false, .string ⟨#[]⟩, .int .u8 0] 28) = W at *
    obtain ⟨a0, a1, a2, a3, a4, a5, a6⟩ := hA.st'
    have fa0 := hA.free 0
    have fa1 := hA.free 1
    obtain ⟨c0, c1, c2, c3, c4, c5, c6⟩ := hB.cells7s
    obtain ⟨f0, f1, f2, f3, f4, f5, f6⟩ := hB.free7s
    have hb9 := (hbel.setCell (p := ⟨w.heap.size, 0, none⟩) (Nat.le_refl _) (.int .i64 a)).setCell (p := ⟨w.heap.size, 1, none⟩) (Nat.le_refl _) (.string (strS (s.inter ++ [k])))
    have hX := ((hB.far (p := ⟨w.heap.size, 0, none⟩) (by simp) (.int .i64 a)).far (p := ⟨w.heap.size, 1, none⟩) (by simp) (.string (strS (s.inter ++ [k])))).sto7 hb9 (by omega) (.int .i64 a) (.string (strS (s.inter ++ [k]))) (.bool s.over) (.slice A n c) (.bool s.par.o) (.string (strS s.text)) (.int .u8 (s.kind : Int))
    have HX := Lib.hid hX
    have z2 : ((strS s.inter).size == 2) = false := by rw [hl]; exact beq_eq_false_iff_ne.2 h2
    have zs : ¬ ((strS s.inter).size + (strS [k]).size > 9223372036854775807) := by rw [hl, strS_size]; simp; omega
    have hv1 := fun V => (rune_c hk V).1
    have hv2 := fun V => (rune_c hk V).2
    have HT := Lib.hid (strS_append s.inter [k])
    rw [strS_append] at HX
    generalize strS [k] = T at *
    clear hX hA hB hb9 hbel h2 hs hk hl
    go_wp2_with fail
    exact bodyPost_ret (ret_s1 rfl { s with at_ := a, inter := s.inter ++ [k] } A n c _ _ (w.heap.size + 1) _ rfl (by unfold stCells; simp only; rw [HT.out]; exact HX.out.1)) rfl ⟨rfl, HX.out.2⟩
end Go.Proofs.YtiaippdaogmcmaaDoor
