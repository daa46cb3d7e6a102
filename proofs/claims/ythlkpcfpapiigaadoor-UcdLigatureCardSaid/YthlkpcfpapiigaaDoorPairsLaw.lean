/- pairs, by its contract: a text's pairs. -/
import Derived.Test.YthlkpcfpapiigaaDoorTableLaw
namespace Go.Proofs.YthlkpcfpapiigaaDoor
open Go Go.RowKit
set_option linter.unusedVariables false
set_option linter.unusedSimpArgs false

structure P2 where
  a : Int
  b : Int
def pairF : List ByteArray → P2
  | [a, b] => ⟨hexI a, hexI b⟩
  | _ => ⟨0, 0⟩
def pairOkB : List ByteArray → Bool
  | [a, b] => wordB a.data.toList && wordB b.data.toList
  | _ => false
theorem pairOk_form {ws : List ByteArray} (h : pairOkB ws = true) : ∃ a b, ws = [a, b] ∧ wordB a.data.toList = true ∧ wordB b.data.toList = true := by
  match ws, h with
  | [], h => cases h
  | [_], h => cases h
  | [a, b], h =>
    simp only [pairOkB, Bool.and_eq_true] at h
    exact ⟨a, b, rfl, h.1, h.2⟩
  | _ :: _ :: _ :: _, h => cases h

def pairCells (r : P2) : List Value := [.int .i64 r.a, .int .i64 r.b]
def flat2 (l : List P2) : List Value := l.flatMap pairCells
theorem flat2_length (l : List P2) : (flat2 l).length = l.length * 2 := by
  induction l with
  | nil => rfl
  | cons x l ih => simp [flat2, pairCells] at ih ⊢; omega
theorem flat2_snoc (l : List P2) (x : P2) : flat2 (l ++ [x]) = flat2 l ++ pairCells x := by simp [flat2]
theorem flat2_at {l : List P2} {k : Nat} {x : P2} (h : l[k]? = some x) (j : Nat) (hj : j < 2) : (flat2 l)[k * 2 + j]? = (pairCells x)[j]? := by
  induction l generalizing k with
  | nil => simp at h
  | cons y l ih =>
    have e : flat2 (y :: l) = pairCells y ++ flat2 l := by simp [flat2]
    rw [e]
    cases k with
    | zero =>
      simp at h; subst h
      rw [List.getElem?_append_left (by simp [pairCells]; omega)]
      simp
    | succ k =>
      simp at h
      rw [List.getElem?_append_right (by simp [pairCells]; omega), ← ih h]
      congr 1
      simp [pairCells]; omega
theorem news2 (w : World) (t : TypeId) (x : P2) : ∀ j u, (pairCells x)[j]? = some u → (w.alloc (.cells #[.int .i64 x.a, .int .i64 x.b] t)).cell? ((⟨w.heap.size, 0, none⟩ : Addr).add j) = some u := by
  intro j u hj
  have e : (⟨w.heap.size, 0, none⟩ : Addr).add j = ⟨w.heap.size, j, none⟩ := by unfold Addr.add; split <;> simp_all
  rw [e, cell_of_row _ _ _ _ _ _ (heap_alloc_new w _)]
  simpa [pairCells] using hj
theorem pair_one (x : P2) : ∀ u ∈ pairCells x, u.oneCell' = true := by
  intro u hu; simp [pairCells] at hu; rcases hu with rfl | rfl <;> rfl
theorem own_form2 {w : World} {base : Nat} {e : TypeId} {size : Nat} {v : Value} {n : Nat} {xs : List Value} (h : w.ownsRow base e size v n xs) : ∃ A c, v = .slice A n c ∧ n ≤ c := by
  rcases h.2 with ⟨rfl, rfl⟩ | ⟨g, cap, cur, rfl, _, _, h, _⟩
  · exact ⟨none, 0, rfl, Nat.le_refl _⟩
  · exact ⟨_, _, rfl, h⟩

def At2 (w : World) (b o k : Nat) (r : P2) : Prop :=
  w.cell? ⟨b, o + k*2, none⟩ = some (.int .i64 r.a) ∧ w.cell? ⟨b, o + k*2 + 1, none⟩ = some (.int .i64 r.b)
def Tab2 (w : World) (B : Nat) (A : Option Addr) (l : List P2) : Prop :=
  l ≠ [] → ∃ b o, A = some ⟨b, o, none⟩ ∧ b < B ∧ ∀ k x, l[k]? = some x → At2 w b o k x
theorem At2.below {w w' : World} {B b o k : Nat} {r : P2} (h : At2 w b o k r) (hb : Below B w w') (hl : b < B) : At2 w' b o k r :=
  ⟨(hb.cell (by exact hl)).trans h.1, (hb.cell (by exact hl)).trans h.2⟩
theorem Tab2.below {w w' : World} {B : Nat} {A : Option Addr} {l : List P2} (h : Tab2 w B A l) (hb : Below B w w') : Tab2 w' B A l := fun hl => by
  obtain ⟨b, o, e, hB, hc⟩ := h hl
  exact ⟨b, o, e, hB, fun k x hx => (hc k x hx).below hb hB⟩
theorem Tab2.more {w : World} {B B' : Nat} {A : Option Addr} {l : List P2} (h : Tab2 w B A l) (hb : B ≤ B') : Tab2 w B' A l := fun hl => by
  obtain ⟨b, o, e, hB, hc⟩ := h hl
  exact ⟨b, o, e, by omega, hc⟩
theorem Tab2.at_ {w : World} {B : Nat} {A : Option Addr} {l : List P2} {k : Nat} {x : P2} (h : Tab2 w B A l) (hx : l[k]? = some x) : ∃ b o, A = some ⟨b, o, none⟩ ∧ b < B ∧ At2 w b o k x := by
  obtain ⟨b, o, e, hB, hc⟩ := h (by rintro rfl; simp at hx)
  exact ⟨b, o, e, hB, hc k x hx⟩
theorem Tab2.of_own {w : World} {base : Nat} {e : TypeId} {A : Option Addr} {n c : Nat} {l : List P2} (h : w.ownsRow base e 2 (.slice A n c) n (flat2 l)) : Tab2 w w.heap.size A l := fun hl => by
  obtain ⟨x, t, rfl⟩ := List.exists_cons_of_ne_nil hl
  rcases h.2 with ⟨hv, hn⟩ | ⟨g, cap, cur, hv, hb, hg, hnc, hcm, hcs, ht⟩
  · have := h.1; subst hn; simp [flat2, pairCells] at this
  · injection hv with h1 h2 h3
    subst h1
    refine ⟨g, 0, rfl, (Array.getElem?_eq_some_iff.1 hg).1, fun k y hy => ?_⟩
    have key : ∀ j, j < 2 → w.cell? ⟨g, 0 + k * 2 + j, none⟩ = (pairCells y)[j]? := fun j hj => by
      have hfa := flat2_at hy j hj
      have hin : (pairCells y)[j]? = some ((pairCells y)[j]'(by simp [pairCells]; omega)) := List.getElem?_eq_getElem _
      rw [hin] at hfa ⊢
      have := h.cells (g := g) rfl (k * 2 + j) _ hfa
      rw [← this]
      congr 1
      unfold Addr.add; split <;> simp_all <;> omega
    exact ⟨by simpa [pairCells] using key 0 (by omega), by simpa [pairCells] using key 1 (by omega)⟩
theorem infoPair : (Tryd.prog.info? 63).map (fun i => (i.zero, i.size, i.bytes)) = some (some (.agg #[.int .i64 0, .int .i64 0]), 2, 16) := by kernel_rfl

def PairsRet (w : World) (l : List P2) (e : Ending) (w' : World) : Prop :=
  ∃ A c, e = .returned (.slice A l.length c) ∧ Tab2 w' w'.heap.size A l ∧ Below w.heap.size w w' ∧ ∀ b o, A = some ⟨b, o, none⟩ → w.heap.size ≤ b

set_option maxRecDepth 100000 in
set_option maxHeartbeats 2000000 in
theorem pairs_c (text : ByteArray) (w : World) (es : List (List ByteArray)) (rows : List P2)
    (hes : entF text = es) (hs : text.size < 4294967281) (hpn : (piecesF text).length ≤ 100000) (hp : ∀ s ∈ piecesF text, s.size ≤ 4294967296)
    (hok : ∀ ws ∈ es, pairOkB ws = true) (hrows : es.map pairF = rows) (hrn : rows.length ≤ 1000) :
    Calls Tryd.prog 19 #[.string text] w (PairsRet w rows) := by
  obtain ⟨i0, hi, hz0, hz1, hz2⟩ := info_parts infoPair
  have HR := Lib.hid hrows
  have HO := Lib.hid hok
  have hel : es.length ≤ rows.length := by rw [← hrows, List.length_map]; exact Nat.le_refl _
  have hel' : rows.length ≤ es.length := by rw [← hrows, List.length_map]; exact Nat.le_refl _
  clear hrows hok
  have hent : ∀ W : World, Calls Tryd.prog 27 #[.string text] W (EntRet W es) := fun W => by rw [← hes]; exact entries_c text W hs hpn hp
  clear hes hs hpn hp
  go_enter Tryd.func19, Tryd.ntmps19
  go_wp2_with fail
  refine (hent _).mono ?_
  rintro e w2 ⟨A2, c2, rfl, hE, hb2⟩
  clear hent
  go_wp2_with fail
  go_loopw [3, 9] (fun v i wr => ∃ (k n : Nat), k ≤ es.length ∧ i = .int .i64 k ∧ wr.ownsRow w2.heap.size 63 2 v n (flat2 (rows.take k)) ∧ Below w2.heap.size w2 wr) (fun _ i _ => es.length - (intOf i).toNat)
  case atStart => exact ⟨0, 0, Nat.zero_le _, rfl, World.ownsRow_nil _ _ _ _, Below.refl _ _⟩
  case round =>
    obtain ⟨k, n, hk, rfl, hown, hbel⟩ := hrel
    by_cases hlt : k < es.length
    · have hg : es[k]? = some es[k] := List.getElem?_eq_getElem hlt
      have hg' : rows[k]? = some (pairF es[k]) := by rw [← HR.out, List.getElem?_map, hg]; rfl
      have ht : rows.take (k + 1) = rows.take k ++ [pairF es[k]] := take_snoc hg'
      have hrok := HO.out es[k] (List.getElem_mem _)
      have HT := Lib.hid ht
      generalize es[k] = ws at *
      obtain ⟨x, y, rfl, hx, hy⟩ := pairOk_form hrok
      obtain ⟨g, b, rfl, hgl, hcell, hsa⟩ := hE.at_ hg
      have hcw : wr.cell? ⟨g, k, none⟩ = some (.slice (some ⟨b, 0, none⟩) 2 2) := (hbel.cell (by exact hgl)).trans hcell
      have hlen : (rows.take k).length ≤ 1000 := by rw [List.length_take]; omega
      have hnl : n = (rows.take k).length := by have := hown.1; rw [flat2_length] at this; omega
      have hn1000 : n ≤ 1000 := by omega
      clear hnl hlen hrok
      obtain ⟨A', c', rfl, -⟩ := own_form2 hown
      have g0 := Ext.cell (B := w2.heap.size) (w := wr) (p := ⟨b, 0, none⟩) (by exact hsa.1) ((hbel.cell (by exact hsa.1)).trans (hsa.2 0 x rfl))
      have g1 := Ext.cell (B := w2.heap.size) (w := wr) (p := ⟨b, 1, none⟩) (by exact hsa.1) ((hbel.cell (by exact hsa.1)).trans (hsa.2 1 y rfl))
      have HE := Lib.hid hE
      have HP : pairF [x, y] = ⟨hexI x, hexI y⟩ := rfl
      rw [HP] at HT
      clear hg hg' ht hE hcell hsa HP
      go_wp2_with fail
      refine region_plan [([0, 1, 2, 3, 5, 6, 7], [4, 8]), ([9], [10, 11]), ([12], [])] (fun w' => ∃ u : Ext wr w2.heap.size, w' = u.val) (by kernel_rfl) (by kernel_rfl) (fun _ _ _ _ _ h => h) ⟨⟨_, (Below.refl _ _).drew⟩, rfl⟩ ?_
      simp only [wpPlan, sel, List.take_succ_cons, List.take_zero, List.drop_succ_cons, List.drop_zero, List.cons_append, List.nil_append]
      repeat (go_big_quiet_step (fail))
      refine wpQuiet_nil ?_
      unfold wpChain
      go_wp2_with fail
      clear g0 g1 hcw
      refine (hexI_c x hx _).mono ?_
      rintro e w3 ⟨rfl, hb3⟩
      have hS3 : Below wr.heap.size wr w3 := (Below.refl _ _).drew.trans hb3
      clear hb3
      go_wp2_with fail
      refine ⟨⟨⟨_, hS3.mono hbel.size⟩, rfl⟩, ?_⟩
      unfold wpChain
      go_wp2_with fail
      refine (hexI_c y hy _).mono ?_
      rintro e w4 ⟨rfl, hb4⟩
      have hS4 : Below wr.heap.size wr w4 := hS3.trans (hb4.mono hS3.size)
      clear hb4 hS3
      go_wp2_with fail
      refine ⟨⟨⟨_, hS4.mono hbel.size⟩, rfl⟩, ?_⟩
      unfold wpChain
      repeat (go_big_quiet_step (fail))
      refine wpQuiet_nil ?_
      unfold wpChain
      go_wp2_with fail
      have hbel4 : Below w2.heap.size w2 w4 := hbel.trans (hS4.mono hbel.size)
      have hz4 := hbel4.size
      have hw4 : Below w2.heap.size wr w4 := hS4.mono hbel.size
      have hzr := hbel.size
      refine ⟨⟨⟨_, hw4.alloc hbel4.size _⟩, rfl⟩, ?_⟩
      unfold wpChain
      have hown4 := own_below hown hS4
      clear hS4 hown
      go_wp2_with (at_builtin; refine wpList_append_own _ rfl _ _ 26 rfl w2.heap.size 63 i0 _ 2 16 Tryd.underlying26 hi hz0 hz1 hz2 rfl (by decide) _ _ _ rfl (hown4.alloc _) ⟨w4.heap.size, 0, none⟩ 1 1 (pairCells ⟨hexI x, hexI y⟩) rfl rfl (news2 w4 63 ⟨hexI x, hexI y⟩) (pair_one _) (by unfold maxLen; omega) (by omega) (by simp; omega) ?_; intro v' w5 hown5 hgrow _)
      have hown6 : w5.ownsRow w2.heap.size 63 2 v' (n + 1) (flat2 (rows.take (k + 1))) := by rw [HT.out, flat2_snoc]; exact hown5
      have hbel5 : Below w2.heap.size w2 w5 := (hbel4.alloc hz4 _).grown hgrow (by simp; omega) (fun j hj => (hown4.lt j hj).1)
      have hw5 : Below w2.heap.size wr w5 := (hw4.alloc hz4 _).grown hgrow (by simp; omega) (fun j hj => (hown4.lt j hj).1)
      clear hown5 hgrow hown4 hw4 hbel4
      refine ⟨⟨⟨_, hw5⟩, rfl⟩, ?_⟩
      unfold wpChain
      repeat (go_big_quiet_step (fail))
      refine wpQuiet_nil ?_
      unfold wpChain
      clear hw5
      go_wp2
      exact ⟨⟨k + 1, _, by omega, by go_num, hown6, hbel5⟩, by simp [intOf]; omega⟩
    · have hkl : k = es.length := by omega
      rw [List.take_of_length_le (by omega)] at hown
      have hel3 : rows.length = es.length := by omega
      have hnl : n = rows.length := by have := hown.1; rw [flat2_length] at this; omega
      subst hnl
      obtain ⟨A', c', rfl, hc'⟩ := own_form2 hown
      have hret : PairsRet w rows (.returned (.slice A' rows.length c')) wr := ⟨A', c', rfl, Tab2.of_own hown, hb2.trans (hbel.mono hb2.size), fun b o e => by
        subst e
        exact Nat.le_trans hb2.size (hown.lt b rfl).1⟩
      have HRet := Lib.hid hret
      clear hE hown hret hel3
      go_wp2
      go_ret
      exact HRet.out
end Go.Proofs.YthlkpcfpapiigaaDoor
