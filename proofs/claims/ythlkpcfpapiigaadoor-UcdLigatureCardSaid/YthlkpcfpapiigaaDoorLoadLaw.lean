/- Load, by its contract: the document's tables. -/
import Derived.Test.YthlkpcfpapiigaaDoorLoadData
namespace Go.Proofs.YthlkpcfpapiigaaDoor
open Go Go.RowKit
set_option linter.unusedVariables false
set_option linter.unusedSimpArgs false

theorem tbl_c (f : Func) (i : Nat) (rows : List R3) (W : World) (h1 : asciiB (txt f i 0).data.toList = true) (h2 : asciiB (txt f i 1).data.toList = true)
    (h3 : decide ((txt f i 0).data.toList.length < 100000 ∧ (txt f i 1).data.toList.length < 100000 ∧ (fieldsF (txt f i 1)).length ≤ 1000) = true)
    (h4 : decide ((cutL (txt f i 0).data.toList).length ≤ 1000) = true) (h5 : (entL (txt f i 0).data.toList).all (fun ws => rowOkB (fieldsF (txt f i 1)) (ws.map toBA)) = true)
    (h6 : (entL (txt f i 0).data.toList).map (fun ws => rowF (fieldsF (txt f i 1)) (ws.map toBA)) = rows) (h7 : riseF (-1) rows = true) (h8 : joinF rows = rows)
    (htab : Lib.TabIs Tryd.prog W "strings.asciiSpace" .u8 Lib.asciiSpaceTab) :
    Calls Tryd.prog 18 #[.string (txt f i 0), .string (txt f i 1)] W (TabRet W rows) := by
  simp only [decide_eq_true_eq] at h3 h4
  have a1 := ascii_all h1
  have a2 := ascii_all h2
  have s1 := Lib.size_eq (txt f i 0)
  have s2 := Lib.size_eq (txt f i 1)
  have hp := pieces_size (txt f i 0)
  have hl := pieces_len (txt f i 0)
  have c := table_c (txt f i 0) (txt f i 1) W _ _ rows (ent_cut _ a1) (by omega) (by omega) (fun q hq => by have := hp q hq; omega) rfl (by omega) a2 h3.2.2
    (fun ws hw => by
      obtain ⟨q, hq, rfl⟩ := List.mem_map.1 hw
      rw [List.all_eq_true] at h5
      exact h5 q hq)
    (by rw [List.map_map]; exact h6) (by rw [← h6, List.length_map]; unfold entL; rw [List.length_map]; exact h4) h7 htab
  rw [h8] at c
  exact c
theorem prs_c (f : Func) (i : Nat) (rows : List P2) (W : World) (h1 : asciiB (txt f i 0).data.toList = true)
    (h3 : decide ((txt f i 0).data.toList.length < 100000) = true)
    (h4 : decide ((cutL (txt f i 0).data.toList).length ≤ 1000) = true) (h5 : (entL (txt f i 0).data.toList).all (fun ws => pairOkB (ws.map toBA)) = true)
    (h6 : (entL (txt f i 0).data.toList).map (fun ws => pairF (ws.map toBA)) = rows) :
    Calls Tryd.prog 19 #[.string (txt f i 0)] W (PairsRet W rows) := by
  simp only [decide_eq_true_eq] at h3 h4
  have a1 := ascii_all h1
  have s1 := Lib.size_eq (txt f i 0)
  have hp := pieces_size (txt f i 0)
  have hl := pieces_len (txt f i 0)
  exact pairs_c (txt f i 0) W _ rows (ent_cut _ a1) (by omega) (by omega) (fun q hq => by have := hp q hq; omega)
    (fun ws hw => by
      obtain ⟨q, hq, rfl⟩ := List.mem_map.1 hw
      rw [List.all_eq_true] at h5
      exact h5 q hq)
    (by rw [List.map_map]; exact h6) (by rw [← h6, List.length_map]; unfold entL; rw [List.length_map]; exact h4)
theorem frm_c (f : Func) (i : Nat) (rows : List R3) (W : World) (h1 : asciiB (txt f i 0).data.toList = true)
    (h3 : decide ((txt f i 0).data.toList.length < 100000) = true)
    (h4 : decide ((cutL (txt f i 0).data.toList).length ≤ 1000) = true) (h5 : (entL (txt f i 0).data.toList).all (fun ws => formOkB (ws.map toBA)) = true)
    (h6 : (entL (txt f i 0).data.toList).map (fun ws => formF (ws.map toBA)) = rows) :
    Calls Tryd.prog 20 #[.string (txt f i 0)] W (FormsRet W rows) := by
  simp only [decide_eq_true_eq] at h3 h4
  have a1 := ascii_all h1
  have s1 := Lib.size_eq (txt f i 0)
  have hp := pieces_size (txt f i 0)
  have hl := pieces_len (txt f i 0)
  exact forms_c (txt f i 0) W _ rows (ent_cut _ a1) (by omega) (by omega) (fun q hq => by have := hp q hq; omega)
    (fun ws hw => by
      obtain ⟨q, hq, rfl⟩ := List.mem_map.1 hw
      rw [List.all_eq_true] at h5
      exact h5 q hq)
    (by rw [List.map_map]; exact h6) (by rw [← h6, List.length_map]; unfold entL; rw [List.length_map]; exact h4)

def Spc (w : World) : Prop := Lib.TabIs Tryd.prog w "strings.asciiSpace" .u8 Lib.asciiSpaceTab
theorem Spc.later {w w' : World} (h : Spc w) (hb : Below w.heap.size w w') : Spc w' := Joins.tab_stays (g := 0) (by kernel_rfl) h hb (Nat.le_refl _)

/-- Where the six tables lie. -/
structure DataAt (w : World) (A1 A2 A3 A4 A5 A6 : Option Addr) : Prop where
  t1 : Tab w w.heap.size A1 classRows
  t2 : Tab w w.heap.size A2 wideRows
  t3 : Tab w w.heap.size A3 joinRows
  t4 : Tab2 w w.heap.size A4 mirrorRows
  t5 : Tab2 w w.heap.size A5 bracketRows
  t6 : Tab w w.heap.size A6 formRows
theorem Tab2.setCell {w : World} {B : Nat} {A : Option Addr} {l : List P2} (h : Tab2 w B A l) {p : Addr} (u : Value) (hp : ∀ b o, A = some ⟨b, o, none⟩ → b ≠ p.block) : Tab2 (w.setCell p u) B A l := fun hl => by
  obtain ⟨b, o, e, hB, hc⟩ := h hl
  have hne := hp b o e
  have keep : ∀ i, (w.setCell p u).cell? ⟨b, i, none⟩ = w.cell? ⟨b, i, none⟩ := fun i => World.cell?_setCell_other w p _ u (fun e => hne (by rw [e]))
  exact ⟨b, o, e, hB, fun k x hx => ⟨(keep _).trans (hc k x hx).1, (keep _).trans (hc k x hx).2⟩⟩
theorem Tab.later {w w' : World} {A : Option Addr} {l : List R3} (h : Tab w w.heap.size A l) (hb : Below w.heap.size w w') : Tab w' w'.heap.size A l := (h.below hb).more hb.size
theorem Tab2.later {w w' : World} {A : Option Addr} {l : List P2} (h : Tab2 w w.heap.size A l) (hb : Below w.heap.size w w') : Tab2 w' w'.heap.size A l := (h.below hb).more hb.size
theorem DataAt.later {w w' : World} {A1 A2 A3 A4 A5 A6 : Option Addr} (h : DataAt w A1 A2 A3 A4 A5 A6) (hb : Below w.heap.size w w') : DataAt w' A1 A2 A3 A4 A5 A6 :=
  ⟨h.t1.later hb, h.t2.later hb, h.t3.later hb, h.t4.later hb, h.t5.later hb, h.t6.later hb⟩
def dataV (A1 A2 A3 A4 A5 A6 : Option Addr) (c1 c2 c3 c4 c5 c6 : Nat) : Value :=
  .agg #[.slice A1 classRows.length c1, .slice A2 wideRows.length c2, .slice A3 joinRows.length c3, .slice A4 mirrorRows.length c4, .slice A5 bracketRows.length c5, .slice A6 formRows.length c6]
def LoadRet (w : World) (e : Ending) (w' : World) : Prop :=
  ∃ A1 A2 A3 A4 A5 A6 c1 c2 c3 c4 c5 c6, e = .returned (dataV A1 A2 A3 A4 A5 A6 c1 c2 c3 c4 c5 c6) ∧ DataAt w' A1 A2 A3 A4 A5 A6 ∧ Below w.heap.size w w'

theorem e0_c (W : World) (hW : Spc W) : Calls Tryd.prog 18 #[.string (txt Tryd.f9 0 0), .string (txt Tryd.f9 0 1)] W (TabRet W classRows) := tbl_c Tryd.f9 0 classRows W t0_ascii t0_names t0_size t0_cut t0_ok t0_rows class_rise class_join hW
theorem e1_c (W : World) (hW : Spc W) : Calls Tryd.prog 18 #[.string (txt Tryd.f9 1 0), .string (txt Tryd.f9 1 1)] W (TabRet W wideRows) := tbl_c Tryd.f9 1 wideRows W t1_ascii t1_names t1_size t1_cut t1_ok t1_rows wide_rise wide_join hW
theorem e2_c (W : World) (hW : Spc W) : Calls Tryd.prog 18 #[.string (txt Tryd.f9 2 0), .string (txt Tryd.f9 2 1)] W (TabRet W joinRows) := tbl_c Tryd.f9 2 joinRows W t2_ascii t2_names t2_size t2_cut t2_ok t2_rows join_rise join_join hW
theorem e3_c (W : World) : Calls Tryd.prog 19 #[.string (txt Tryd.f9 3 0)] W (PairsRet W mirrorRows) := prs_c Tryd.f9 3 mirrorRows W t3_ascii t3_size t3_cut t3_ok t3_rows
theorem e4_c (W : World) : Calls Tryd.prog 19 #[.string (txt Tryd.f9 4 0)] W (PairsRet W bracketRows) := prs_c Tryd.f9 4 bracketRows W t4_ascii t4_size t4_cut t4_ok t4_rows
theorem e5_c (W : World) : Calls Tryd.prog 20 #[.string (txt Tryd.f9 5 0)] W (FormsRet W formRows) := frm_c Tryd.f9 5 formRows W t5_ascii t5_size t5_cut t5_ok t5_rows

set_option maxRecDepth 100000 in
set_option maxHeartbeats 4000000 in
theorem load_c (w : World) (hs : Spc w) : Calls Tryd.prog 9 #[] w (LoadRet w) := by
  go_enter Tryd.func9, Tryd.ntmps9
  go_wp2_with fail
  have hB := Box.new w 29 #[.slice none 0 0, .slice none 0 0, .slice none 0 0, .slice none 0 0, .slice none 0 0, .slice none 0 0]
  have hbel : Below w.heap.size w (w.alloc (.cells #[.slice none 0 0, .slice none 0 0, .slice none 0 0, .slice none 0 0, .slice none 0 0, .slice none 0 0] 29)) := (Below.refl _ _).alloc (Nat.le_refl _) _
  refine (e0_c _ (hs.later hbel)).mono ?_
  rintro e w1 ⟨A1, c1, rfl, h1, hb1, r1⟩
  have r1 : ∀ b o, A1 = some ⟨b, o, none⟩ → w.heap.size < b := fun b o e => by have := r1 b o e; have := hbel.size; omega
  have hB := hB.below hb1 hB.lt
  have hbel := hbel.trans (hb1.mono hbel.size)
  clear hb1
  go_wp2_with fail
  refine (e1_c _ (hs.later hbel)).mono ?_
  rintro e w2 ⟨A2, c2, rfl, h2, hb2, r2⟩
  have r2 : ∀ b o, A2 = some ⟨b, o, none⟩ → w.heap.size < b := fun b o e => by have := r2 b o e; have := hB.lt; omega
  have hB := hB.below hb2 hB.lt
  have hbel := hbel.trans (hb2.mono hbel.size)
  have h1 := h1.later hb2
  clear hb2
  go_wp2_with fail
  refine (e2_c _ (hs.later hbel)).mono ?_
  rintro e w3 ⟨A3, c3, rfl, h3, hb3, r3⟩
  have r3 : ∀ b o, A3 = some ⟨b, o, none⟩ → w.heap.size < b := fun b o e => by have := r3 b o e; have := hB.lt; omega
  have hB := hB.below hb3 hB.lt
  have hbel := hbel.trans (hb3.mono hbel.size)
  have h1 := h1.later hb3
  have h2 := h2.later hb3
  clear hb3
  go_wp2_with fail
  refine (e3_c _).mono ?_
  rintro e w4 ⟨A4, c4, rfl, h4, hb4, r4⟩
  have r4 : ∀ b o, A4 = some ⟨b, o, none⟩ → w.heap.size < b := fun b o e => by have := r4 b o e; have := hB.lt; omega
  have hB := hB.below hb4 hB.lt
  have hbel := hbel.trans (hb4.mono hbel.size)
  have h1 := h1.later hb4
  have h2 := h2.later hb4
  have h3 := h3.later hb4
  clear hb4
  go_wp2_with fail
  refine (e4_c _).mono ?_
  rintro e w5 ⟨A5, c5, rfl, h5, hb5, r5⟩
  have r5 : ∀ b o, A5 = some ⟨b, o, none⟩ → w.heap.size < b := fun b o e => by have := r5 b o e; have := hB.lt; omega
  have hB := hB.below hb5 hB.lt
  have hbel := hbel.trans (hb5.mono hbel.size)
  have h1 := h1.later hb5
  have h2 := h2.later hb5
  have h3 := h3.later hb5
  have h4 := h4.later hb5
  clear hb5
  go_wp2_with fail
  refine (e5_c _).mono ?_
  rintro e w6 ⟨A6, c6, rfl, h6, hb6, r6⟩
  have r6 : ∀ b o, A6 = some ⟨b, o, none⟩ → w.heap.size < b := fun b o e => by have := r6 b o e; have := hB.lt; omega
  have hB := hB.below hb6 hB.lt
  have hbel := hbel.trans (hb6.mono hbel.size)
  have h1 := h1.later hb6
  have h2 := h2.later hb6
  have h3 := h3.later hb6
  have h4 := h4.later hb6
  have h5 := h5.later hb6
  clear hb6
  have b0 := hB.cell 0
  have b1 := hB.cell 1
  have b2 := hB.cell 2
  have b3 := hB.cell 3
  have b4 := hB.cell 4
  have b5 := hB.cell 5
  have f0 := hB.free 0
  have f1 := hB.free 1
  have f2 := hB.free 2
  have f3 := hB.free 3
  have f4 := hB.free 4
  have f5 := hB.free 5
  have hD : Hid (∀ u0 u1 u2 u3 u4 u5, DataAt ((((((w6.setCell ⟨w.heap.size, 0, none⟩ u0).setCell ⟨w.heap.size, 1, none⟩ u1).setCell ⟨w.heap.size, 2, none⟩ u2).setCell ⟨w.heap.size, 3, none⟩ u3).setCell ⟨w.heap.size, 4, none⟩ u4).setCell ⟨w.heap.size, 5, none⟩ u5) A1 A2 A3 A4 A5 A6) := Lib.hid (by
    intro u0 u1 u2 u3 u4 u5
    have hd : DataAt w6 A1 A2 A3 A4 A5 A6 := ⟨h1, h2, h3, h4, h5, h6⟩
    have st : ∀ (V : World) (i : Nat) (u : Value), DataAt V A1 A2 A3 A4 A5 A6 → DataAt (V.setCell ⟨w.heap.size, i, none⟩ u) A1 A2 A3 A4 A5 A6 := fun V i u h => by
      have e : (V.setCell ⟨w.heap.size, i, none⟩ u).heap.size = V.heap.size := by simp [World.setCell]
      refine ⟨?_, ?_, ?_, ?_, ?_, ?_⟩
      · rw [e]; exact h.t1.setCell u (fun b o e => by have := r1 b o e; simp; omega)
      · rw [e]; exact h.t2.setCell u (fun b o e => by have := r2 b o e; simp; omega)
      · rw [e]; exact h.t3.setCell u (fun b o e => by have := r3 b o e; simp; omega)
      · rw [e]; exact h.t4.setCell u (fun b o e => by have := r4 b o e; simp; omega)
      · rw [e]; exact h.t5.setCell u (fun b o e => by have := r5 b o e; simp; omega)
      · rw [e]; exact h.t6.setCell u (fun b o e => by have := r6 b o e; simp; omega)
    exact st _ _ _ (st _ _ _ (st _ _ _ (st _ _ _ (st _ _ _ (st _ _ _ hd))))))
  have hbelF : Hid (∀ u0 u1 u2 u3 u4 u5, Below w.heap.size w ((((((w6.setCell ⟨w.heap.size, 0, none⟩ u0).setCell ⟨w.heap.size, 1, none⟩ u1).setCell ⟨w.heap.size, 2, none⟩ u2).setCell ⟨w.heap.size, 3, none⟩ u3).setCell ⟨w.heap.size, 4, none⟩ u4).setCell ⟨w.heap.size, 5, none⟩ u5)) := Lib.hid (fun u0 u1 u2 u3 u4 u5 =>
    (((((hbel.setCell (p := ⟨w.heap.size, 0, none⟩) (Nat.le_refl _) u0).setCell (p := ⟨w.heap.size, 1, none⟩) (Nat.le_refl _) u1).setCell (p := ⟨w.heap.size, 2, none⟩) (Nat.le_refl _) u2).setCell (p := ⟨w.heap.size, 3, none⟩) (Nat.le_refl _) u3).setCell (p := ⟨w.heap.size, 4, none⟩) (Nat.le_refl _) u4).setCell (p := ⟨w.heap.size, 5, none⟩) (Nat.le_refl _) u5)
  clear hB h1 h2 h3 h4 h5 h6 r1 r2 r3 r4 r5 r6 hbel
  go_wp2_with fail
  exact bodyPost_ret (v := dataV A1 A2 A3 A4 A5 A6 c1 c2 c3 c4 c5 c6) (by simp [results, Tryd.results9, go_sem, dataV, b0, b1, b2, b3, b4, b5]) rfl ⟨A1, A2, A3, A4, A5, A6, c1, c2, c3, c4, c5, c6, rfl, hD.out _ _ _ _ _ _, hbelF.out _ _ _ _ _ _⟩
end Go.Proofs.YthlkpcfpapiigaaDoor
