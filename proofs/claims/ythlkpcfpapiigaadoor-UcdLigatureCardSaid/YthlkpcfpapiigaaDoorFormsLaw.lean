/- forms, by its contract: a text's forms, as rows of three numbers. -/
import Derived.Test.YthlkpcfpapiigaaDoorPairsLaw
namespace Go.Proofs.YthlkpcfpapiigaaDoor
open Go Go.RowKit
set_option linter.unusedVariables false
set_option linter.unusedSimpArgs false

def formF : List ByteArray → R3
  | [a, b, c] => ⟨hexI a, hexI b, hexI c⟩
  | _ => ⟨0, 0, 0⟩
def formOkB : List ByteArray → Bool
  | [a, b, c] => wordB a.data.toList && (wordB b.data.toList && wordB c.data.toList)
  | _ => false
theorem formOk_form {ws : List ByteArray} (h : formOkB ws = true) : ∃ a b c, ws = [a, b, c] ∧ wordB a.data.toList = true ∧ wordB b.data.toList = true ∧ wordB c.data.toList = true := by
  match ws, h with
  | [], h => cases h
  | [_], h => cases h
  | [_, _], h => cases h
  | [a, b, c], h =>
    simp only [formOkB, Bool.and_eq_true] at h
    exact ⟨a, b, c, rfl, h.1, h.2.1, h.2.2⟩
  | _ :: _ :: _ :: _ :: _, h => cases h
theorem infoForm : (Tryd.prog.info? 46).map (fun i => (i.zero, i.size, i.bytes)) = some (some (.agg #[.int .i64 0, .int .i64 0, .int .i64 0]), 3, 24) := by kernel_rfl

def FormsRet (w : World) (l : List R3) (e : Ending) (w' : World) : Prop :=
  ∃ A c, e = .returned (.slice A l.length c) ∧ Tab w' w'.heap.size A l ∧ Below w.heap.size w w' ∧ ∀ b o, A = some ⟨b, o, none⟩ → w.heap.size ≤ b

set_option maxRecDepth 100000 in
set_option maxHeartbeats 2000000 in
theorem forms_c (text : ByteArray) (w : World) (es : List (List ByteArray)) (rows : List R3)
    (hes : entF text = es) (hs : text.size < 4294967281) (hpn : (piecesF text).length ≤ 100000) (hp : ∀ s ∈ piecesF text, s.size ≤ 4294967296)
    (hok : ∀ ws ∈ es, formOkB ws = true) (hrows : es.map formF = rows) (hrn : rows.length ≤ 1000) :
    Calls Tryd.prog 20 #[.string text] w (FormsRet w rows) := by
  obtain ⟨i0, hi, hz0, hz1, hz2⟩ := info_parts infoForm
  have HR := Lib.hid hrows
  have HO := Lib.hid hok
  have hel : es.length ≤ rows.length := by rw [← hrows, List.length_map]; exact Nat.le_refl _
  have hel' : rows.length ≤ es.length := by rw [← hrows, List.length_map]; exact Nat.le_refl _
  clear hrows hok
  have hent : ∀ W : World, Calls Tryd.prog 27 #[.string text] W (EntRet W es) := fun W => by rw [← hes]; exact entries_c text W hs hpn hp
  clear hes hs hpn hp
  go_enter Tryd.func20, Tryd.ntmps20
  go_wp2_with fail
  refine (hent _).mono ?_
  rintro e w2 ⟨A2, c2, rfl, hE, hb2⟩
  clear hent
  go_wp2_with fail
  go_loopw [3, 9] (fun v i wr => ∃ (k n : Nat), k ≤ es.length ∧ i = .int .i64 k ∧ wr.ownsRow w2.heap.size 46 3 v n (flat (rows.take k)) ∧ Below w2.heap.size w2 wr) (fun _ i _ => es.length - (intOf i).toNat)
  case atStart => exact ⟨0, 0, Nat.zero_le _, rfl, World.ownsRow_nil _ _ _ _, Below.refl _ _⟩
  case round =>
    obtain ⟨k, n, hk, rfl, hown, hbel⟩ := hrel
    by_cases hlt : k < es.length
    · have hg : es[k]? = some es[k] := List.getElem?_eq_getElem hlt
      have hg' : rows[k]? = some (formF es[k]) := by rw [← HR.out, List.getElem?_map, hg]; rfl
      have ht : rows.take (k + 1) = rows.take k ++ [formF es[k]] := take_snoc hg'
      have hrok := HO.out es[k] (List.getElem_mem _)
      have HT := Lib.hid ht
      generalize es[k] = ws at *
      obtain ⟨x, y, z, rfl, hx, hy, hz⟩ := formOk_form hrok
      obtain ⟨g, b, rfl, hgl, hcell, hsa⟩ := hE.at_ hg
      have hcw : wr.cell? ⟨g, k, none⟩ = some (.slice (some ⟨b, 0, none⟩) 3 3) := (hbel.cell (by exact hgl)).trans hcell
      have hlen : (rows.take k).length ≤ 1000 := by rw [List.length_take]; omega
      have hnl : n = (rows.take k).length := by have := hown.1; rw [flat_length] at this; omega
      have hn1000 : n ≤ 1000 := by omega
      clear hnl hlen hrok
      obtain ⟨A', c', rfl, -⟩ := own_form2 hown
      have g0 := Ext.cell (B := w2.heap.size) (w := wr) (p := ⟨b, 0, none⟩) (by exact hsa.1) ((hbel.cell (by exact hsa.1)).trans (hsa.2 0 x rfl))
      have g1 := Ext.cell (B := w2.heap.size) (w := wr) (p := ⟨b, 1, none⟩) (by exact hsa.1) ((hbel.cell (by exact hsa.1)).trans (hsa.2 1 y rfl))
      have g2 := Ext.cell (B := w2.heap.size) (w := wr) (p := ⟨b, 2, none⟩) (by exact hsa.1) ((hbel.cell (by exact hsa.1)).trans (hsa.2 2 z rfl))
      have HE := Lib.hid hE
      have HP : formF [x, y, z] = ⟨hexI x, hexI y, hexI z⟩ := rfl
      rw [HP] at HT
      clear hg hg' ht hE hcell hsa HP
      go_wp2_with fail
      refine region_plan [([0, 1, 2, 3, 5, 6, 7, 9, 10, 11], [4, 8, 12]), ([13], [14, 15]), ([16], [])] (fun w' => ∃ u : Ext wr w2.heap.size, w' = u.val) (by kernel_rfl) (by kernel_rfl) (fun _ _ _ _ _ h => h) ⟨⟨_, (Below.refl _ _).drew⟩, rfl⟩ ?_
      simp only [wpPlan, sel, List.take_succ_cons, List.take_zero, List.drop_succ_cons, List.drop_zero, List.cons_append, List.nil_append]
      repeat (go_big_quiet_step (fail))
      refine wpQuiet_nil ?_
      unfold wpChain
      go_wp2_with fail
      clear g0 g1 g2 hcw
      refine (hexI_c x hx _).mono ?_
      rintro e w3 ⟨rfl, hb3⟩
      have hS3 : Below wr.heap.size wr w3 := (Below.refl _ _).drew.trans hb3
      clear hb3
      go_wp2_with fail
      refine ⟨⟨⟨_, hS3.mono hbel.size⟩, rfl⟩, ?_⟩
      unfold wpChain
      go_wp2_with fail
      refine (hexI_c y hy _).mono ?_
      rintro e w4y ⟨rfl, hb4⟩
      have hS4y : Below wr.heap.size wr w4y := hS3.trans (hb4.mono hS3.size)
      clear hb4 hS3
      go_wp2_with fail
      refine ⟨⟨⟨_, hS4y.mono hbel.size⟩, rfl⟩, ?_⟩
      unfold wpChain
      go_wp2_with fail
      refine (hexI_c z hz _).mono ?_
      rintro e w4 ⟨rfl, hb4⟩
      have hS4 : Below wr.heap.size wr w4 := hS4y.trans (hb4.mono hS4y.size)
      clear hb4 hS4y
      go_wp2_with fail
      refine ⟨⟨⟨_, hS4.mono hbel.size⟩, rfl⟩, ?_⟩
      unfold wpChain
      repeat (go_big_quiet_step (fail))
      refine wpQuiet_nil ?_
      unfold wpChain
      go_wp2_with fail
      have hbel4 : Below w2.heap.size w2 w4 := hbel.trans (hS4.mono hbel.size)
      have hz4 := hbel4.size
      have hw4 : Below w2.heap.size wr w4 := hS4.mono hbel.size
      have hzr := hbel.size
      refine ⟨⟨⟨_, hw4.alloc hbel4.size _⟩, rfl⟩, ?_⟩
      unfold wpChain
      have hown4 := own_below hown hS4
      clear hS4 hown
      go_wp2_with (at_builtin; refine wpList_append_own _ rfl _ _ 27 rfl w2.heap.size 46 i0 _ 3 24 Tryd.underlying27 hi hz0 hz1 hz2 rfl (by decide) _ _ _ rfl (hown4.alloc _) ⟨w4.heap.size, 0, none⟩ 1 1 (rowCells ⟨hexI x, hexI y, hexI z⟩) rfl rfl (news w4 46 ⟨hexI x, hexI y, hexI z⟩) (row_one _) (by unfold maxLen; omega) (by omega) (by simp; omega) ?_; intro v' w5 hown5 hgrow _)
      have hown6 : w5.ownsRow w2.heap.size 46 3 v' (n + 1) (flat (rows.take (k + 1))) := by rw [HT.out, flat_snoc]; exact hown5
      have hbel5 : Below w2.heap.size w2 w5 := (hbel4.alloc hz4 _).grown hgrow (by simp; omega) (fun j hj => (hown4.lt j hj).1)
      have hw5 : Below w2.heap.size wr w5 := (hw4.alloc hz4 _).grown hgrow (by simp; omega) (fun j hj => (hown4.lt j hj).1)
      clear hown5 hgrow hown4 hw4 hbel4
      refine ⟨⟨⟨_, hw5⟩, rfl⟩, ?_⟩
      unfold wpChain
      repeat (go_big_quiet_step (fail))
      refine wpQuiet_nil ?_
      unfold wpChain
      clear hw5
      go_wp2
      exact ⟨⟨k + 1, _, by omega, by go_num, hown6, hbel5⟩, by simp [intOf]; omega⟩
    · have hkl : k = es.length := by omega
      rw [List.take_of_length_le (by omega)] at hown
      have hel3 : rows.length = es.length := by omega
      have hnl : n = rows.length := by have := hown.1; rw [flat_length] at this; omega
      subst hnl
      obtain ⟨A', c', rfl, hc'⟩ := own_form2 hown
      have hret : FormsRet w rows (.returned (.slice A' rows.length c')) wr := ⟨A', c', rfl, Tab.of_own hown, hb2.trans (hbel.mono hb2.size), fun b o e => by
        subst e
        exact Nat.le_trans hb2.size (hown.lt b rfl).1⟩
      have HRet := Lib.hid hret
      clear hE hown hret hel3
      go_wp2
      go_ret
      exact HRet.out
end Go.Proofs.YthlkpcfpapiigaaDoor
