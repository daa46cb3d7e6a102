/- table, by its contract: a text's ranges, made a table. -/
import Derived.Test.YthlkpcfpapiigaaDoorRowLaw
import Derived.Test.YthlkpcfpapiigaaDoorEntries
import Derived.Test.YthlkpcfpapiigaaDoorRangC
namespace Go.Proofs.YthlkpcfpapiigaaDoor
open Go Go.RowKit
set_option linter.unusedVariables false
set_option linter.unusedSimpArgs false

def rowF (zs : List ByteArray) : List ByteArray → R3
  | [a, v] => ⟨hexI a, hexI a, Lib.idxOfS zs v + 1⟩
  | [a, b, v] => ⟨hexI a, hexI b, Lib.idxOfS zs v + 1⟩
  | _ => ⟨0, 0, 0⟩
def rowOkB (zs : List ByteArray) : List ByteArray → Bool
  | [a, v] => wordB a.data.toList && decide (0 ≤ Lib.idxOfS zs v ∧ Lib.idxOfS zs v ≤ 1000)
  | [a, b, v] => (wordB a.data.toList && wordB b.data.toList) && decide (0 ≤ Lib.idxOfS zs v ∧ Lib.idxOfS zs v ≤ 1000)
  | _ => false
theorem row_c (ws : List ByteArray) (bw bz : Nat) (zs : List ByteArray) (w : World) (hok : rowOkB zs ws = true) (h : SA w bw ws) (hz : SA w bz zs) (hn : zs.length ≤ 1000) :
    Calls Tryd.prog 28 #[.slice (some ⟨bw, 0, none⟩) ws.length ws.length, .slice (some ⟨bz, 0, none⟩) zs.length zs.length] w fun e w' => e = .returned (.agg #[.int .i64 (rowF zs ws).lo, .int .i64 (rowF zs ws).hi, .int .i64 (rowF zs ws).v]) ∧ Below w.heap.size w w' := by
  match ws, hok, h with
  | [], hok, _ => cases hok
  | [_], hok, _ => cases hok
  | [a, v], hok, h =>
    simp only [rowOkB, Bool.and_eq_true, decide_eq_true_eq] at hok
    exact row2_c a v bw bz zs w hok.1 h hz hn _ rfl hok.2.1 hok.2.2
  | [a, b, v], hok, h =>
    simp only [rowOkB, Bool.and_eq_true, decide_eq_true_eq] at hok
    exact row3_c a b v bw bz zs w hok.1.1 hok.1.2 h hz hn _ rfl hok.2.1 hok.2.2
  | _ :: _ :: _ :: _ :: _, hok, _ => cases hok

theorem EntsAt.at_ {w : World} {base n c : Nat} {A : Option Addr} {es : List (List ByteArray)} (h : EntsAt w base (.slice A n c) n es) {k : Nat} {ws : List ByteArray} (hk : es[k]? = some ws) :
    ∃ g b, A = some ⟨g, 0, none⟩ ∧ g < w.heap.size ∧ w.cell? ⟨g, k, none⟩ = some (.slice (some ⟨b, 0, none⟩) ws.length ws.length) ∧ SA w b ws := by
  have hlen := h.len
  obtain ⟨ent, hs, hown, hall⟩ := h
  rw [← hs, List.getElem?_map] at hk
  obtain ⟨x, hx, rfl⟩ := Option.map_eq_some_iff.1 hk
  have hkn : k < ent.length := (List.getElem?_eq_some_iff.1 hx).1
  have hn0 : 0 < n := by rw [hlen, ← hs, List.length_map]; omega
  obtain ⟨g, cap, hv, _, hg⟩ := hown.form hn0
  injection hv with h1 h2 h3
  subst h1
  refine ⟨g, x.1, rfl, hg, ?_, (hall x (List.mem_of_getElem? hx)).1⟩
  have hc := hown.cells (g := g) rfl k (entCell x) (by rw [List.getElem?_map, hx]; rfl)
  rw [← show (⟨g, k, none⟩ : Addr) = (⟨g, 0, none⟩ : Addr).add k from by unfold Addr.add; split <;> simp_all] at hc
  exact hc
theorem EntsAt.length_le {w : World} {base n c : Nat} {A : Option Addr} {es : List (List ByteArray)} (h : EntsAt w base (.slice A n c) n es) : n = es.length := h.len

def TabRet (w : World) (rows : List R3) (e : Ending) (w' : World) : Prop :=
  ∃ A c, e = .returned (.agg #[.slice A rows.length c]) ∧ Tab w' w'.heap.size A rows ∧ Below w.heap.size w w' ∧ ∀ b o, A = some ⟨b, o, none⟩ → w.heap.size < b

set_option maxRecDepth 100000 in
set_option maxHeartbeats 2000000 in
theorem table_c (text names : ByteArray) (w : World) (es : List (List ByteArray)) (zs : List ByteArray) (rows : List R3)
    (hes : entF text = es) (hs : text.size < 4294967281) (hpn : (piecesF text).length ≤ 100000) (hp : ∀ s ∈ piecesF text, s.size ≤ 4294967296)
    (hzs : fieldsF names = zs) (hns : names.size < 4294967281) (hna : ∀ b ∈ names.data.toList, b.toNat < 128) (hzn : zs.length ≤ 1000)
    (hok : ∀ ws ∈ es, rowOkB zs ws = true) (hrows : es.map (rowF zs) = rows) (hrn : rows.length ≤ 1000) (hri : riseF (-1) rows = true)
    (htab : Lib.TabIs Tryd.prog w "strings.asciiSpace" .u8 Lib.asciiSpaceTab) :
    Calls Tryd.prog 18 #[.string text, .string names] w (TabRet w (joinF rows)) := by
  obtain ⟨i0, hi, hz0, hz1, hz2⟩ := info_parts infoRow
  have HR := Lib.hid hrows
  have HO := Lib.hid hok
  have HI := Lib.hid hri
  have hel : es.length = rows.length := by rw [← hrows, List.length_map]
  clear hrows hok hri
  have hent : ∀ W : World, Calls Tryd.prog 27 #[.string text] W (EntRet W es) := fun W => by rw [← hes]; exact entries_c text W hs hpn hp
  have hB0 := Box.new w 25 #[.slice none 0 0]
  have hbelA : Below w.heap.size w (w.alloc (.cells #[.slice none 0 0] 25)) := (Below.refl _ _).alloc (Nat.le_refl _) _
  have hfl : Calls Tryd.prog 26 #[.string names] (w.alloc (.cells #[.slice none 0 0] 25)) _ := fields_c names _ hns hna (Joins.tab_stays (g := 0) (by kernel_rfl) htab hbelA (Nat.le_refl _))
  rw [hzs] at hfl
  clear hes hs hpn hp hzs hns hna htab
  go_enter Tryd.func18, Tryd.ntmps18
  go_wp2_with fail
  refine hfl.mono ?_
  rintro e w1 ⟨bz, rfl, hz, hbz, hb1⟩
  have hB0 := hB0.below hb1 hB0.lt
  have hbel1 : Below w.heap.size w w1 := hbelA.trans (hb1.mono hbelA.size)
  clear hfl hbelA hb1
  go_wp2_with fail
  refine (hent _).mono ?_
  rintro e w2 ⟨A2, c2, rfl, hE, hb2⟩
  have hB0 := hB0.below hb2 hB0.lt
  have hbel2 : Below w.heap.size w w2 := hbel1.trans (hb2.mono hbel1.size)
  have hz := hz.later hb2
  clear hent hb2 hbel1
  go_wp2_with fail
  go_loopw [6, 16] (fun v i wr => ∃ (k n : Nat), k ≤ es.length ∧ i = .int .i64 k ∧ wr.ownsRow w2.heap.size 52 3 v n (flat (rows.take k)) ∧ Below w2.heap.size w2 wr) (fun _ i _ => es.length - (intOf i).toNat)
  case atStart => exact ⟨0, 0, Nat.zero_le _, rfl, World.ownsRow_nil _ _ _ _, Below.refl _ _⟩
  case round =>
    obtain ⟨k, n, hk, rfl, hown, hbel⟩ := hrel
    by_cases hlt : k < es.length
    · have hg : es[k]? = some es[k] := List.getElem?_eq_getElem hlt
      have hg' : rows[k]? = some (rowF zs es[k]) := by rw [← HR.out, List.getElem?_map, hg]; rfl
      have ht : rows.take (k + 1) = rows.take k ++ [rowF zs es[k]] := take_snoc hg'
      have hrok := HO.out es[k] (List.getElem_mem _)
      have HT := Lib.hid ht
      generalize es[k] = ws at *
      obtain ⟨g, b, rfl, hgl, hcell, hsa⟩ := hE.at_ hg
      have hcw : wr.cell? ⟨g, k, none⟩ = some (.slice (some ⟨b, 0, none⟩) ws.length ws.length) := (hbel.cell (by exact hgl)).trans hcell
      have hlen : (rows.take k).length ≤ 1000 := by rw [List.length_take]; omega
      have hnl := ownFlat_len hown
      have hn1000 : n ≤ 1000 := by omega
      clear hnl hlen
      obtain ⟨A', c', rfl, -⟩ := own_form hown
      have cr := row_c ws b bz zs wr hrok (hsa.later hbel) (hz.later hbel) hzn
      have HE := Lib.hid hE
      clear hg hg' ht hE hcell hsa
      generalize rowF zs ws = x at *
      go_wp2_with fail
      refine cr.mono ?_
      rintro e w3 ⟨rfl, hb3⟩
      have hown3 := own_below hown hb3
      have hbel3 : Below w2.heap.size w2 w3 := hbel.trans (hb3.mono hbel.size)
      have hz3 := hbel3.size
      clear cr hcw hown
      go_wp2_with (at_builtin; refine wpList_append_own _ rfl _ _ 23 rfl w2.heap.size 52 i0 _ 3 24 Tryd.underlying23 hi hz0 hz1 hz2 rfl (by decide) _ _ _ rfl (hown3.alloc _) ⟨w3.heap.size, 0, none⟩ 1 1 (rowCells x) rfl rfl (news w3 52 x) (row_one x) (by unfold maxLen; omega) (by omega) (by simp; omega) ?_; intro v' w4 hown4 hgrow _)
      have hown5 : w4.ownsRow w2.heap.size 52 3 v' (n + 1) (flat (rows.take (k + 1))) := by rw [HT.out, flat_snoc]; exact hown4
      have hbel4 : Below w2.heap.size w2 w4 := (hbel3.alloc hbel3.size _).grown hgrow (by simp; omega) (fun j hj => (hown3.lt j hj).1)
      clear hown4 hgrow hown3
      go_wp2
      exact ⟨⟨k + 1, _, by omega, by go_num, hown5, hbel4⟩, by simp [intOf]; omega⟩
    · have hkl : k = es.length := by omega
      rw [List.take_of_length_le (by omega)] at hown
      have hnl := ownFlat_len hown
      subst hnl
      obtain ⟨A', c', rfl, hc'⟩ := own_form hown
      have hB0 := hB0.below hbel hB0.lt
      have hT := Tab.of_own hown
      have hbel4 : Below w.heap.size w wr := hbel2.trans (hbel.mono hbel2.size)
      clear hE hz hown
      have hB0lt : w.heap.size < wr.heap.size := hB0.lt
      have hmk := make_new A' rows c' wr (by omega) hT HI.out (Nat.le_trans (joinF_len rows) (by omega))
      go_wp2_with fail
      refine hmk.mono ?_
      rintro e w5 ⟨A5, c5, rfl, hT5, hb5, hfr5, -, -⟩
      have hB0 := hB0.below hb5 hB0.lt
      have hbel5 : Below w.heap.size w w5 := hbel4.trans (hb5.mono hbel4.size)
      have hB1 := hB0.alloc (.cells #[.slice A5 (joinF rows).length c5] 25)
      have c0 := hB1.cell 0
      have f0 := hB1.free 0
      have hT6 := (hT5.below ((Below.refl _ _).alloc (Nat.le_refl _) (.cells #[.slice A5 (joinF rows).length c5] 25))).more (B' := (w5.alloc (.cells #[.slice A5 (joinF rows).length c5] 25)).heap.size) (by simp)
      have hbel6 := hbel5.alloc hbel5.size (.cells #[.slice A5 (joinF rows).length c5] 25)
      have hA5 : ∀ b o, A5 = some ⟨b, o, none⟩ → w.heap.size < b := fun b o e => by have := hfr5 b o e; have := hbel4.size; have := hB0lt; omega
      clear hmk hT hB0 hB1
      go_wp2_with fail
      have hS := (hT6.setCell (p := ⟨w.heap.size, 0, none⟩) (.slice A5 (joinF rows).length c5) (fun b o e => by have := hA5 b o e; simp; omega)).more (B' := ((w5.alloc (.cells #[.slice A5 (joinF rows).length c5] 25)).setCell ⟨w.heap.size, 0, none⟩ (.slice A5 (joinF rows).length c5)).heap.size) (by simp [World.setCell])
      exact bodyPost_ret (v := .agg #[.slice A5 (joinF rows).length c5]) (by simp [results, Tryd.results18, go_sem, c0]) rfl ⟨A5, c5, rfl, hS, hbel6.setCell (p := ⟨w.heap.size, 0, none⟩) (Nat.le_refl _) _, hA5⟩
end Go.Proofs.YthlkpcfpapiigaaDoor
