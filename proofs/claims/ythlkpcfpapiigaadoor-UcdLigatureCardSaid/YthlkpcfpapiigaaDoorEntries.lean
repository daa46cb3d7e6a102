/- entries, by its contract: the words of each piece of a text. -/
import Derived.Test.YthlkpcfpapiigaaDoorWords
import Derived.Test.YthlkpcfpapiigaaDoorReg
import Derived.Deep.AppendSrc
import Derived.Deep.AppendLies
import Derived.Lib.SmallJoins
namespace Go.Proofs.YthlkpcfpapiigaaDoor
open Go Go.RowKit
set_option linter.unusedVariables false
set_option linter.unusedSimpArgs false

theorem infoStrs : (Tryd.prog.info? 53).map (fun i => (i.zero, i.size, i.bytes)) = some (some (.slice none 0 0), 1, 24) := by kernel_rfl

/-- Where the words of an entry lie. -/
abbrev Ent := Nat × List ByteArray
def entCell (x : Ent) : Value := .slice (some ⟨x.1, 0, none⟩) x.2.length x.2.length
theorem sliceCells {n c : Nat} {w : World} {base : Nat} {e : TypeId} {v : Value} {xs : List Value} (h : w.ownsRow base e 1 v n xs) : ∃ A c, v = .slice A n c ∧ n ≤ c := by
  rcases h.2 with ⟨rfl, rfl⟩ | ⟨g, cap, cur, rfl, _, _, h, _⟩
  · exact ⟨none, 0, rfl, Nat.le_refl _⟩
  · exact ⟨_, _, rfl, h⟩
theorem own_form1 {w : World} {base : Nat} {e : TypeId} {v : Value} {n : Nat} {xs : List Value} (h : w.ownsRow base e 1 v n xs) : ∃ A c, v = .slice A n c ∧ n ≤ c := by
  rcases h.2 with ⟨rfl, rfl⟩ | ⟨g, cap, cur, rfl, _, _, h, _⟩
  · exact ⟨none, 0, rfl, Nat.le_refl _⟩
  · exact ⟨_, _, rfl, h⟩

theorem news1 (w : World) (t : TypeId) (x : Value) : ∀ j u, [x][j]? = some u → (w.alloc (.cells #[x] t)).cell? ((⟨w.heap.size, 0, none⟩ : Addr).add j) = some u := by
  intro j u hj
  match j, hj with
  | 0, hj =>
    simp at hj; subst hj
    have e : (⟨w.heap.size, 0, none⟩ : Addr).add 0 = ⟨w.heap.size, 0, none⟩ := by unfold Addr.add; split <;> simp_all
    rw [e, cell_of_row _ _ _ _ _ _ (heap_alloc_new w _)]
    rfl
  | j + 1, hj => simp at hj

/-- A list of entries: what stands where. -/
def EntsAt (w : World) (base : Nat) (v : Value) (n : Nat) (es : List (List ByteArray)) : Prop :=
  ∃ ent : List Ent, ent.map Prod.snd = es ∧ w.ownsRow base 53 1 v n (ent.map entCell) ∧ ∀ x ∈ ent, SA w x.1 x.2 ∧ v.ownBlock ≠ some x.1 ∧ base ≤ x.1
theorem EntsAt.len {w : World} {base n : Nat} {v : Value} {es : List (List ByteArray)} (h : EntsAt w base v n es) : n = es.length := by
  obtain ⟨ent, rfl, h1, _⟩ := h
  have := h1.1
  simp at this ⊢
  omega
theorem EntsAt.nil (w : World) (base : Nat) : EntsAt w base (.slice none 0 0) 0 [] := ⟨[], rfl, World.ownsRow_nil _ _ _ _, by simp⟩

def EntRet (w : World) (es : List (List ByteArray)) (e : Ending) (w' : World) : Prop :=
  ∃ A c, e = .returned (.slice A es.length c) ∧ EntsAt w' w.heap.size (.slice A es.length c) es.length es ∧ Below w.heap.size w w'

set_option maxRecDepth 100000 in
set_option maxHeartbeats 1000000 in
theorem entries_c (text : ByteArray) (w : World) (hs : text.size < 4294967281) (hn : (piecesF text).length ≤ 100000) (hp : ∀ s ∈ piecesF text, s.size ≤ 4294967296) :
    Calls Tryd.prog 27 #[.string text] w (EntRet w (entF text)) := by
  obtain ⟨i0, hi, hz0, hz1, hz2⟩ := info_parts infoStrs
  have hsp := split_c text w hs
  have hE : entF text = (piecesF text).map wordsF := rfl
  have HE := Lib.hid hE
  clear hE
  generalize piecesF text = l at *
  generalize entF text = es at *
  clear hs
  have hsp' : Calls Tryd.prog 33 #[.string text, .string ⟨#[44]⟩] w fun e w' => e = .returned (.slice (some ⟨w.heap.size, 0, none⟩) l.length l.length) ∧ SA w' w.heap.size l ∧ Below w.heap.size w w' :=
    hsp.mono fun e w' ⟨h1, h2⟩ => ⟨h1, by rw [h2]; exact SA.new w _ l, by rw [h2]; exact (Below.refl _ _).alloc (Nat.le_refl _) _⟩
  clear hsp
  go_enter Tryd.func27, Tryd.ntmps27
  go_wp2_with (go_at_call 33; refine hsp'.mono ?_; rintro e w1 ⟨rfl, hB, hb1⟩)
  clear hsp'
  go_loopw [3, 9] (fun v i wr => ∃ (k n : Nat), k ≤ l.length ∧ i = .int .i64 k ∧ EntsAt wr w1.heap.size v n ((l.take k).map wordsF) ∧ Below w1.heap.size w1 wr) (fun _ i _ => l.length - (intOf i).toNat)
  case atStart => exact ⟨0, 0, Nat.zero_le _, rfl, EntsAt.nil _ _, Below.refl _ _⟩
  case round =>
    obtain ⟨k, n, hk, rfl, hent, hbel⟩ := hrel
    have hnk := hent.len
    rw [List.length_map, List.length_take, Nat.min_eq_left hk] at hnk
    subst hnk
    by_cases hlt : n < l.length
    · have hg : l[n]? = some l[n] := List.getElem?_eq_getElem hlt
      have hps := hp l[n] (List.getElem_mem _)
      have ht : (l.take (n + 1)).map wordsF = (l.take n).map wordsF ++ [wordsF l[n]] := by rw [take_snoc hg, List.map_append]; rfl
      have HT := Lib.hid ht
      clear ht hp
      generalize l[n] = s at *
      have hcell : wr.cell? ⟨w.heap.size, n, none⟩ = some (.string s) := (hbel.cell (by exact hB.1)).trans (hB.2 n s hg)
      have HB := Lib.hid hB
      clear hB hg
      have cw := words_c s wr hps
      generalize wordsF s = ws at *
      obtain ⟨ent, hsnd, hown, hall⟩ := hent
      obtain ⟨A', c', rfl, -⟩ := own_form1 hown
      have HS := Lib.hid hsnd
      have HA := Lib.hid hall
      clear hsnd hall hps
      go_wp2_with fail
      refine cw.mono ?_
      rintro e w2 ⟨b, rfl, hsa, hbb, hb2⟩
      clear cw hcell
      have hown2 := own_below hown hb2
      have hbel2 : Below w1.heap.size w1 w2 := hbel.trans (hb2.mono hbel.size)
      have hz := hbel2.size
      have hz1' := hbel.size
      go_wp2_with (at_builtin; refine wpList_append_lies _ rfl _ _ 55 rfl w1.heap.size 53 i0 _ 1 24 Tryd.underlying55 hi hz0 hz1 hz2 rfl (by decide) _ _ _ rfl (hown2.alloc _) ⟨w2.heap.size, 0, none⟩ 1 1 [.slice (some ⟨b, 0, none⟩) ws.length ws.length] rfl rfl (news1 w2 _ _) (by intro u hu; simp at hu; subst hu; rfl) (by decide) (by unfold maxLen; omega) (by omega) (by simp; omega) (w2.heap.size + 1) (by simp) ?_)
      intro g cap w3 hown3 hgrow hat hlt3
      have hbel3 : Below w1.heap.size w1 w3 := (hbel2.alloc hbel2.size _).grown hgrow (by simp; omega) (fun j hj => (hown2.lt j hj).1)
      have hent3 : EntsAt w3 w1.heap.size (.slice (some ⟨g, 0, none⟩) (n + 1) cap) (n + 1) ((l.take (n + 1)).map wordsF) := by
        refine ⟨ent ++ [(b, ws)], by rw [HT.out, List.map_append, HS.out]; rfl, by rw [List.map_append]; exact hown3, ?_⟩
        intro x hx
        rw [List.mem_append] at hx
        have key : ∀ y : Ent, SA w2 y.1 y.2 → Value.ownBlock (.slice A' n c') ≠ some y.1 → w1.heap.size ≤ y.1 → SA w3 y.1 y.2 ∧ Value.ownBlock (.slice (some ⟨g, 0, none⟩) (n + 1) cap) ≠ some y.1 ∧ w1.heap.size ≤ y.1 := by
          intro y hy hne hby
          have hyl := hy.1
          have h1 : SA (w2.alloc (.cells #[.slice (some ⟨b, 0, none⟩) ws.length ws.length] 53)) y.1 y.2 := hy.later ((Below.refl _ _).alloc (Nat.le_refl _) _)
          refine ⟨⟨Nat.lt_of_lt_of_le h1.1 hgrow.size, fun k s hk => ?_⟩, ?_, hby⟩
          · rw [World.cell?_of_block (hgrow.block y.1 h1.1 (fun e => hne e.symm))]
            exact h1.2 k s hk
          · rcases hat with h | h
            · rw [h] at hne; simpa [Value.ownBlock] using hne
            · subst h; simp [Value.ownBlock]; omega
        rcases hx with hx | hx
        · obtain ⟨k1, k2, k3⟩ := HA.out x hx
          exact key x (k1.later hb2) k2 k3
        · simp at hx; subst hx
          refine key (b, ws) hsa (fun e => ?_) (by omega)
          have := (hown.lt b e).2
          omega
      clear hown3 hgrow hat hlt3 hown hown2 hsa
      go_wp2
      exact ⟨⟨n + 1, n + 1, by omega, by go_num, hent3, hbel3⟩, by simp [intOf]; omega⟩
    · have hkl : n = l.length := by omega
      subst hkl
      rw [List.take_length, ← HE.out] at hent
      have hlen := hent.len
      obtain ⟨ent, hsnd, hown, hall⟩ := hent
      obtain ⟨A', c', rfl, -⟩ := own_form1 hown
      have hret : EntRet w es (.returned (.slice A' l.length c')) wr := by
        rw [hlen] at hown hall ⊢
        refine ⟨A', c', rfl, ⟨ent, hsnd, ?_, fun x hx => ?_⟩, hb1.trans (hbel.mono hb1.size)⟩
        · exact Joins.ownsRow_le hown hb1.size
        · obtain ⟨k1, k2, k3⟩ := hall x hx
          exact ⟨k1, k2, Nat.le_trans hb1.size k3⟩
      have HR := Lib.hid hret
      clear hret hown hall hsnd hlen hp hn hB
      go_wp2
      go_ret
      exact HR.out
end Go.Proofs.YthlkpcfpapiigaaDoor
