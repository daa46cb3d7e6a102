/- A text's words: Split at a comma, FieldsFunc by between, Fields, Index: the library's contracts at this program. -/
import Derived.Test.YthlkpcfpapiigaaDoorShelf
import Derived.Test.YthlkpcfpapiigaaDoorChecked
import Derived.Test.YthlkpcfpapiigaaDoorMem01
import Derived.WalkKit
import Derived.Lib.Hide
namespace Go.Proofs.YthlkpcfpapiigaaDoor
open Go Go.RowKit Go.Shelf
set_option linter.unusedVariables false
set_option linter.unusedSimpArgs false

def btwB (x : Nat) : Bool := x == 32 || (x == 10 || x == 45)
def comma : ByteArray := ⟨#[44]⟩
def piecesF (text : ByteArray) : List ByteArray := Lib.splitB comma 0 (Lib.countB text comma) text
def wordsF (s : ByteArray) : List ByteArray := Lib.goFieldsP btwB s
def entF (text : ByteArray) : List (List ByteArray) := (piecesF text).map wordsF

theorem between_c (x : Nat) (hx : x ≤ 1114111) (w : World) :
    Calls Tryd.prog 34 #[.int .i32 (x : Int)] w fun e w' => e = .returned (.bool (btwB x)) ∧ w = w' := by
  by_cases h1 : x = 32
  · subst h1
    go_enter Tryd.func34, Tryd.ntmps34
    go_wp2
    go_ret
    exact ⟨rfl, rfl⟩
  · by_cases h2 : x = 10
    · subst h2
      go_enter Tryd.func34, Tryd.ntmps34
      go_wp2
      go_ret
      exact ⟨rfl, rfl⟩
    · by_cases h3 : x = 45
      · subst h3
        go_enter Tryd.func34, Tryd.ntmps34
        go_wp2
        go_ret
        exact ⟨rfl, rfl⟩
      · have hb : btwB x = false := by simp [btwB, h1, h2, h3]
        have k1 : ((x : Int) == 32) = false := by simp; omega
        have k2 : ((x : Int) == 10) = false := by simp; omega
        have k3 : ((x : Int) == 45) = false := by simp; omega
        rw [hb]
        clear hb
        go_enter Tryd.func34, Tryd.ntmps34
        go_wp2
        go_ret
        exact ⟨rfl, rfl⟩

theorem index_c (x : ByteArray) (w : World) :
    Calls Tryd.prog 46 #[.string x, .string comma] w fun e w' => e = .returned (.int .i64 (Lib.indexB x comma)) ∧ w' = w := by
  have h := Any.strings_Index_one Tryd.lays143 x 44 w
  rw [← Lib.index_one] at h
  exact h
theorem count_c (x : ByteArray) (w : World) :
    Calls Tryd.prog 45 #[.string x, .string comma] w fun e w' => e = .returned (.int .i64 (Lib.countB x comma)) ∧ w' = w := by
  have h := Any.strings_Count_one Tryd.lays138 x 44 w
  unfold Lib.countByte at h
  rw [← Lib.count_one] at h
  exact h
theorem genSplit_c (s : ByteArray) (w : World) (hs : s.size < 4294967281) :
    Calls Tryd.prog 39 #[.string s, .string comma, .int .i64 0, .int .i64 (-1)] w fun e w' =>
      e = .returned (.slice (some ⟨w.heap.size, 0, none⟩) (piecesF s).length (piecesF s).length) ∧ w' = w.alloc (.cells ((piecesF s).map Value.string).toArray 9) := by
  have h1 : 1 ≤ comma.size := by decide
  have hle := Lib.countB_le comma h1 s.size s (Nat.le_refl _)
  have hlen := Lib.splitB_all comma h1 0 _ s rfl
  have c := Any.strings_genSplit_core Tryd.lays221 (by kernel_rfl) s comma 0 (-1) (Lib.countB s comma + 1) w hs h1 (Nat.zero_le _)
    (fun x c hx => index_c x _) (count_c s w) (by decide) (by decide) (by rw [if_pos (by decide)]; omega)
  rw [Nat.add_sub_cancel, hlen] at c
  have e2 : Lib.cellsOf (Lib.splitB comma 0 (Lib.countB s comma) s) (Lib.countB s comma + 1) = ((Lib.splitB comma 0 (Lib.countB s comma) s).map Value.string).toArray := by rw [← hlen]; exact Lib.cellsOf_full _
  rw [e2] at c
  unfold piecesF
  rw [hlen]
  exact c
theorem split_c (s : ByteArray) (w : World) (hs : s.size < 4294967281) :
    Calls Tryd.prog 33 #[.string s, .string comma] w fun e w' =>
      e = .returned (.slice (some ⟨w.heap.size, 0, none⟩) (piecesF s).length (piecesF s).length) ∧ w' = w.alloc (.cells ((piecesF s).map Value.string).toArray 9) := by
  have c := genSplit_c s w hs
  generalize piecesF s = l at *
  go_enter Tryd.func33, Tryd.ntmps33
  go_wp2_with (go_at_call 39; refine c.mono ?_; rintro e w' ⟨rfl, hw⟩; rw [hw])
  go_ret
  exact ⟨rfl, rfl⟩

/-- A block that reads as words. -/
def SA (w : World) (b : Nat) (ws : List ByteArray) : Prop := b < w.heap.size ∧ ∀ k s, ws[k]? = some s → w.cell? ⟨b, k, none⟩ = some (.string s)
theorem SA.below {w w' : World} {B b : Nat} {ws : List ByteArray} (h : SA w b ws) (hb : Below B w w') (hB : b < B) : SA w' b ws :=
  ⟨Nat.lt_of_lt_of_le h.1 hb.size, fun k s hk => (hb.cell (p := ⟨b, k, none⟩) hB).trans (h.2 k s hk)⟩
theorem SA.later {w w' : World} {b : Nat} {ws : List ByteArray} (h : SA w b ws) (hb : Below w.heap.size w w') : SA w' b ws := h.below hb h.1
theorem SA.new (w : World) (t : TypeId) (ws : List ByteArray) : SA (w.alloc (.cells (ws.map Value.string).toArray t)) w.heap.size ws := by
  refine ⟨by simp, fun k s hk => ?_⟩
  rw [cell_of_row _ _ _ _ _ _ (heap_alloc_new w _)]
  simp [hk]

theorem words_c (s : ByteArray) (w : World) (hs : s.size ≤ 4294967296) :
    Calls Tryd.prog 31 #[.string s, .func (.func 34) #[] #[]] w fun e w' => ∃ b, e = .returned (.slice (some ⟨b, 0, none⟩) (wordsF s).length (wordsF s).length) ∧ SA w' b (wordsF s) ∧ w.heap.size ≤ b ∧ Below w.heap.size w w' := by
  have c := Any.strings_FieldsFunc_runes Tryd.lays229 34 #[] (enters_of Tryd.func34 (by kernel_rfl) rfl) btwB s w hs
    (fun W x hx _ => (between_c x hx W).mono fun e W' ⟨h1, h2⟩ => ⟨h1, 0, by rw [← h2]; rfl⟩) (by kernel_rfl) (by kernel_rfl)
  refine c.mono fun e w' ⟨b, he, hb, hown, hbel⟩ => ⟨b, he, ?_, hb, hbel⟩
  obtain ⟨h1, h2⟩ := hown.lt b rfl
  refine ⟨h2, fun k s hk => ?_⟩
  have hc := hown.cells (g := b) rfl k (.string s) (by rw [List.getElem?_map]; unfold wordsF at hk; rw [hk]; rfl)
  rw [← hc]
  congr 1
  unfold Addr.add; split <;> simp_all

def fieldsF (s : ByteArray) : List ByteArray := (Lib.fields s.data.toList).map fun l => ⟨l.toArray⟩
theorem fields_c (s : ByteArray) (w : World) (hs : s.size < 4294967281) (hascii : ∀ b ∈ s.data.toList, b.toNat < 128) (htab : Lib.TabIs Tryd.prog w "strings.asciiSpace" .u8 Lib.asciiSpaceTab) :
    Calls Tryd.prog 26 #[.string s] w fun e w' => ∃ b, e = .returned (.slice (some ⟨b, 0, none⟩) (fieldsF s).length (fieldsF s).length) ∧ SA w' b (fieldsF s) ∧ w.heap.size ≤ b ∧ Below w.heap.size w w' := by
  have c := Any.strings_Fields Tryd.lays157 (by kernel_rfl) (by kernel_rfl) s w hs (fun j b hj => hascii b (List.mem_of_getElem? hj)) htab
  refine c.mono fun e w' ⟨he, hw⟩ => ⟨w.heap.size, ?_, ?_, Nat.le_refl _, ?_⟩
  · rw [he]; simp [fieldsF]
  · rw [hw]
    have := SA.new w 9 (fieldsF s)
    simp [fieldsF, Function.comp_def] at this ⊢
    exact this
  · rw [hw]; exact (Below.refl _ _).alloc (Nat.le_refl _) _

theorem sindex_c (b : Nat) (zs : List ByteArray) (x : ByteArray) (w : World) (hn : zs.length ≤ 9223372036854775807) (h : SA w b zs) :
    Calls Tryd.prog 35 #[.slice (some ⟨b, 0, none⟩) zs.length zs.length, .string x] w fun e w' => e = .returned (.int .i64 (Lib.idxOfS zs x)) ∧ w = w' := by
  have c := Any.slices_Index_string Tryd.lays109 b 0 zs.length zs.length zs x w (Nat.le_refl _) hn (fun j hj => by
    rw [Nat.zero_add]
    refine h.2 j _ ?_
    rw [List.getD_eq_getElem?_getD, List.getElem?_eq_getElem hj]
    rfl)
  rw [List.take_length] at c
  exact c.mono fun e w' ⟨h1, h2⟩ => ⟨h1, h2.symm⟩
end Go.Proofs.YthlkpcfpapiigaaDoor
