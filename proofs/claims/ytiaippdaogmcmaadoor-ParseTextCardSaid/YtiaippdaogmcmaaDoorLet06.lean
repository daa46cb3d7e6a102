/- A text's letters, each a byte. -/
import Derived.Test.YtiaippdaogmcmaaDoorMem6
import Derived.Test.YtiaippdaogmcmaaDoorP5Parse
import Derived.Test.YtiaippdaogmcmaaDoorAppR
namespace Go.Proofs.YtiaippdaogmcmaaDoor
open Go Go.RowKit
set_option linter.unusedVariables false
set_option linter.unusedSimpArgs false

def lets (bs : List Nat) : List Int := bs.map fun c : Nat => (c : Int)
theorem lets_len (bs : List Nat) : (lets bs).length = bs.length := by simp [lets]
theorem lets_snoc (bs : List Nat) (c : Nat) : lets (bs ++ [c]) = lets bs ++ [(c : Int)] := by simp [lets]
def GivesI (rs : List Int) (w : World) (e : Ending) (w' : World) : Prop := ∃ A c, e = .returned (.slice A rs.length c) ∧ Its w' w'.heap.size A rs ∧ rs.length ≤ c ∧ c ≤ maxLen ∧ Below w.heap.size w w'
set_option maxRecDepth 100000 in
set_option maxHeartbeats 4000000 in
theorem letters_c (bs : List Nat) (hbs : ∀ c ∈ bs, c < 256) (hl : bs.length ≤ 2000) (w : World) : Calls Tryd.prog 18 #[.string (strS bs)] w (GivesI (lets bs) w) := by
  obtain ⟨i0, hi, hz0, hz1, hz2⟩ := info_parts infoInt
  have hs : (strS bs).size = bs.length := strS_size bs
  go_enter Tryd.func18, Tryd.ntmps18
  go_wp2_with fail
  go_loopw [3, 4] (fun u3 u4 wr => ∃ (k : Nat) (A : Option Addr) (c : Nat), k ≤ bs.length ∧ u4 = .int .i64 (k : Int) ∧ u3 = .slice A k c ∧ wr.ownsRow w.heap.size 3 1 (.slice A k c) k ((lets (bs.take k)).map intV) ∧ Below w.heap.size w wr) (fun _ u4 _ => bs.length - (intOf u4).toNat)
  case atStart => exact ⟨0, none, 0, Nat.zero_le _, rfl, rfl, ⟨rfl, .inl ⟨rfl, rfl⟩⟩, Below.refl _ _⟩
  case round =>
    obtain ⟨k, A, c, hk, rfl, rfl, hown, hbel⟩ := hrel
    by_cases hlt : k < bs.length
    · obtain ⟨x, hx⟩ : ∃ x, bs[k]? = some x := ⟨_, List.getElem?_eq_getElem hlt⟩
      have hx2 := hbs x (List.mem_of_getElem? hx)
      have hix := idx_at hx hx2
      have z1 : (k : Int) < (bs.length : Int) := by omega
      have HS := Lib.hid (by rw [take_snoc hx, lets_snoc] : lets (bs.take (k + 1)) = lets (bs.take k) ++ [(x : Int)])
      generalize hq : lets (bs.take k) = q at *
      clear hx hq
      have hR : Rd intV (wr.alloc (.cells #[.int .i64 (x : Int)] 3)) (wr.alloc (.cells #[.int .i64 (x : Int)] 3)).heap.size (some ⟨wr.heap.size, 0, none⟩) [(x : Int)] := Rd.of_box (f := intV) (Box.new wr _ #[.int .i64 (x : Int)])
      have hsz := hbel.size
      go_wp2_with (at_builtin; refine wpList_append_rd (f := intV) (fun _ => rfl) rfl _ _ 22 rfl w.heap.size 3 i0 _ 8 Tryd.underlying22 hi hz0 hz1 hz2 rfl _ k (q.map intV) rfl (hown.alloc _) (some ⟨wr.heap.size, 0, none⟩) 1 _ [(x : Int)] rfl hR (by unfold maxLen; simp; omega) (by simp; omega) (by simp; omega) ?_)
      intro v' w2 hown2 hO
      obtain ⟨A', c', rfl⟩ : ∃ A' c', v' = .slice A' (k + 1) c' := by
        obtain ⟨A', c', h, _, _⟩ := own_form1 hown2
        exact ⟨A', c', h⟩
      have hbel2 : Below w.heap.size w w2 := (hbel.alloc hsz _).trans (hO.belowBase (by simp; omega) (fun g hg => (own_block hown hg).1))
      have HO : Hid (w2.ownsRow w.heap.size 3 1 (.slice A' (k + 1) c') (k + 1) ((lets (bs.take (k + 1))).map intV)) := Lib.hid (by rw [HS.out]; simpa using hown2)
      clear hown2 hO hR hown
      go_wp2_with fail
      exact ⟨⟨k + 1, A', c', by omega, by go_num, rfl, HO.out, hbel2⟩, by simp [intOf]; omega⟩
    · obtain rfl : k = bs.length := by omega
      have z1 : ¬ (bs.length : Int) < (bs.length : Int) := by omega
      rw [List.take_length] at hown
      have HO := Lib.hid hown
      clear hown
      go_wp2_with fail
      go_ret
      have hc := own_cap HO.out
      exact ⟨A, c, by rw [lets_len]; rfl, Rd.of_own HO.out, by rw [lets_len]; exact hc.1, hc.2, hbel⟩
end Go.Proofs.YtiaippdaogmcmaaDoor
