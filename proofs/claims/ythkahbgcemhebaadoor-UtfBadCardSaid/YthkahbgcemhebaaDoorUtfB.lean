/- DecodeRune and first, by their contracts: the letter that bytes begin with. -/
import Derived.Test.YthkahbgcemhebaaDoorUtfA
import Derived.Test.YthkahbgcemhebaaDoorShelf
import Derived.Lib.Hide
namespace Go.Proofs.YthkahbgcemhebaaDoor
open Go Go.RowKit
set_option linter.unusedVariables false
set_option linter.unusedSimpArgs false

def bArr (bs : List Nat) : ByteArray := ⟨(bs.map (fun c => c.toUInt8)).toArray⟩
theorem bArr_size (bs : List Nat) : (bArr bs).size = bs.length := by simp [bArr, ByteArray.size]
theorem bArr_get {bs : List Nat} (hb : ∀ c ∈ bs, c < 256) (j : Nat) : ((bArr bs).get! j).toNat = bs.getD j 0 := by
  have e : (bArr bs).get! j = (bs.map (fun c => c.toUInt8)).toArray[j]! := rfl
  rw [e, List.getD_eq_getElem?_getD]
  rcases Nat.lt_or_ge j bs.length with h | h
  · have hc := hb bs[j] (List.getElem_mem h)
    simp [h]
    omega
  · simp [h]
    rfl
def wideF (l : List Nat) : Nat := if (runF l).2 then (runF l).1 else 1
set_option maxRecDepth 100000 in
/-- The letter that stands there, or FFFD and one byte. -/
theorem decode_c (A : Option Addr) (bs : List Nat) (c : Nat) (w : World) (hne : bs ≠ []) (hT : Tb w) (h : Byt w w.heap.size A bs) (hb : ∀ c ∈ bs, c < 256) :
    Calls Tryd.prog 21 #[.slice A bs.length c] w fun e w' => e = .returned (.tuple #[.int .i32 (headF bs), .int .i64 (wideF bs : Nat)]) ∧ Below w.heap.size w w' := by
  have h0 : 0 < bs.length := List.length_pos_iff.2 hne
  obtain ⟨b, o, rfl, hbw, c0⟩ := h.at_ (getD_at h0)
  have hrest : ∀ j, j < (bArr bs).size → w.cell? ⟨b, o + j, none⟩ = some (.int .u8 ((bArr bs).get! j).toNat) := fun j hj => by
    rw [bArr_size] at hj
    obtain ⟨b', o', e, _, hq⟩ := h.at_ (getD_at hj)
    injection e with e; injection e with e1 e2; subst e1; subst e2
    rw [bArr_get hb]
    exact hq
  have key := Any7.utf8_DecodeRune Tryd.lays732 (bArr bs) b o c w hT hrest
  rw [bArr_size] at key
  have hd : Lib.decodeGo (bArr bs) = Lib.decodeN bs.length (bs.getD 0 0) (bs.getD 1 0) (bs.getD 2 0) (bs.getD 3 0) := by
    have : ¬ (bArr bs).size = 0 := by rw [bArr_size]; omega
    simp only [Lib.decodeGo, this, if_false]
    rw [Lib.decode_at, bArr_get hb, bArr_get hb, bArr_get hb, bArr_get hb, bArr_size]
    rfl
  rw [hd] at key
  obtain ⟨e1, e2⟩ := decode_run bs hne hb
  rw [e1, e2] at key
  exact key
set_option maxRecDepth 100000 in
set_option maxHeartbeats 4000000 in
/-- first: the letter that bytes begin with, and how many bytes it takes. -/
theorem first_c (A : Option Addr) (bs : List Nat) (c : Nat) (w : World) (hne : bs ≠ []) (ho : opnB bs = false) (hT : Tb w) (h : Byt w w.heap.size A bs) (hb : ∀ c ∈ bs, c < 256) (hc : bs.length ≤ c) (hcm : c ≤ maxLen) :
    Calls Tryd.prog 17 #[.slice A bs.length c] w fun e w' => e = .returned (.tuple #[.int .i32 (headF bs), .int .i64 (max (runF bs).1 1 : Nat)]) ∧ Below w.heap.size w w' := by
  have HM := Lib.hid (run_cons_ne hne)
  have hw1 : wideF bs ≤ max (runF bs).1 1 ∧ 1 ≤ wideF bs := by
    unfold wideF
    split
    · rename_i h; have := run_whole h; omega
    · omega
  have HW := Lib.hid hw1
  have HN : Hid (∀ k, wideF bs ≤ k → k ≤ max (runF bs).1 1 → k < bs.length → shortB (bs.take (k + 1)) = decide (k < max (runF bs).1 1)) := fun k h1 h2 h3 => short_next hne ho h1 h2 h3
  have hlen : bs.length ≤ 9223372036854775807 := by unfold maxLen at hcm; omega
  have hD := decode_c A bs c w hne hT h hb
  clear hw1 ho hne
  generalize max (runF bs).1 1 = M at *
  generalize headF bs = H at *
  generalize wideF bs = V at *
  go_enter Tryd.func17, Tryd.ntmps17
  go_wp2_with fail
  refine hD.mono ?_
  rintro e w1 ⟨rfl, hz⟩
  clear hD
  have hb1 : Below w.heap.size w w1 := hz
  clear hz
  go_wp2_with fail
  go_loopw [5] (fun sv wr => ∃ k : Nat, sv = .int .i64 k ∧ V ≤ k ∧ k ≤ M ∧ Below w.heap.size w wr) (fun sv _ => bs.length - (intOf sv).toNat)
  case atStart => exact ⟨V, rfl, Nat.le_refl _, HW.out.1, hb1⟩
  case round =>
    obtain ⟨k, rfl, hk1, hk2, hbel⟩ := hrel
    have hM := HM.out
    by_cases hlt : k < bs.length
    · have hz1 : (k : Int) < (bs.length : Int) := by omega
      have hs := HN.out k hk1 hk2 hlt
      have hle : (bs.take (k + 1)).length = k + 1 := by rw [List.length_take]; omega
      have hcal := short_c A (bs.take (k + 1)) c wr (hT.below hbel hT.size) ((h.on hbel).take _) (fun c hc => hb c (List.mem_of_mem_take hc)) (by omega) hcm
      rw [hle, hs] at hcal
      have HC := Lib.hid hcal
      clear hcal hs hle
      by_cases hkM : k < M
      · have HC' := HC.out
        rw [decide_eq_true hkM] at HC'
        clear HC
        have HC := Lib.hid HC'
        clear HC'
        go_wp2_with fail
        refine (HC.out).mono ?_
        rintro e w2 ⟨rfl, hz⟩
        have hbel2 := hbel.trans (hz.mono hbel.size)
        clear hz HC
        go_wp2_with fail
        exact ⟨⟨k + 1, by go_num, by omega, by omega, hbel2⟩, by simp [intOf]; omega⟩
      · have HC' := HC.out
        rw [decide_eq_false hkM] at HC'
        clear HC
        have HC := Lib.hid HC'
        clear HC'
        obtain rfl : k = M := by omega
        go_wp2_with fail
        refine (HC.out).mono ?_
        rintro e w2 ⟨rfl, hz⟩
        have hbel2 := hbel.trans (hz.mono hbel.size)
        clear hz HC
        go_wp2_with fail
        go_ret2
        exact ⟨rfl, hbel2⟩
    · have hz1 : ¬ (k : Int) < (bs.length : Int) := by omega
      obtain rfl : k = M := by omega
      go_wp2_with fail
      go_ret2
      exact ⟨rfl, hbel⟩
end Go.Proofs.YthkahbgcemhebaaDoor
