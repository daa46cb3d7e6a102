/- Bytes in memory. -/
import Derived.Test.YtgmcpmhpafcihaaMem01
import Derived.Test.YtgmcpmhpafcihaaPlain01p
namespace Go.Proofs.Ytgmcpmhpafcihaa
open Go Go.RowKit
set_option linter.unusedVariables false
set_option linter.unusedSimpArgs false

/-- A slice at A reads as bytes. -/
def Byt (w : World) (B : Nat) (A : Option Addr) (bs : List Nat) : Prop :=
  bs ≠ [] → ∃ b o, A = some ⟨b, o, none⟩ ∧ b < B ∧ ∀ (k c : Nat), bs[k]? = some c → w.cell? ⟨b, o + k, none⟩ = some (.int .u8 (c : Int))
def byteCells (bs : List Nat) : List Value := bs.map fun (c : Nat) => Value.int .u8 (c : Int)
theorem Byt.nil {w : World} {B : Nat} {A : Option Addr} : Byt w B A [] := fun h => absurd rfl h
theorem Byt.below {w w' : World} {B : Nat} {A : Option Addr} {bs : List Nat} (h : Byt w B A bs) (hb : Below B w w') : Byt w' B A bs := fun hl => by
  obtain ⟨b, o, e, hB, hc⟩ := h hl
  exact ⟨b, o, e, hB, fun k x hx => (hb.cell (by exact hB)).trans (hc k x hx)⟩
theorem Byt.more {w : World} {B B' : Nat} {A : Option Addr} {bs : List Nat} (h : Byt w B A bs) (hb : B ≤ B') : Byt w B' A bs := fun hl => by
  obtain ⟨b, o, e, hB, hc⟩ := h hl
  exact ⟨b, o, e, by omega, hc⟩
theorem Byt.at_ {w : World} {B : Nat} {A : Option Addr} {bs : List Nat} {k c : Nat} (h : Byt w B A bs) (hx : bs[k]? = some c) : ∃ b o, A = some ⟨b, o, none⟩ ∧ b < B ∧ w.cell? ⟨b, o + k, none⟩ = some (.int .u8 (c : Int)) := by
  obtain ⟨b, o, e, hB, hc⟩ := h (by rintro rfl; simp at hx)
  exact ⟨b, o, e, hB, hc k c hx⟩
theorem Byt.drop {w : World} {B b o : Nat} {bs : List Nat} (h : Byt w B (some ⟨b, o, none⟩) bs) (n : Nat) : Byt w B (some ⟨b, o + n, none⟩) (bs.drop n) := fun hl => by
  obtain ⟨b', o', e, hB, hc⟩ := h (by rintro rfl; simp at hl)
  injection e with e; injection e with e1 e2; subst e1; subst e2
  refine ⟨b, o + n, rfl, hB, fun k c hk => ?_⟩
  rw [List.getElem?_drop] at hk
  have := hc _ c hk
  rw [Nat.add_assoc]
  exact this
theorem Byt.take {w : World} {B : Nat} {A : Option Addr} {bs : List Nat} (h : Byt w B A bs) (n : Nat) : Byt w B A (bs.take n) := fun hl => by
  obtain ⟨b', o', e, hB, hc⟩ := h (by rintro rfl; simp at hl)
  refine ⟨b', o', e, hB, fun k c hk => ?_⟩
  rw [List.getElem?_take] at hk
  split at hk
  · exact hc k c hk
  · cases hk
theorem Byt.of_own {w : World} {base : Nat} {e : TypeId} {A : Option Addr} {n c : Nat} {bs : List Nat} (h : w.ownsRow base e 1 (.slice A n c) n (byteCells bs)) : Byt w w.heap.size A bs := fun hl => by
  rcases h.2 with ⟨hv, hn⟩ | ⟨g, cap, cur, hv, hb, hg, hnc, hcm, hcs, ht⟩
  · have := h.1; simp [byteCells] at this; subst hn; exact absurd (List.eq_nil_of_length_eq_zero this) hl
  · injection hv with h1 h2 h3
    subst h1
    refine ⟨g, 0, rfl, (Array.getElem?_eq_some_iff.1 hg).1, fun k c hk => ?_⟩
    have hbc : (byteCells bs)[k]? = some (.int .u8 (c : Int)) := by simp [byteCells, hk]
    have := h.cells (g := g) rfl k _ hbc
    rw [← this]
    congr 1
    unfold Addr.add; split <;> simp_all
theorem own_len1 {w : World} {base : Nat} {e : TypeId} {v : Value} {n : Nat} {bs : List Nat} (h : w.ownsRow base e 1 v n (byteCells bs)) : n = bs.length := by
  have := h.1
  simp [byteCells] at this
  omega
theorem own_form1 {w : World} {base : Nat} {e : TypeId} {size : Nat} {v : Value} {n : Nat} {xs : List Value} (h : w.ownsRow base e size v n xs) : ∃ A c, v = .slice A n c ∧ n ≤ c ∧ c ≤ maxLen := by
  rcases h.2 with ⟨rfl, rfl⟩ | ⟨g, cap, cur, rfl, _, _, h, h', _⟩
  · exact ⟨none, 0, rfl, Nat.le_refl _, by simp [maxLen]⟩
  · exact ⟨_, _, rfl, h, h'⟩
theorem byteCells_snoc (bs : List Nat) (c : Nat) : byteCells (bs ++ [c]) = byteCells bs ++ [.int .u8 (c : Int)] := by simp [byteCells]
end Go.Proofs.Ytgmcpmhpafcihaa
