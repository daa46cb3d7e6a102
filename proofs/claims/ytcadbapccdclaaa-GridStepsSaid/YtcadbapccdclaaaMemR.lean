/- Slices of one-cell elements in memory: bytes, ints. -/
import Derived.Test.YtcadbapccdclaaaMem01
namespace Go.Proofs.Ytcadbapccdclaaa
open Go Go.RowKit
set_option linter.unusedVariables false
set_option linter.unusedSimpArgs false

section
variable {α : Type} {f : α → Value}
/-- A slice at A reads as a list. -/
def Rd (f : α → Value) (w : World) (B : Nat) (A : Option Addr) (l : List α) : Prop :=
  l ≠ [] → ∃ b o, A = some ⟨b, o, none⟩ ∧ b < B ∧ ∀ (k : Nat) (x : α), l[k]? = some x → w.cell? ⟨b, o + k, none⟩ = some (f x)
theorem Rd.nil {w : World} {B : Nat} {A : Option Addr} : Rd f w B A [] := fun h => absurd rfl h
theorem Rd.below {w w' : World} {B : Nat} {A : Option Addr} {l : List α} (h : Rd f w B A l) (hb : Below B w w') : Rd f w' B A l := fun hl => by
  obtain ⟨b, o, e, hB, hc⟩ := h hl
  exact ⟨b, o, e, hB, fun k x hx => (hb.cell (by exact hB)).trans (hc k x hx)⟩
theorem Rd.more {w : World} {B B' : Nat} {A : Option Addr} {l : List α} (h : Rd f w B A l) (hb : B ≤ B') : Rd f w B' A l := fun hl => by
  obtain ⟨b, o, e, hB, hc⟩ := h hl
  exact ⟨b, o, e, by omega, hc⟩
theorem Rd.on {w w' : World} {A : Option Addr} {l : List α} (h : Rd f w w.heap.size A l) (hb : Below w.heap.size w w') : Rd f w' w'.heap.size A l := (h.below hb).more hb.size
theorem Rd.at_ {w : World} {B : Nat} {A : Option Addr} {l : List α} {k : Nat} {x : α} (h : Rd f w B A l) (hx : l[k]? = some x) : ∃ b o, A = some ⟨b, o, none⟩ ∧ b < B ∧ w.cell? ⟨b, o + k, none⟩ = some (f x) := by
  obtain ⟨b, o, e, hB, hc⟩ := h (by rintro rfl; simp at hx)
  exact ⟨b, o, e, hB, hc k x hx⟩
theorem Rd.drop {w : World} {B b o : Nat} {l : List α} (h : Rd f w B (some ⟨b, o, none⟩) l) (n : Nat) : Rd f w B (some ⟨b, o + n, none⟩) (l.drop n) := fun hl => by
  obtain ⟨b', o', e, hB, hc⟩ := h (by rintro rfl; simp at hl)
  injection e with e; injection e with e1 e2; subst e1; subst e2
  refine ⟨b, o + n, rfl, hB, fun k c hk => ?_⟩
  rw [List.getElem?_drop] at hk
  have := hc _ c hk
  rw [Nat.add_assoc]
  exact this
theorem Rd.take {w : World} {B : Nat} {A : Option Addr} {l : List α} (h : Rd f w B A l) (n : Nat) : Rd f w B A (l.take n) := fun hl => by
  obtain ⟨b', o', e, hB, hc⟩ := h (by rintro rfl; simp at hl)
  refine ⟨b', o', e, hB, fun k c hk => ?_⟩
  rw [List.getElem?_take] at hk
  split at hk
  · exact hc k c hk
  · cases hk
theorem Rd.of_own {w : World} {base : Nat} {e : TypeId} {A : Option Addr} {n c : Nat} {l : List α} (h : w.ownsRow base e 1 (.slice A n c) n (l.map f)) : Rd f w w.heap.size A l := fun hl => by
  rcases h.2 with ⟨hv, hn⟩ | ⟨g, cap, cur, hv, hb, hg, hnc, hcm, hcs, ht⟩
  · have := h.1; simp at this; subst hn; exact absurd (List.eq_nil_of_length_eq_zero this) hl
  · injection hv with h1 h2 h3
    subst h1
    refine ⟨g, 0, rfl, (Array.getElem?_eq_some_iff.1 hg).1, fun k c hk => ?_⟩
    have hbc : (l.map f)[k]? = some (f c) := by simp [hk]
    have := h.cells (g := g) rfl k _ hbc
    rw [← this]
    congr 1
    unfold Addr.add; split <;> simp_all
/-- A block's own cells, from its head on. -/
theorem Rd.of_box {w : World} {g : Nat} {t : TypeId} {l : List α} (h : Box w g t (l.map f).toArray) : Rd f w w.heap.size (some ⟨g, 0, none⟩) l := fun hl => by
  refine ⟨g, 0, rfl, h.lt, fun k c hk => ?_⟩
  rw [Nat.zero_add, h.cell k]
  simp [hk]
theorem own_len {w : World} {base : Nat} {e : TypeId} {v : Value} {n : Nat} {l : List α} (h : w.ownsRow base e 1 v n (l.map f)) : n = l.length := by
  have := h.1
  simp at this
  omega
end
theorem own_form1 {w : World} {base : Nat} {e : TypeId} {size : Nat} {v : Value} {n : Nat} {xs : List Value} (h : w.ownsRow base e size v n xs) : ∃ A c, v = .slice A n c ∧ n ≤ c ∧ c ≤ maxLen := by
  rcases h.2 with ⟨rfl, rfl⟩ | ⟨g, cap, cur, rfl, _, _, h, h', _⟩
  · exact ⟨none, 0, rfl, Nat.le_refl _, by simp [maxLen]⟩
  · exact ⟨_, _, rfl, h, h'⟩
theorem own_block {w : World} {base : Nat} {e : TypeId} {size : Nat} {v : Value} {n : Nat} {xs : List Value} (h : w.ownsRow base e size v n xs) {g : Nat} (hg : v.ownBlock = some g) : base ≤ g ∧ g < w.heap.size := by
  obtain ⟨_, h⟩ := h
  rcases h with ⟨rfl, _⟩ | ⟨g', cap, cur, rfl, h1, h2, _⟩
  · simp [Value.ownBlock] at hg
  · simp [Value.ownBlock] at hg; subst hg; exact ⟨h1, (Array.getElem?_eq_some_iff.1 h2).1⟩
def byteV (c : Nat) : Value := .int .u8 (c : Int)
def intV (z : Int) : Value := .int .i64 z
abbrev Byt (w : World) (B : Nat) (A : Option Addr) (bs : List Nat) : Prop := Rd byteV w B A bs
abbrev Its (w : World) (B : Nat) (A : Option Addr) (l : List Int) : Prop := Rd intV w B A l
theorem one_byte (l : List Nat) : ∀ u ∈ l.map byteV, u.oneCell' = true := by intro u hu; simp at hu; obtain ⟨c, _, rfl⟩ := hu; rfl
theorem one_int (l : List Int) : ∀ u ∈ l.map intV, u.oneCell' = true := by intro u hu; simp at hu; obtain ⟨c, _, rfl⟩ := hu; rfl
/-- What lies in a slice that is read, as append's law asks it. -/
theorem Rd.src {α : Type} {f : α → Value} {w : World} {B : Nat} {a : Addr} {l : List α} (h : Rd f w B (some a) l) : ∀ j u, (l.map f)[j]? = some u → w.cell? (a.add j) = some u := by
  intro j u hj
  rw [List.getElem?_map] at hj
  obtain ⟨x, hx, rfl⟩ := Option.map_eq_some_iff.1 hj
  obtain ⟨b, o, e, _, hc⟩ := h.at_ hx
  injection e with e; subst e
  rw [← hc]
  congr 1
  unfold Addr.add; split <;> simp_all
/-- One new element in a block of its own. -/
theorem new_one (w : World) (t : TypeId) (v : Value) : ∀ j u, ([v])[j]? = some u → (w.alloc (.cells #[v] t)).cell? ((⟨w.heap.size, 0, none⟩ : Addr).add j) = some u := by
  intro j u hj
  match j, hj with
  | 0, hj => simp at hj; subst hj; simp [Addr.add]
/-- What a reslice from M on reads as. -/
theorem Rd.cut {α : Type} {f : α → Value} {w : World} {B : Nat} {A : Option Addr} {l : List α} (h : Rd f w B A l) {M c : Nat} (h1 : l.length ≤ c) :
    Rd f w B (if c = M then A else Option.map (fun x => x.add M) A) (l.drop M) := by
  by_cases hl : l.drop M = []
  · rw [hl]; exact Rd.nil
  · have hlt : M < l.length := by
      rcases Nat.lt_or_ge M l.length with h | h
      · exact h
      · exact absurd (List.drop_eq_nil_of_le h) hl
    rw [if_neg (by omega)]
    obtain ⟨b, o, rfl, _, _⟩ := h (by rintro rfl; simp at hlt)
    have e : Option.map (fun x : Addr => x.add M) (some ⟨b, o, none⟩) = some ⟨b, o + M, none⟩ := by
      simp [Addr.add]
    rw [e]
    exact h.drop M
theorem own_far {w : World} {base : Nat} {e : TypeId} {size : Nat} {v : Value} {n : Nat} {xs : List Value} (h : w.ownsRow base e size v n xs) {p : Addr} (hne : v.ownBlock ≠ some p.block) (u : Value) : (w.setCell p u).ownsRow base e size v n xs := by
  refine ⟨h.1, ?_⟩
  rcases h.2 with hn | ⟨g, cap, cur, rfl, hb, hg, rest⟩
  · exact .inl hn
  · exact .inr ⟨g, cap, cur, rfl, hb, (Below.heap_setCell w p u g (fun e => hne (by rw [← e]; rfl))).trans hg, rest⟩
theorem own_le {w : World} {base base' : Nat} {e : TypeId} {size : Nat} {v : Value} {n : Nat} {xs : List Value} (h : w.ownsRow base e size v n xs) (hb : base' ≤ base) : w.ownsRow base' e size v n xs := by
  refine ⟨h.1, ?_⟩
  rcases h.2 with hn | ⟨g, cap, cur, rfl, hbg, rest⟩
  · exact .inl hn
  · exact .inr ⟨g, cap, cur, rfl, Nat.le_trans hb hbg, rest⟩
theorem Own1.nil {w w' : World} {v' : Value} (h : Own1 w w' (.slice none 0 0) v') : Below w.heap.size w w' := h.belowBase (Nat.le_refl _) (fun g hg => by simp [Value.ownBlock] at hg)
/-- Two slices that the call owns, in rows of their own. -/
def Apart (v u : Value) : Prop := ∀ g, v.ownBlock = some g → u.ownBlock ≠ some g
theorem Apart.symm {v u : Value} (h : Apart v u) : Apart u v := fun g hg he => h g he hg
theorem Own1.keep {w w' : World} {v v' u : Value} {base : Nat} {e : TypeId} {size n : Nat} {xs : List Value} (h : Own1 w w' v v') (ho : w.ownsRow base e size u n xs) (ha : Apart v u) : w'.ownsRow base e size u n xs := by
  refine ⟨ho.1, ?_⟩
  rcases ho.2 with hn | ⟨g, cap, cur, rfl, hb, hg, rest⟩
  · exact .inl hn
  · refine .inr ⟨g, cap, cur, rfl, hb, (h.gr.block g (Array.getElem?_eq_some_iff.1 hg).1 (fun e => ?_)).trans hg, rest⟩
    exact ha g e.symm rfl
theorem Own1.apart {w w' : World} {v v' u : Value} {base : Nat} {e : TypeId} {size n : Nat} {xs : List Value} (h : Own1 w w' v v') (ho : w.ownsRow base e size u n xs) (ha : Apart v u) : Apart v' u := by
  intro g hg hu
  rcases h.at_ with h1 | h1
  · exact ha g (by rw [← h1]; exact hg) hu
  · have := h1 g hg; have := (own_block ho hu).2; omega
end Go.Proofs.Ytcadbapccdclaaa
