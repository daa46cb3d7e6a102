/- A box of four cells that is stored to, cells in memory beside it. -/
import Derived.Test.YtcadbapccdclaaaMemC
namespace Go.Proofs.Ytcadbapccdclaaa
open Go Go.RowKit
set_option linter.unusedVariables false
set_option linter.unusedSimpArgs false

theorem Box.put4r {w W : World} {B g : Nat} {t : TypeId} {o0 o1 o2 o3 : Value} (h : Box W g t #[o0, o1, o2, o3]) (hb : Below B w W) (hg : B ≤ g) (v0 v1 v2 v3 : Value) :
    Box ((((W.setCell ⟨g, 0, none⟩ v0).setCell ⟨g, 1, none⟩ v1).setCell ⟨g, 2, none⟩ v2).setCell ⟨g, 3, none⟩ v3) g t #[v0, v1, v2, v3] ∧
    Below B w ((((W.setCell ⟨g, 0, none⟩ v0).setCell ⟨g, 1, none⟩ v1).setCell ⟨g, 2, none⟩ v2).setCell ⟨g, 3, none⟩ v3) :=
  have h0 : Box (W.setCell ⟨g, 0, none⟩ v0) g t #[v0, o1, o2, o3] := h.set_ 0 v0
  have h1 : Box ((W.setCell ⟨g, 0, none⟩ v0).setCell ⟨g, 1, none⟩ v1) g t #[v0, v1, o2, o3] := h0.set_ 1 v1
  have h2 : Box (((W.setCell ⟨g, 0, none⟩ v0).setCell ⟨g, 1, none⟩ v1).setCell ⟨g, 2, none⟩ v2) g t #[v0, v1, v2, o3] := h1.set_ 2 v2
  ⟨h2.set_ 3 v3, (((hb.setCell (p := ⟨g, 0, none⟩) hg v0).setCell (p := ⟨g, 1, none⟩) hg v1).setCell (p := ⟨g, 2, none⟩) hg v2).setCell (p := ⟨g, 3, none⟩) hg v3⟩
/-- Cells in memory stay where another box is stored to. -/
theorem InC.box4 {W : World} {A : Option Addr} {c g : Nat} {l : List Cl} {t : TypeId} {cs : Array Value} (h : InC W A c l) (hb : Box W g t cs) (hne : ∀ b o, A = some ⟨b, o, none⟩ → b ≠ g) (v0 v1 v2 v3 : Value) :
    InC ((((W.setCell ⟨g, 0, none⟩ v0).setCell ⟨g, 1, none⟩ v1).setCell ⟨g, 2, none⟩ v2).setCell ⟨g, 3, none⟩ v3) A c l := by
  refine ⟨fun hl => ?_, h.cap, h.max⟩
  obtain ⟨b, o, e, hB, hc⟩ := h.rd hl
  have hn := hne b o e
  refine ⟨b, o, e, by simpa using hB, fun k x hx j u hu => ?_⟩
  rw [← hc k x hx j u hu]
  have hstep : ∀ (V : World) (i : Nat) (v : Value) (q : Nat), (V.setCell ⟨g, i, none⟩ v).cell? ⟨b, q, none⟩ = V.cell? ⟨b, q, none⟩ := fun V i v q => by
    have := Below.heap_setCell V ⟨g, i, none⟩ v b (by simpa using hn)
    unfold World.cell?
    simp only [this]
  rw [hstep, hstep, hstep, hstep]
theorem own_ne {W : World} {base g : Nat} {A : Option Addr} {c : Nat} {l : List Cl} (h : OwnC W base A c l) (hg : g < base) : ∀ b o, A = some ⟨b, o, none⟩ → b ≠ g := by
  intro b o e
  subst e
  rcases h.2 with ⟨hv, _⟩ | ⟨g', _, _, hv, hb, _⟩
  · injection hv with hv; cases hv
  · injection hv with hv; injection hv with hv; injection hv with hv
    omega
theorem InC.far4 {W : World} {A : Option Addr} {c g : Nat} {l : List Cl} {t : TypeId} {cs : Array Value} (h : InC W A c l) (hb : Box W g t cs) (hcs : cs.size ≤ 6) (v0 v1 v2 v3 : Value) :
    InC ((((W.setCell ⟨g, 0, none⟩ v0).setCell ⟨g, 1, none⟩ v1).setCell ⟨g, 2, none⟩ v2).setCell ⟨g, 3, none⟩ v3) A c l := by
  by_cases hl : l = []
  · subst hl
    exact InC.nil h.max
  · refine h.box4 hb (fun b o e he => ?_) v0 v1 v2 v3
    subst he
    obtain ⟨x, m, rfl⟩ := List.exists_cons_of_ne_nil hl
    obtain ⟨b', o', e', _, hc⟩ := h.rd hl
    rw [e] at e'
    injection e' with e'
    injection e' with e1 e2
    subst e1; subst e2
    have h6 := hc 0 x rfl 6 _ rfl
    rw [hb.cell, Array.getElem?_eq_none (by omega)] at h6
    cases h6
/-- The answer's place is stored to: the class of worlds holds behind it. -/
theorem below_four {w0 W : World} {B g : Nat} (h : Below B w0 W) (hg : B ≤ g) (v0 v1 v2 v3 : Value) : Below B w0 ((((W.setCell ⟨g, 0, none⟩ v0).setCell ⟨g, 1, none⟩ v1).setCell ⟨g, 2, none⟩ v2).setCell ⟨g, 3, none⟩ v3) :=
  (((h.setCell (p := ⟨g, 0, none⟩) hg v0).setCell (p := ⟨g, 1, none⟩) hg v1).setCell (p := ⟨g, 2, none⟩) hg v2).setCell (p := ⟨g, 3, none⟩) hg v3
end Go.Proofs.Ytcadbapccdclaaa
