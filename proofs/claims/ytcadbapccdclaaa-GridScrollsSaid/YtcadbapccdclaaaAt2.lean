/- Of a row of rows at a known place, one. -/
import Derived.Test.YtcadbapccdclaaaMem09
namespace Go.Proofs.Ytcadbapccdclaaa
open Go Go.RowKit
set_option linter.unusedVariables false
set_option linter.unusedSimpArgs false

theorem RdG.at2 {w : World} {b o c : Nat} {l : List Rl} {k : Nat} {e : Rl} (h : RdG w (some ⟨b, o, none⟩) c l) (hx : l[k]? = some e) : b < w.heap.size ∧
    w.cell? ⟨b, o + k * 4, none⟩ = some (.slice e.A e.r.cs.length e.c) ∧ w.cell? ⟨b, o + k * 4 + 1, none⟩ = some (.bool e.r.wrap) ∧ w.cell? ⟨b, o + k * 4 + 2, none⟩ = some (.int .i64 e.r.dir) ∧ w.cell? ⟨b, o + k * 4 + 3, none⟩ = some (.bool e.r.ex) := by
  obtain ⟨b', o', ha, hB, h0, h1, h2, h3⟩ := h.at_ hx
  injection ha with ha
  injection ha with ha ho
  subst ha; subst ho
  exact ⟨hB, h0, h1, h2, h3⟩
end Go.Proofs.Ytcadbapccdclaaa
