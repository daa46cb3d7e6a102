/- What the rows' conditions give the walks: an argument that is a text. -/
import Derived.Test.YtlcnlfjjglcobaaDoorLaw
import Derived.Test.YtlcnlfjjglcobaaDoorPar05
import Derived.LaidMore
import Derived.ChangeMaps5
import Derived.Lay
import Derived.ProofKit
import Derived.OpenShut
import Derived.Stop.Joined
namespace Go.Proofs.YtlcnlfjjglcobaaDoor
open Go Go.RowKit Go.ChangeShapes Go.WideShapes Go.ChangeAt Go.Deep
set_option linter.unusedVariables false
set_option linter.unusedSimpArgs false

theorem own : ownKnob Tryd.prog.godebug = none := by kernel_rfl
theorem laid : laidOutB Tryd.prog = true := by kernel_rfl
theorem wf_i64 {k : Int} (h : (Lit.int .i64 k).wf = true) : I64 k := by
  have := range_i64 (zs := [k]) (by intro n hn; simp at hn; subst hn; exact h) 0
  unfold I64
  simpa using this
theorem wf_u8 {k : Int} (h : (Lit.int .u8 k).wf = true) : 0 ≤ k ∧ k < 256 := by
  have := range_u8 (zs := [k]) (by intro n hn; simp at hn; subst hn; exact h) 0
  simp at this
  omega
theorem str_of (s : ByteArray) : ∃ bs : List Nat, s = strS bs ∧ ∀ c ∈ bs, c < 256 := by
  refine ⟨s.data.toList.map UInt8.toNat, ?_, ?_⟩
  · apply ByteArray.ext
    unfold strS
    rw [List.map_map]
    have : (UInt8.ofNat ∘ UInt8.toNat) = id := by funext x; simp
    rw [this, List.map_id]
  · intro c hc
    obtain ⟨x, _, rfl⟩ := List.mem_map.1 hc
    exact x.toNat_lt
end Go.Proofs.YtlcnlfjjglcobaaDoor
