/-
  No cell of these rows narrows 'for every input' (looked for: loops, veiled, ifaces, maps, wideKeys, modest, calm, conditions, laid).
  DERIVED. THE GIVEN ROWS OF THIS SEAT. 5 by the template 'for every input the law returns true; each argument reads behind the call as it read before'; 0 by the template 'total and deterministic' (their statements: YtgmcpmhpafcihaaTotals.lean).
  GIVEN WITH THE SEED: the statements are not yours to turn. If you find one false, say at which input.
  Laid BY PROGRAM, IN A SANDBOX (cutbox-rows.mjs): the forced cells as the released guide's own fill.sh prints them over the translation de1a0e3881da248b… (all of the seat's roots in one cut). By AI agents, Wed Nov 11 2026. No macro, syntax, notation, axiom, sorry.
-/
import Derived.Test.YtgmcpmhpafcihaaChecked
import GoSem.Claim
import GoSem.ClaimJoined
import GoSem.ClaimMapViews
import Derived.JoinedTies
import Derived.KernelRfl
namespace Go.Proofs.Ytgmcpmhpafcihaa
/- THE CELL 'sum', in the pinned program and in every row, IS THE sha256 OF THE DUMP (.gsa) THAT YtgmcpmhpafcihaaProg.lean LOADS. Nothing in Lean hashes anything: it is a label: what it is worth is what the hold of that sum in a sandbox is worth. -/
noncomputable def Try.pinned : Pinned := { name := "ytgmcpmhpafcihaa", sum := "de1a0e3881da248b0f369ea28c75f6e70031fff88cb79089e3a1c79c028a772f", checked := Try.checked }
namespace Rows
def none {H : Type} : Left H := { results := [], args := [] }

/-- 'lapwinglaw01.RangesBack': WHATEVER THE INPUT: true; the input reads as it did. -/
def rangesBackSpec : ChangeSpec := { name := "rangesBack", fn := fun _ => fun
  | [d1, d2] => { results := [.lit (.bool true)], args := [d1, d2] }
  | _ => none }
def rangesBackRow : OpenClaim := { program := "ytgmcpmhpafcihaa", sum := "de1a0e3881da248b0f369ea28c75f6e70031fff88cb79089e3a1c79c028a772f", func := "lapwing/lapwinglaw01.RangesBack", spec := "rangesBack", apart := false }
def RangesBackSaid : Prop := rangesBackRow.holds Try.pinned (OpenSpec.ofChange rangesBackSpec)

/-- ITS FALSE NEIGHBOUR: 'it returns false'. Refute it at one input. -/
def rangesBackWrong : ChangeSpec := { name := "rangesBack", fn := fun _ => fun
  | [d1, d2] => { results := [.lit (.bool false)], args := [d1, d2] }
  | _ => none }
def RangesBackWrongFalsely : Prop := rangesBackRow.holds Try.pinned (OpenSpec.ofChange rangesBackWrong)

/-- 'lapwinglaw01.RangesMake': WHATEVER THE INPUT: true; the input reads as it did. -/
def rangesMakeSpec : ChangeSpec := { name := "rangesMake", fn := fun _ => fun
  | [d1, d2] => { results := [.lit (.bool true)], args := [d1, d2] }
  | _ => none }
def rangesMakeRow : OpenClaim := { program := "ytgmcpmhpafcihaa", sum := "de1a0e3881da248b0f369ea28c75f6e70031fff88cb79089e3a1c79c028a772f", func := "lapwing/lapwinglaw01.RangesMake", spec := "rangesMake", apart := false }
def RangesMakeSaid : Prop := rangesMakeRow.holds Try.pinned (OpenSpec.ofChange rangesMakeSpec)

/-- ITS FALSE NEIGHBOUR: 'it returns false'. Refute it at one input. -/
def rangesMakeWrong : ChangeSpec := { name := "rangesMake", fn := fun _ => fun
  | [d1, d2] => { results := [.lit (.bool false)], args := [d1, d2] }
  | _ => none }
def RangesMakeWrongFalsely : Prop := rangesMakeRow.holds Try.pinned (OpenSpec.ofChange rangesMakeWrong)

/-- 'lapwinglaw01.RangesThree': WHATEVER THE INPUT: true; the input reads as it did. -/
def rangesThreeSpec : ChangeSpec := { name := "rangesThree", fn := fun _ => fun
  | [d1, d2, d3] => { results := [.lit (.bool true)], args := [d1, d2, d3] }
  | _ => none }
def rangesThreeRow : OpenClaim := { program := "ytgmcpmhpafcihaa", sum := "de1a0e3881da248b0f369ea28c75f6e70031fff88cb79089e3a1c79c028a772f", func := "lapwing/lapwinglaw01.RangesThree", spec := "rangesThree", unfollowed := true, recurses := true, apart := false }
def RangesThreeSaid : Prop := rangesThreeRow.holds Try.pinned (OpenSpec.ofChange rangesThreeSpec)

/-- ITS FALSE NEIGHBOUR: 'it returns false'. Refute it at one input. -/
def rangesThreeWrong : ChangeSpec := { name := "rangesThree", fn := fun _ => fun
  | [d1, d2, d3] => { results := [.lit (.bool false)], args := [d1, d2, d3] }
  | _ => none }
def RangesThreeWrongFalsely : Prop := rangesThreeRow.holds Try.pinned (OpenSpec.ofChange rangesThreeWrong)

/-- 'lapwinglaw01.RangesEdges': WHATEVER THE INPUT: true; the input reads as it did. -/
def rangesEdgesSpec : ChangeSpec := { name := "rangesEdges", fn := fun _ => fun
  | [d1, d2] => { results := [.lit (.bool true)], args := [d1, d2] }
  | _ => none }
def rangesEdgesRow : OpenClaim := { program := "ytgmcpmhpafcihaa", sum := "de1a0e3881da248b0f369ea28c75f6e70031fff88cb79089e3a1c79c028a772f", func := "lapwing/lapwinglaw01.RangesEdges", spec := "rangesEdges", apart := false }
def RangesEdgesSaid : Prop := rangesEdgesRow.holds Try.pinned (OpenSpec.ofChange rangesEdgesSpec)

/-- ITS FALSE NEIGHBOUR: 'it returns false'. Refute it at one input. -/
def rangesEdgesWrong : ChangeSpec := { name := "rangesEdges", fn := fun _ => fun
  | [d1, d2] => { results := [.lit (.bool false)], args := [d1, d2] }
  | _ => none }
def RangesEdgesWrongFalsely : Prop := rangesEdgesRow.holds Try.pinned (OpenSpec.ofChange rangesEdgesWrong)

/-- 'lapwinglaw01.RangesCount': WHATEVER THE INPUT: true; the input reads as it did. -/
def rangesCountSpec : ChangeSpec := { name := "rangesCount", fn := fun _ => fun
  | [d1, d2] => { results := [.lit (.bool true)], args := [d1, d2] }
  | _ => none }
def rangesCountRow : OpenClaim := { program := "ytgmcpmhpafcihaa", sum := "de1a0e3881da248b0f369ea28c75f6e70031fff88cb79089e3a1c79c028a772f", func := "lapwing/lapwinglaw01.RangesCount", spec := "rangesCount", unfollowed := true, recurses := true, apart := false }
def RangesCountSaid : Prop := rangesCountRow.holds Try.pinned (OpenSpec.ofChange rangesCountSpec)

/-- ITS FALSE NEIGHBOUR: 'it returns false'. Refute it at one input. -/
def rangesCountWrong : ChangeSpec := { name := "rangesCount", fn := fun _ => fun
  | [d1, d2] => { results := [.lit (.bool false)], args := [d1, d2] }
  | _ => none }
def RangesCountWrongFalsely : Prop := rangesCountRow.holds Try.pinned (OpenSpec.ofChange rangesCountWrong)

/- THE SECOND FORM. 'bulk': how many values and letters a reading holds, each counted each time it is reached (what is shared counts as often as it is met; a slice's spare places count too). A statement '..UptoSaid' is the law's where the arguments, and the package variables that the reading takes, are together of bulk at most 1048576: NARROWER than '..Said'. Prove '..Said' where nothing that the law and all that it calls make is longer than what came in: it says more and counts as full. Else prove '..UptoSaid'. A law counts once. -/
mutual
def uptoBulk {H : Type} : DataW H → Nat
  | .lit (.string bytes) => bytes.length + 1
  | .lit _ => 1
  | .nil => 1
  | .ptr d => uptoBulk d + 1
  | .slice elems spare => uptoBulkAll elems + uptoBulkAll spare + 1
  | .agg parts => uptoBulkAll parts + 1
  | .iface _ d => uptoBulk d + 1
  | .map entries => uptoBulkEntries entries + 1
  | .held _ => 1
def uptoBulkAll {H : Type} : List (DataW H) → Nat
  | [] => 0
  | d :: r => uptoBulk d + uptoBulkAll r
def uptoBulkEntries {H : Type} : List (Lit × DataW H) → Nat
  | [] => 0
  | x :: r => uptoBulkEntry x + uptoBulkEntries r
def uptoBulkEntry {H : Type} : Lit × DataW H → Nat
  | (.string bytes, d) => bytes.length + uptoBulk d + 1
  | (_, d) => uptoBulk d + 1
 end
def uptoSmall : (H : Type) → List (DataW H) → Bool := fun _ ds => decide (uptoBulkAll ds ≤ 1048576)
def OpenSpec.upto (s : _root_.Go.ChangeSpec) : _root_.Go.OpenSpec := { _root_.Go.OpenSpec.ofChange s with cond := some uptoSmall }

/-- 'lapwinglaw01.RangesBack', WHERE WHAT IT READS IS OF BULK AT MOST 1048576: true; the input reads as it did. -/
def rangesBackUptoRow : OpenClaim := { program := "ytgmcpmhpafcihaa", sum := "de1a0e3881da248b0f369ea28c75f6e70031fff88cb79089e3a1c79c028a772f", func := "lapwing/lapwinglaw01.RangesBack", spec := "rangesBack", apart := false, narrowed := true }
def RangesBackUptoSaid : Prop := rangesBackUptoRow.holds Try.pinned (OpenSpec.upto rangesBackSpec)

/-- 'lapwinglaw01.RangesMake', WHERE WHAT IT READS IS OF BULK AT MOST 1048576: true; the input reads as it did. -/
def rangesMakeUptoRow : OpenClaim := { program := "ytgmcpmhpafcihaa", sum := "de1a0e3881da248b0f369ea28c75f6e70031fff88cb79089e3a1c79c028a772f", func := "lapwing/lapwinglaw01.RangesMake", spec := "rangesMake", apart := false, narrowed := true }
def RangesMakeUptoSaid : Prop := rangesMakeUptoRow.holds Try.pinned (OpenSpec.upto rangesMakeSpec)

/-- 'lapwinglaw01.RangesThree', WHERE WHAT IT READS IS OF BULK AT MOST 1048576: true; the input reads as it did. -/
def rangesThreeUptoRow : OpenClaim := { program := "ytgmcpmhpafcihaa", sum := "de1a0e3881da248b0f369ea28c75f6e70031fff88cb79089e3a1c79c028a772f", func := "lapwing/lapwinglaw01.RangesThree", spec := "rangesThree", unfollowed := true, recurses := true, apart := false, narrowed := true }
def RangesThreeUptoSaid : Prop := rangesThreeUptoRow.holds Try.pinned (OpenSpec.upto rangesThreeSpec)

/-- 'lapwinglaw01.RangesEdges', WHERE WHAT IT READS IS OF BULK AT MOST 1048576: true; the input reads as it did. -/
def rangesEdgesUptoRow : OpenClaim := { program := "ytgmcpmhpafcihaa", sum := "de1a0e3881da248b0f369ea28c75f6e70031fff88cb79089e3a1c79c028a772f", func := "lapwing/lapwinglaw01.RangesEdges", spec := "rangesEdges", apart := false, narrowed := true }
def RangesEdgesUptoSaid : Prop := rangesEdgesUptoRow.holds Try.pinned (OpenSpec.upto rangesEdgesSpec)

/-- 'lapwinglaw01.RangesCount', WHERE WHAT IT READS IS OF BULK AT MOST 1048576: true; the input reads as it did. -/
def rangesCountUptoRow : OpenClaim := { program := "ytgmcpmhpafcihaa", sum := "de1a0e3881da248b0f369ea28c75f6e70031fff88cb79089e3a1c79c028a772f", func := "lapwing/lapwinglaw01.RangesCount", spec := "rangesCount", unfollowed := true, recurses := true, apart := false, narrowed := true }
def RangesCountUptoSaid : Prop := rangesCountUptoRow.holds Try.pinned (OpenSpec.upto rangesCountSpec)

end Rows
end Go.Proofs.Ytgmcpmhpafcihaa
