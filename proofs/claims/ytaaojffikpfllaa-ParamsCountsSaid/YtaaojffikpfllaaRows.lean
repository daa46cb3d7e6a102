/-
  No cell of these rows narrows 'for every input' (looked for: loops, veiled, ifaces, maps, wideKeys, modest, calm, conditions, laid).
  DERIVED. THE GIVEN ROWS OF THIS SEAT. 2 by the template 'for every input the law returns true; each argument reads behind the call as it read before'; 0 by the template 'total and deterministic' (their statements: YtaaojffikpfllaaTotals.lean).
  GIVEN WITH THE SEED: the statements are not yours to turn. If you find one false, say at which input.
  Laid BY PROGRAM, IN A SANDBOX (cutbox-rows.mjs): the forced cells as the released guide's own fill.sh prints them over the translation 7025baeb9e19bb73… (all of the seat's roots in one cut). By AI agents, Wed Nov 11 2026. No macro, syntax, notation, axiom, sorry.
-/
import Derived.Test.YtaaojffikpfllaaChecked
import GoSem.Claim
import GoSem.ClaimJoined
import GoSem.ClaimMapViews
import Derived.JoinedTies
import Derived.KernelRfl
namespace Go.Proofs.Ytaaojffikpfllaa
/- THE CELL 'sum', in the pinned program and in every row, IS THE sha256 OF THE DUMP (.gsa) THAT YtaaojffikpfllaaProg.lean LOADS. Nothing in Lean hashes anything: it is a label: what it is worth is what the hold of that sum in a sandbox is worth. -/
noncomputable def Try.pinned : Pinned := { name := "ytaaojffikpfllaa", sum := "7025baeb9e19bb737c7ab03b12bf3c5e5eccca882d0b68573e5afe60e6d66ef9", checked := Try.checked }
namespace Rows
def none {H : Type} : Left H := { results := [], args := [] }

/-- 'lapwinglaw05.ParamsCounts': WHATEVER THE INPUT: true; the input reads as it did. -/
def paramsCountsSpec : ChangeSpec := { name := "paramsCounts", fn := fun _ => fun
  | [d1, d2, d3, d4] => { results := [.lit (.bool true)], args := [d1, d2, d3, d4] }
  | _ => none }
def paramsCountsRow : OpenClaim := { program := "ytaaojffikpfllaa", sum := "7025baeb9e19bb737c7ab03b12bf3c5e5eccca882d0b68573e5afe60e6d66ef9", func := "lapwing/lapwinglaw05.ParamsCounts", spec := "paramsCounts", unfollowed := true, recurses := true, apart := false }
def ParamsCountsSaid : Prop := paramsCountsRow.holds Try.pinned (OpenSpec.ofChange paramsCountsSpec)

/-- ITS FALSE NEIGHBOUR: 'it returns false'. Refute it at one input. -/
def paramsCountsWrong : ChangeSpec := { name := "paramsCounts", fn := fun _ => fun
  | [d1, d2, d3, d4] => { results := [.lit (.bool false)], args := [d1, d2, d3, d4] }
  | _ => none }
def ParamsCountsWrongFalsely : Prop := paramsCountsRow.holds Try.pinned (OpenSpec.ofChange paramsCountsWrong)

/-- 'lapwinglaw05.ParamsSteps': WHATEVER THE INPUT: true; the input reads as it did. -/
def paramsStepsSpec : ChangeSpec := { name := "paramsSteps", fn := fun _ => fun
  | [d] => { results := [.lit (.bool true)], args := [d] }
  | _ => none }
def paramsStepsRow : OpenClaim := { program := "ytaaojffikpfllaa", sum := "7025baeb9e19bb737c7ab03b12bf3c5e5eccca882d0b68573e5afe60e6d66ef9", func := "lapwing/lapwinglaw05.ParamsSteps", spec := "paramsSteps", unfollowed := true, recurses := true, apart := false }
def ParamsStepsSaid : Prop := paramsStepsRow.holds Try.pinned (OpenSpec.ofChange paramsStepsSpec)

/-- ITS FALSE NEIGHBOUR: 'it returns false'. Refute it at one input. -/
def paramsStepsWrong : ChangeSpec := { name := "paramsSteps", fn := fun _ => fun
  | [d] => { results := [.lit (.bool false)], args := [d] }
  | _ => none }
def ParamsStepsWrongFalsely : Prop := paramsStepsRow.holds Try.pinned (OpenSpec.ofChange paramsStepsWrong)

/- THE SECOND FORM. 'bulk': how many values and letters a reading holds, each counted each time it is reached (what is shared counts as often as it is met; a slice's spare places count too). A statement '..UptoSaid' is the law's where the arguments, and the package variables that the reading takes, are together of bulk at most 1048576: NARROWER than '..Said'. Prove '..Said' where nothing that the law and all that it calls make is longer than what came in: it says more and counts as full. Else prove '..UptoSaid'. A law counts once. -/
mutual
def uptoBulk {H : Type} : DataW H → Nat
  | .lit (.string bytes) => bytes.length + 1
  | .lit _ => 1
  | .nil => 1
  | .ptr d => uptoBulk d + 1
  | .slice elems spare => uptoBulkAll elems + uptoBulkAll spare + 1
  | .agg parts => uptoBulkAll parts + 1
  | .iface _ d => uptoBulk d + 1
  | .map entries => uptoBulkEntries entries + 1
  | .held _ => 1
def uptoBulkAll {H : Type} : List (DataW H) → Nat
  | [] => 0
  | d :: r => uptoBulk d + uptoBulkAll r
def uptoBulkEntries {H : Type} : List (Lit × DataW H) → Nat
  | [] => 0
  | x :: r => uptoBulkEntry x + uptoBulkEntries r
def uptoBulkEntry {H : Type} : Lit × DataW H → Nat
  | (.string bytes, d) => bytes.length + uptoBulk d + 1
  | (_, d) => uptoBulk d + 1
 end
def uptoSmall : (H : Type) → List (DataW H) → Bool := fun _ ds => decide (uptoBulkAll ds ≤ 1048576)
def OpenSpec.upto (s : _root_.Go.ChangeSpec) : _root_.Go.OpenSpec := { _root_.Go.OpenSpec.ofChange s with cond := some uptoSmall }

/-- 'lapwinglaw05.ParamsCounts', WHERE WHAT IT READS IS OF BULK AT MOST 1048576: true; the input reads as it did. -/
def paramsCountsUptoRow : OpenClaim := { program := "ytaaojffikpfllaa", sum := "7025baeb9e19bb737c7ab03b12bf3c5e5eccca882d0b68573e5afe60e6d66ef9", func := "lapwing/lapwinglaw05.ParamsCounts", spec := "paramsCounts", unfollowed := true, recurses := true, apart := false, narrowed := true }
def ParamsCountsUptoSaid : Prop := paramsCountsUptoRow.holds Try.pinned (OpenSpec.upto paramsCountsSpec)

/-- 'lapwinglaw05.ParamsSteps', WHERE WHAT IT READS IS OF BULK AT MOST 1048576: true; the input reads as it did. -/
def paramsStepsUptoRow : OpenClaim := { program := "ytaaojffikpfllaa", sum := "7025baeb9e19bb737c7ab03b12bf3c5e5eccca882d0b68573e5afe60e6d66ef9", func := "lapwing/lapwinglaw05.ParamsSteps", spec := "paramsSteps", unfollowed := true, recurses := true, apart := false, narrowed := true }
def ParamsStepsUptoSaid : Prop := paramsStepsUptoRow.holds Try.pinned (OpenSpec.upto paramsStepsSpec)

end Rows
end Go.Proofs.Ytaaojffikpfllaa
