/-
  No cell of these rows narrows 'for every input' (looked for: loops, veiled, ifaces, maps, wideKeys, modest, calm, conditions, laid).
  DERIVED. THE GIVEN ROWS OF THIS SEAT. 4 by the template 'for every input the law returns true; each argument reads behind the call as it read before'; 0 by the template 'total and deterministic' (their statements: YtinbdpfjpcgikaaTotals.lean).
  GIVEN WITH THE SEED: the statements are not yours to turn. If you find one false, say at which input.
  Laid BY PROGRAM, IN A SANDBOX (cutbox-rows.mjs): the forced cells as the released guide's own fill.sh prints them over the translation 39b0a7e3c8eb2ffc… (all of the seat's roots in one cut). By AI agents, Wed Nov 11 2026. No macro, syntax, notation, axiom, sorry.
-/
import Derived.Test.YtinbdpfjpcgikaaChecked
import GoSem.Claim
import GoSem.ClaimJoined
import GoSem.ClaimMapViews
import Derived.JoinedTies
import Derived.KernelRfl
namespace Go.Proofs.Ytinbdpfjpcgikaa
/- THE CELL 'sum', in the pinned program and in every row, IS THE sha256 OF THE DUMP (.gsa) THAT YtinbdpfjpcgikaaProg.lean LOADS. Nothing in Lean hashes anything: it is a label: what it is worth is what the hold of that sum in a sandbox is worth. -/
noncomputable def Try.pinned : Pinned := { name := "ytinbdpfjpcgikaa", sum := "39b0a7e3c8eb2ffc7bf9840253d845b0ac07a9e97a8bb27c37c239ce28ada136", checked := Try.checked }
namespace Rows
def none {H : Type} : Left H := { results := [], args := [] }

/-- 'lapwinglaw10.HistoryIs': WHATEVER THE INPUT: true; the input reads as it did. -/
def historyIsSpec : ChangeSpec := { name := "historyIs", fn := fun _ => fun
  | [d1, d2, d3, d4] => { results := [.lit (.bool true)], args := [d1, d2, d3, d4] }
  | _ => none }
def historyIsRow : OpenClaim := { program := "ytinbdpfjpcgikaa", sum := "39b0a7e3c8eb2ffc7bf9840253d845b0ac07a9e97a8bb27c37c239ce28ada136", func := "lapwing/lapwinglaw10.HistoryIs", spec := "historyIs", apart := false }
def HistoryIsSaid : Prop := historyIsRow.holds Try.pinned (OpenSpec.ofChange historyIsSpec)

/-- ITS FALSE NEIGHBOUR: 'it returns false'. Refute it at one input. -/
def historyIsWrong : ChangeSpec := { name := "historyIs", fn := fun _ => fun
  | [d1, d2, d3, d4] => { results := [.lit (.bool false)], args := [d1, d2, d3, d4] }
  | _ => none }
def HistoryIsWrongFalsely : Prop := historyIsRow.holds Try.pinned (OpenSpec.ofChange historyIsWrong)

/-- 'lapwinglaw10.HistoryTakes': WHATEVER THE INPUT: true; the input reads as it did. -/
def historyTakesSpec : ChangeSpec := { name := "historyTakes", fn := fun _ => fun
  | [d1, d2] => { results := [.lit (.bool true)], args := [d1, d2] }
  | _ => none }
def historyTakesRow : OpenClaim := { program := "ytinbdpfjpcgikaa", sum := "39b0a7e3c8eb2ffc7bf9840253d845b0ac07a9e97a8bb27c37c239ce28ada136", func := "lapwing/lapwinglaw10.HistoryTakes", spec := "historyTakes", apart := false }
def HistoryTakesSaid : Prop := historyTakesRow.holds Try.pinned (OpenSpec.ofChange historyTakesSpec)

/-- ITS FALSE NEIGHBOUR: 'it returns false'. Refute it at one input. -/
def historyTakesWrong : ChangeSpec := { name := "historyTakes", fn := fun _ => fun
  | [d1, d2] => { results := [.lit (.bool false)], args := [d1, d2] }
  | _ => none }
def HistoryTakesWrongFalsely : Prop := historyTakesRow.holds Try.pinned (OpenSpec.ofChange historyTakesWrong)

/-- 'lapwinglaw10.HistoryWindow': WHATEVER THE INPUT: true; the input reads as it did. -/
def historyWindowSpec : ChangeSpec := { name := "historyWindow", fn := fun _ => fun
  | [d1, d2, d3] => { results := [.lit (.bool true)], args := [d1, d2, d3] }
  | _ => none }
def historyWindowRow : OpenClaim := { program := "ytinbdpfjpcgikaa", sum := "39b0a7e3c8eb2ffc7bf9840253d845b0ac07a9e97a8bb27c37c239ce28ada136", func := "lapwing/lapwinglaw10.HistoryWindow", spec := "historyWindow", apart := false }
def HistoryWindowSaid : Prop := historyWindowRow.holds Try.pinned (OpenSpec.ofChange historyWindowSpec)

/-- ITS FALSE NEIGHBOUR: 'it returns false'. Refute it at one input. -/
def historyWindowWrong : ChangeSpec := { name := "historyWindow", fn := fun _ => fun
  | [d1, d2, d3] => { results := [.lit (.bool false)], args := [d1, d2, d3] }
  | _ => none }
def HistoryWindowWrongFalsely : Prop := historyWindowRow.holds Try.pinned (OpenSpec.ofChange historyWindowWrong)

/-- 'lapwinglaw10.HistoryLots': WHATEVER THE INPUT: true; the input reads as it did. -/
def historyLotsSpec : ChangeSpec := { name := "historyLots", fn := fun _ => fun
  | [d1, d2, d3] => { results := [.lit (.bool true)], args := [d1, d2, d3] }
  | _ => none }
def historyLotsRow : OpenClaim := { program := "ytinbdpfjpcgikaa", sum := "39b0a7e3c8eb2ffc7bf9840253d845b0ac07a9e97a8bb27c37c239ce28ada136", func := "lapwing/lapwinglaw10.HistoryLots", spec := "historyLots", apart := false }
def HistoryLotsSaid : Prop := historyLotsRow.holds Try.pinned (OpenSpec.ofChange historyLotsSpec)

/-- ITS FALSE NEIGHBOUR: 'it returns false'. Refute it at one input. -/
def historyLotsWrong : ChangeSpec := { name := "historyLots", fn := fun _ => fun
  | [d1, d2, d3] => { results := [.lit (.bool false)], args := [d1, d2, d3] }
  | _ => none }
def HistoryLotsWrongFalsely : Prop := historyLotsRow.holds Try.pinned (OpenSpec.ofChange historyLotsWrong)

/- THE SECOND FORM. 'bulk': how many values and letters a reading holds, each counted each time it is reached (what is shared counts as often as it is met; a slice's spare places count too). A statement '..UptoSaid' is the law's where the arguments, and the package variables that the reading takes, are together of bulk at most 1048576: NARROWER than '..Said'. Prove '..Said' where nothing that the law and all that it calls make is longer than what came in: it says more and counts as full. Else prove '..UptoSaid'. A law counts once. -/
mutual
def uptoBulk {H : Type} : DataW H → Nat
  | .lit (.string bytes) => bytes.length + 1
  | .lit _ => 1
  | .nil => 1
  | .ptr d => uptoBulk d + 1
  | .slice elems spare => uptoBulkAll elems + uptoBulkAll spare + 1
  | .agg parts => uptoBulkAll parts + 1
  | .iface _ d => uptoBulk d + 1
  | .map entries => uptoBulkEntries entries + 1
  | .held _ => 1
def uptoBulkAll {H : Type} : List (DataW H) → Nat
  | [] => 0
  | d :: r => uptoBulk d + uptoBulkAll r
def uptoBulkEntries {H : Type} : List (Lit × DataW H) → Nat
  | [] => 0
  | x :: r => uptoBulkEntry x + uptoBulkEntries r
def uptoBulkEntry {H : Type} : Lit × DataW H → Nat
  | (.string bytes, d) => bytes.length + uptoBulk d + 1
  | (_, d) => uptoBulk d + 1
 end
def uptoSmall : (H : Type) → List (DataW H) → Bool := fun _ ds => decide (uptoBulkAll ds ≤ 1048576)
def OpenSpec.upto (s : _root_.Go.ChangeSpec) : _root_.Go.OpenSpec := { _root_.Go.OpenSpec.ofChange s with cond := some uptoSmall }

/-- 'lapwinglaw10.HistoryIs', WHERE WHAT IT READS IS OF BULK AT MOST 1048576: true; the input reads as it did. -/
def historyIsUptoRow : OpenClaim := { program := "ytinbdpfjpcgikaa", sum := "39b0a7e3c8eb2ffc7bf9840253d845b0ac07a9e97a8bb27c37c239ce28ada136", func := "lapwing/lapwinglaw10.HistoryIs", spec := "historyIs", apart := false, narrowed := true }
def HistoryIsUptoSaid : Prop := historyIsUptoRow.holds Try.pinned (OpenSpec.upto historyIsSpec)

/-- 'lapwinglaw10.HistoryTakes', WHERE WHAT IT READS IS OF BULK AT MOST 1048576: true; the input reads as it did. -/
def historyTakesUptoRow : OpenClaim := { program := "ytinbdpfjpcgikaa", sum := "39b0a7e3c8eb2ffc7bf9840253d845b0ac07a9e97a8bb27c37c239ce28ada136", func := "lapwing/lapwinglaw10.HistoryTakes", spec := "historyTakes", apart := false, narrowed := true }
def HistoryTakesUptoSaid : Prop := historyTakesUptoRow.holds Try.pinned (OpenSpec.upto historyTakesSpec)

/-- 'lapwinglaw10.HistoryWindow', WHERE WHAT IT READS IS OF BULK AT MOST 1048576: true; the input reads as it did. -/
def historyWindowUptoRow : OpenClaim := { program := "ytinbdpfjpcgikaa", sum := "39b0a7e3c8eb2ffc7bf9840253d845b0ac07a9e97a8bb27c37c239ce28ada136", func := "lapwing/lapwinglaw10.HistoryWindow", spec := "historyWindow", apart := false, narrowed := true }
def HistoryWindowUptoSaid : Prop := historyWindowUptoRow.holds Try.pinned (OpenSpec.upto historyWindowSpec)

/-- 'lapwinglaw10.HistoryLots', WHERE WHAT IT READS IS OF BULK AT MOST 1048576: true; the input reads as it did. -/
def historyLotsUptoRow : OpenClaim := { program := "ytinbdpfjpcgikaa", sum := "39b0a7e3c8eb2ffc7bf9840253d845b0ac07a9e97a8bb27c37c239ce28ada136", func := "lapwing/lapwinglaw10.HistoryLots", spec := "historyLots", apart := false, narrowed := true }
def HistoryLotsUptoSaid : Prop := historyLotsUptoRow.holds Try.pinned (OpenSpec.upto historyLotsSpec)

end Rows
end Go.Proofs.Ytinbdpfjpcgikaa
