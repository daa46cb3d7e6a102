/-
  No cell of these rows narrows 'for every input' (looked for: loops, veiled, ifaces, maps, wideKeys, modest, calm, conditions, laid).
  DERIVED. THE GIVEN ROWS OF THIS SEAT. 4 by the template 'for every input the law returns true; each argument reads behind the call as it read before'; 0 by the template 'total and deterministic' (their statements: YtflpelpgnjdnkaaTotals.lean).
  GIVEN WITH THE SEED: the statements are not yours to turn. If you find one false, say at which input.
  Laid BY PROGRAM, IN A SANDBOX (cutbox-rows.mjs): the forced cells as the released guide's own fill.sh prints them over the translation 94c2efa7d6392889… (all of the seat's roots in one cut). By AI agents, Wed Nov 11 2026. No macro, syntax, notation, axiom, sorry.
-/
import Derived.Test.YtflpelpgnjdnkaaChecked
import GoSem.Claim
import GoSem.ClaimJoined
import GoSem.ClaimMapViews
import Derived.JoinedTies
import Derived.KernelRfl
namespace Go.Proofs.Ytflpelpgnjdnkaa
/- THE CELL 'sum', in the pinned program and in every row, IS THE sha256 OF THE DUMP (.gsa) THAT YtflpelpgnjdnkaaProg.lean LOADS. Nothing in Lean hashes anything: it is a label: what it is worth is what the hold of that sum in a sandbox is worth. -/
noncomputable def Try.pinned : Pinned := { name := "ytflpelpgnjdnkaa", sum := "94c2efa7d63928893c0ceb98d47a0f0c4c619b50ddb42ae404331ffc789f6c38", checked := Try.checked }
namespace Rows
def none {H : Type} : Left H := { results := [], args := [] }

/-- 'lapwinglaw08.RowPuts': WHATEVER THE INPUT: true; the input reads as it did. -/
def rowPutsSpec : ChangeSpec := { name := "rowPuts", fn := fun _ => fun
  | [d1, d2, d3] => { results := [.lit (.bool true)], args := [d1, d2, d3] }
  | _ => none }
def rowPutsRow : OpenClaim := { program := "ytflpelpgnjdnkaa", sum := "94c2efa7d63928893c0ceb98d47a0f0c4c619b50ddb42ae404331ffc789f6c38", func := "lapwing/lapwinglaw08.RowPuts", spec := "rowPuts", apart := false }
def RowPutsSaid : Prop := rowPutsRow.holds Try.pinned (OpenSpec.ofChange rowPutsSpec)

/-- ITS FALSE NEIGHBOUR: 'it returns false'. Refute it at one input. -/
def rowPutsWrong : ChangeSpec := { name := "rowPuts", fn := fun _ => fun
  | [d1, d2, d3] => { results := [.lit (.bool false)], args := [d1, d2, d3] }
  | _ => none }
def RowPutsWrongFalsely : Prop := rowPutsRow.holds Try.pinned (OpenSpec.ofChange rowPutsWrong)

/-- 'lapwinglaw08.RowMoves': WHATEVER THE INPUT: true; the input reads as it did. -/
def rowMovesSpec : ChangeSpec := { name := "rowMoves", fn := fun _ => fun
  | [d1, d2, d3, d4, d5] => { results := [.lit (.bool true)], args := [d1, d2, d3, d4, d5] }
  | _ => none }
def rowMovesRow : OpenClaim := { program := "ytflpelpgnjdnkaa", sum := "94c2efa7d63928893c0ceb98d47a0f0c4c619b50ddb42ae404331ffc789f6c38", func := "lapwing/lapwinglaw08.RowMoves", spec := "rowMoves", apart := false }
def RowMovesSaid : Prop := rowMovesRow.holds Try.pinned (OpenSpec.ofChange rowMovesSpec)

/-- ITS FALSE NEIGHBOUR: 'it returns false'. Refute it at one input. -/
def rowMovesWrong : ChangeSpec := { name := "rowMoves", fn := fun _ => fun
  | [d1, d2, d3, d4, d5] => { results := [.lit (.bool false)], args := [d1, d2, d3, d4, d5] }
  | _ => none }
def RowMovesWrongFalsely : Prop := rowMovesRow.holds Try.pinned (OpenSpec.ofChange rowMovesWrong)

/-- 'lapwinglaw08.RowLetters': WHATEVER THE INPUT: true; the input reads as it did. -/
def rowLettersSpec : ChangeSpec := { name := "rowLetters", fn := fun _ => fun
  | [d1, d2, d3] => { results := [.lit (.bool true)], args := [d1, d2, d3] }
  | _ => none }
def rowLettersRow : OpenClaim := { program := "ytflpelpgnjdnkaa", sum := "94c2efa7d63928893c0ceb98d47a0f0c4c619b50ddb42ae404331ffc789f6c38", func := "lapwing/lapwinglaw08.RowLetters", spec := "rowLetters", apart := false }
def RowLettersSaid : Prop := rowLettersRow.holds Try.pinned (OpenSpec.ofChange rowLettersSpec)

/-- ITS FALSE NEIGHBOUR: 'it returns false'. Refute it at one input. -/
def rowLettersWrong : ChangeSpec := { name := "rowLetters", fn := fun _ => fun
  | [d1, d2, d3] => { results := [.lit (.bool false)], args := [d1, d2, d3] }
  | _ => none }
def RowLettersWrongFalsely : Prop := rowLettersRow.holds Try.pinned (OpenSpec.ofChange rowLettersWrong)

/-- 'lapwinglaw08.RowErases': WHATEVER THE INPUT: true; the input reads as it did. -/
def rowErasesSpec : ChangeSpec := { name := "rowErases", fn := fun _ => fun
  | [d1, d2, d3, d4] => { results := [.lit (.bool true)], args := [d1, d2, d3, d4] }
  | _ => none }
def rowErasesRow : OpenClaim := { program := "ytflpelpgnjdnkaa", sum := "94c2efa7d63928893c0ceb98d47a0f0c4c619b50ddb42ae404331ffc789f6c38", func := "lapwing/lapwinglaw08.RowErases", spec := "rowErases", apart := false }
def RowErasesSaid : Prop := rowErasesRow.holds Try.pinned (OpenSpec.ofChange rowErasesSpec)

/-- ITS FALSE NEIGHBOUR: 'it returns false'. Refute it at one input. -/
def rowErasesWrong : ChangeSpec := { name := "rowErases", fn := fun _ => fun
  | [d1, d2, d3, d4] => { results := [.lit (.bool false)], args := [d1, d2, d3, d4] }
  | _ => none }
def RowErasesWrongFalsely : Prop := rowErasesRow.holds Try.pinned (OpenSpec.ofChange rowErasesWrong)

/- THE SECOND FORM. 'bulk': how many values and letters a reading holds, each counted each time it is reached (what is shared counts as often as it is met; a slice's spare places count too). A statement '..UptoSaid' is the law's where the arguments, and the package variables that the reading takes, are together of bulk at most 1048576: NARROWER than '..Said'. Prove '..Said' where nothing that the law and all that it calls make is longer than what came in: it says more and counts as full. Else prove '..UptoSaid'. A law counts once. -/
mutual
def uptoBulk {H : Type} : DataW H → Nat
  | .lit (.string bytes) => bytes.length + 1
  | .lit _ => 1
  | .nil => 1
  | .ptr d => uptoBulk d + 1
  | .slice elems spare => uptoBulkAll elems + uptoBulkAll spare + 1
  | .agg parts => uptoBulkAll parts + 1
  | .iface _ d => uptoBulk d + 1
  | .map entries => uptoBulkEntries entries + 1
  | .held _ => 1
def uptoBulkAll {H : Type} : List (DataW H) → Nat
  | [] => 0
  | d :: r => uptoBulk d + uptoBulkAll r
def uptoBulkEntries {H : Type} : List (Lit × DataW H) → Nat
  | [] => 0
  | x :: r => uptoBulkEntry x + uptoBulkEntries r
def uptoBulkEntry {H : Type} : Lit × DataW H → Nat
  | (.string bytes, d) => bytes.length + uptoBulk d + 1
  | (_, d) => uptoBulk d + 1
 end
def uptoSmall : (H : Type) → List (DataW H) → Bool := fun _ ds => decide (uptoBulkAll ds ≤ 1048576)
def OpenSpec.upto (s : _root_.Go.ChangeSpec) : _root_.Go.OpenSpec := { _root_.Go.OpenSpec.ofChange s with cond := some uptoSmall }

/-- 'lapwinglaw08.RowPuts', WHERE WHAT IT READS IS OF BULK AT MOST 1048576: true; the input reads as it did. -/
def rowPutsUptoRow : OpenClaim := { program := "ytflpelpgnjdnkaa", sum := "94c2efa7d63928893c0ceb98d47a0f0c4c619b50ddb42ae404331ffc789f6c38", func := "lapwing/lapwinglaw08.RowPuts", spec := "rowPuts", apart := false, narrowed := true }
def RowPutsUptoSaid : Prop := rowPutsUptoRow.holds Try.pinned (OpenSpec.upto rowPutsSpec)

/-- 'lapwinglaw08.RowMoves', WHERE WHAT IT READS IS OF BULK AT MOST 1048576: true; the input reads as it did. -/
def rowMovesUptoRow : OpenClaim := { program := "ytflpelpgnjdnkaa", sum := "94c2efa7d63928893c0ceb98d47a0f0c4c619b50ddb42ae404331ffc789f6c38", func := "lapwing/lapwinglaw08.RowMoves", spec := "rowMoves", apart := false, narrowed := true }
def RowMovesUptoSaid : Prop := rowMovesUptoRow.holds Try.pinned (OpenSpec.upto rowMovesSpec)

/-- 'lapwinglaw08.RowLetters', WHERE WHAT IT READS IS OF BULK AT MOST 1048576: true; the input reads as it did. -/
def rowLettersUptoRow : OpenClaim := { program := "ytflpelpgnjdnkaa", sum := "94c2efa7d63928893c0ceb98d47a0f0c4c619b50ddb42ae404331ffc789f6c38", func := "lapwing/lapwinglaw08.RowLetters", spec := "rowLetters", apart := false, narrowed := true }
def RowLettersUptoSaid : Prop := rowLettersUptoRow.holds Try.pinned (OpenSpec.upto rowLettersSpec)

/-- 'lapwinglaw08.RowErases', WHERE WHAT IT READS IS OF BULK AT MOST 1048576: true; the input reads as it did. -/
def rowErasesUptoRow : OpenClaim := { program := "ytflpelpgnjdnkaa", sum := "94c2efa7d63928893c0ceb98d47a0f0c4c619b50ddb42ae404331ffc789f6c38", func := "lapwing/lapwinglaw08.RowErases", spec := "rowErases", apart := false, narrowed := true }
def RowErasesUptoSaid : Prop := rowErasesUptoRow.holds Try.pinned (OpenSpec.upto rowErasesSpec)

end Rows
end Go.Proofs.Ytflpelpgnjdnkaa
