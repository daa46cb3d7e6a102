/-
  NARROWER THAN 'FOR EVERY INPUT', by the rows' own cells (each row's printed sentence says how): PenBack: laid · PenStays: laid · PenColours: laid · PenFlags: laid · PenParts: laid.
  DERIVED. THE GIVEN ROWS OF THIS SEAT. 5 by the template 'for every input the law returns true; each argument reads behind the call as it read before'; 0 by the template 'total and deterministic' (their statements: YtlcnlfjjglcobaaDoorTotals.lean).
  GIVEN WITH THE SEED: the statements are not yours to turn. If you find one false, say at which input.
  Laid BY PROGRAM, IN A SANDBOX (cutbox-rows.mjs): the forced cells as the released guide's own fill.sh prints them over the translation a05d084cf64fbcec… (all of the seat's roots in one cut). By AI agents, Wed Nov 11 2026. No macro, syntax, notation, axiom, sorry.
-/
import Derived.Test.YtlcnlfjjglcobaaDoorChecked
import GoSem.Claim
import GoSem.ClaimJoined
import GoSem.ClaimMapViews
import Derived.JoinedTies
import Derived.KernelRfl
namespace Go.Proofs.YtlcnlfjjglcobaaDoor
/- THE CELL 'sum', in the pinned program and in every row, IS THE sha256 OF THE DUMP (.gsa) THAT YtlcnlfjjglcobaaDoorProg.lean LOADS. Nothing in Lean hashes anything: it is a label: what it is worth is what the hold of that sum in a sandbox is worth. -/
noncomputable def Tryd.pinned : Pinned := { name := "ytlcnlfjjglcobaadoor", sum := "a05d084cf64fbcec2522f4fa204cff9869fea4a73af959c98e1ab3a2421eb7f2", checked := Tryd.checked }
namespace Rows
def none {H : Type} : Left H := { results := [], args := [] }

/- WHAT THE LISTED PACKAGE-LEVEL VARIABLES READ AS WHEN THE CALL BEGINS. Each datum BY PROGRAM (the guide's laid-datum.mjs) off the statement by which the dump's own 'gosem.cut.vars' lays the variable. In a bare row this is a premise. The card (YtlcnlfjjglcobaaDoorCards.lean) ties it to the program's text. -/
def laid_lapwing_pen_toggles {H : Type} : DataW H := .agg [.agg [.lit (.int .i64 1), .lit (.int .i64 1), .lit (.int .i64 22)], .agg [.lit (.int .i64 2), .lit (.int .i64 2), .lit (.int .i64 22)], .agg [.lit (.int .i64 4), .lit (.int .i64 3), .lit (.int .i64 23)], .agg [.lit (.int .i64 8), .lit (.int .i64 4), .lit (.int .i64 24)], .agg [.lit (.int .i64 16), .lit (.int .i64 5), .lit (.int .i64 25)], .agg [.lit (.int .i64 32), .lit (.int .i64 7), .lit (.int .i64 27)], .agg [.lit (.int .i64 64), .lit (.int .i64 8), .lit (.int .i64 28)], .agg [.lit (.int .i64 128), .lit (.int .i64 9), .lit (.int .i64 29)], .agg [.lit (.int .i64 256), .lit (.int .i64 21), .lit (.int .i64 24)]]

/-- 'lapwinglaw07.PenBack': WHATEVER THE INPUT: true; the input reads as it did. -/
def penBackSpec : ChangeSpec := { name := "penBack", fn := fun _ => fun
  | [d1, d2] => { results := [.lit (.bool true)], args := [d1, d2] }
  | _ => none }
def penBackRow : OpenClaim := { program := "ytlcnlfjjglcobaadoor", sum := "a05d084cf64fbcec2522f4fa204cff9869fea4a73af959c98e1ab3a2421eb7f2", func := "lapwing/lapwinglaw07.PenBack", spec := "penBack", unfollowed := true, recurses := true, named := ["lapwing/pen.toggles"], apart := false, laid := [("lapwing/pen.toggles", laid_lapwing_pen_toggles)] }
def PenBackSaid : Prop := penBackRow.holds Tryd.pinned (OpenSpec.ofChange penBackSpec)

/-- ITS FALSE NEIGHBOUR: 'it returns false'. Refute it at one input. -/
def penBackWrong : ChangeSpec := { name := "penBack", fn := fun _ => fun
  | [d1, d2] => { results := [.lit (.bool false)], args := [d1, d2] }
  | _ => none }
def PenBackWrongFalsely : Prop := penBackRow.holds Tryd.pinned (OpenSpec.ofChange penBackWrong)

/-- 'lapwinglaw07.PenStays': WHATEVER THE INPUT: true; the input reads as it did. -/
def penStaysSpec : ChangeSpec := { name := "penStays", fn := fun _ => fun
  | [d1, d2, d3] => { results := [.lit (.bool true)], args := [d1, d2, d3] }
  | _ => none }
def penStaysRow : OpenClaim := { program := "ytlcnlfjjglcobaadoor", sum := "a05d084cf64fbcec2522f4fa204cff9869fea4a73af959c98e1ab3a2421eb7f2", func := "lapwing/lapwinglaw07.PenStays", spec := "penStays", unfollowed := true, recurses := true, named := ["lapwing/pen.toggles"], apart := false, laid := [("lapwing/pen.toggles", laid_lapwing_pen_toggles)] }
def PenStaysSaid : Prop := penStaysRow.holds Tryd.pinned (OpenSpec.ofChange penStaysSpec)

/-- ITS FALSE NEIGHBOUR: 'it returns false'. Refute it at one input. -/
def penStaysWrong : ChangeSpec := { name := "penStays", fn := fun _ => fun
  | [d1, d2, d3] => { results := [.lit (.bool false)], args := [d1, d2, d3] }
  | _ => none }
def PenStaysWrongFalsely : Prop := penStaysRow.holds Tryd.pinned (OpenSpec.ofChange penStaysWrong)

/-- 'lapwinglaw07.PenColours': WHATEVER THE INPUT: true; the input reads as it did. -/
def penColoursSpec : ChangeSpec := { name := "penColours", fn := fun _ => fun
  | [d1, d2, d3, d4, d5] => { results := [.lit (.bool true)], args := [d1, d2, d3, d4, d5] }
  | _ => none }
def penColoursRow : OpenClaim := { program := "ytlcnlfjjglcobaadoor", sum := "a05d084cf64fbcec2522f4fa204cff9869fea4a73af959c98e1ab3a2421eb7f2", func := "lapwing/lapwinglaw07.PenColours", spec := "penColours", unfollowed := true, recurses := true, named := ["lapwing/pen.toggles"], apart := false, laid := [("lapwing/pen.toggles", laid_lapwing_pen_toggles)] }
def PenColoursSaid : Prop := penColoursRow.holds Tryd.pinned (OpenSpec.ofChange penColoursSpec)

/-- ITS FALSE NEIGHBOUR: 'it returns false'. Refute it at one input. -/
def penColoursWrong : ChangeSpec := { name := "penColours", fn := fun _ => fun
  | [d1, d2, d3, d4, d5] => { results := [.lit (.bool false)], args := [d1, d2, d3, d4, d5] }
  | _ => none }
def PenColoursWrongFalsely : Prop := penColoursRow.holds Tryd.pinned (OpenSpec.ofChange penColoursWrong)

/-- 'lapwinglaw07.PenFlags': WHATEVER THE INPUT: true; the input reads as it did. -/
def penFlagsSpec : ChangeSpec := { name := "penFlags", fn := fun _ => fun
  | [d1, d2] => { results := [.lit (.bool true)], args := [d1, d2] }
  | _ => none }
def penFlagsRow : OpenClaim := { program := "ytlcnlfjjglcobaadoor", sum := "a05d084cf64fbcec2522f4fa204cff9869fea4a73af959c98e1ab3a2421eb7f2", func := "lapwing/lapwinglaw07.PenFlags", spec := "penFlags", unfollowed := true, recurses := true, named := ["lapwing/pen.toggles"], apart := false, laid := [("lapwing/pen.toggles", laid_lapwing_pen_toggles)] }
def PenFlagsSaid : Prop := penFlagsRow.holds Tryd.pinned (OpenSpec.ofChange penFlagsSpec)

/-- ITS FALSE NEIGHBOUR: 'it returns false'. Refute it at one input. -/
def penFlagsWrong : ChangeSpec := { name := "penFlags", fn := fun _ => fun
  | [d1, d2] => { results := [.lit (.bool false)], args := [d1, d2] }
  | _ => none }
def PenFlagsWrongFalsely : Prop := penFlagsRow.holds Tryd.pinned (OpenSpec.ofChange penFlagsWrong)

/-- 'lapwinglaw07.PenParts': WHATEVER THE INPUT: true; the input reads as it did. -/
def penPartsSpec : ChangeSpec := { name := "penParts", fn := fun _ => fun
  | [d] => { results := [.lit (.bool true)], args := [d] }
  | _ => none }
def penPartsRow : OpenClaim := { program := "ytlcnlfjjglcobaadoor", sum := "a05d084cf64fbcec2522f4fa204cff9869fea4a73af959c98e1ab3a2421eb7f2", func := "lapwing/lapwinglaw07.PenParts", spec := "penParts", unfollowed := true, recurses := true, named := ["lapwing/pen.toggles"], apart := false, laid := [("lapwing/pen.toggles", laid_lapwing_pen_toggles)] }
def PenPartsSaid : Prop := penPartsRow.holds Tryd.pinned (OpenSpec.ofChange penPartsSpec)

/-- ITS FALSE NEIGHBOUR: 'it returns false'. Refute it at one input. -/
def penPartsWrong : ChangeSpec := { name := "penParts", fn := fun _ => fun
  | [d] => { results := [.lit (.bool false)], args := [d] }
  | _ => none }
def PenPartsWrongFalsely : Prop := penPartsRow.holds Tryd.pinned (OpenSpec.ofChange penPartsWrong)

/- THE SECOND FORM. 'bulk': how many values and letters a reading holds, each counted each time it is reached (what is shared counts as often as it is met; a slice's spare places count too). A statement '..UptoSaid' is the law's where the arguments, and the package variables that the reading takes, are together of bulk at most 1048576: NARROWER than '..Said'. Prove '..Said' where nothing that the law and all that it calls make is longer than what came in: it says more and counts as full. Else prove '..UptoSaid'. A law counts once. -/
mutual
def uptoBulk {H : Type} : DataW H → Nat
  | .lit (.string bytes) => bytes.length + 1
  | .lit _ => 1
  | .nil => 1
  | .ptr d => uptoBulk d + 1
  | .slice elems spare => uptoBulkAll elems + uptoBulkAll spare + 1
  | .agg parts => uptoBulkAll parts + 1
  | .iface _ d => uptoBulk d + 1
  | .map entries => uptoBulkEntries entries + 1
  | .held _ => 1
def uptoBulkAll {H : Type} : List (DataW H) → Nat
  | [] => 0
  | d :: r => uptoBulk d + uptoBulkAll r
def uptoBulkEntries {H : Type} : List (Lit × DataW H) → Nat
  | [] => 0
  | x :: r => uptoBulkEntry x + uptoBulkEntries r
def uptoBulkEntry {H : Type} : Lit × DataW H → Nat
  | (.string bytes, d) => bytes.length + uptoBulk d + 1
  | (_, d) => uptoBulk d + 1
 end
def uptoSmall : (H : Type) → List (DataW H) → Bool := fun _ ds => decide (uptoBulkAll ds ≤ 1048576)
def OpenSpec.upto (s : _root_.Go.ChangeSpec) : _root_.Go.OpenSpec := { _root_.Go.OpenSpec.ofChange s with cond := some uptoSmall }

/-- 'lapwinglaw07.PenBack', WHERE WHAT IT READS IS OF BULK AT MOST 1048576: true; the input reads as it did. -/
def penBackUptoRow : OpenClaim := { program := "ytlcnlfjjglcobaadoor", sum := "a05d084cf64fbcec2522f4fa204cff9869fea4a73af959c98e1ab3a2421eb7f2", func := "lapwing/lapwinglaw07.PenBack", spec := "penBack", unfollowed := true, recurses := true, named := ["lapwing/pen.toggles"], apart := false, laid := [("lapwing/pen.toggles", laid_lapwing_pen_toggles)], narrowed := true }
def PenBackUptoSaid : Prop := penBackUptoRow.holds Tryd.pinned (OpenSpec.upto penBackSpec)

/-- 'lapwinglaw07.PenStays', WHERE WHAT IT READS IS OF BULK AT MOST 1048576: true; the input reads as it did. -/
def penStaysUptoRow : OpenClaim := { program := "ytlcnlfjjglcobaadoor", sum := "a05d084cf64fbcec2522f4fa204cff9869fea4a73af959c98e1ab3a2421eb7f2", func := "lapwing/lapwinglaw07.PenStays", spec := "penStays", unfollowed := true, recurses := true, named := ["lapwing/pen.toggles"], apart := false, laid := [("lapwing/pen.toggles", laid_lapwing_pen_toggles)], narrowed := true }
def PenStaysUptoSaid : Prop := penStaysUptoRow.holds Tryd.pinned (OpenSpec.upto penStaysSpec)

/-- 'lapwinglaw07.PenColours', WHERE WHAT IT READS IS OF BULK AT MOST 1048576: true; the input reads as it did. -/
def penColoursUptoRow : OpenClaim := { program := "ytlcnlfjjglcobaadoor", sum := "a05d084cf64fbcec2522f4fa204cff9869fea4a73af959c98e1ab3a2421eb7f2", func := "lapwing/lapwinglaw07.PenColours", spec := "penColours", unfollowed := true, recurses := true, named := ["lapwing/pen.toggles"], apart := false, laid := [("lapwing/pen.toggles", laid_lapwing_pen_toggles)], narrowed := true }
def PenColoursUptoSaid : Prop := penColoursUptoRow.holds Tryd.pinned (OpenSpec.upto penColoursSpec)

/-- 'lapwinglaw07.PenFlags', WHERE WHAT IT READS IS OF BULK AT MOST 1048576: true; the input reads as it did. -/
def penFlagsUptoRow : OpenClaim := { program := "ytlcnlfjjglcobaadoor", sum := "a05d084cf64fbcec2522f4fa204cff9869fea4a73af959c98e1ab3a2421eb7f2", func := "lapwing/lapwinglaw07.PenFlags", spec := "penFlags", unfollowed := true, recurses := true, named := ["lapwing/pen.toggles"], apart := false, laid := [("lapwing/pen.toggles", laid_lapwing_pen_toggles)], narrowed := true }
def PenFlagsUptoSaid : Prop := penFlagsUptoRow.holds Tryd.pinned (OpenSpec.upto penFlagsSpec)

/-- 'lapwinglaw07.PenParts', WHERE WHAT IT READS IS OF BULK AT MOST 1048576: true; the input reads as it did. -/
def penPartsUptoRow : OpenClaim := { program := "ytlcnlfjjglcobaadoor", sum := "a05d084cf64fbcec2522f4fa204cff9869fea4a73af959c98e1ab3a2421eb7f2", func := "lapwing/lapwinglaw07.PenParts", spec := "penParts", unfollowed := true, recurses := true, named := ["lapwing/pen.toggles"], apart := false, laid := [("lapwing/pen.toggles", laid_lapwing_pen_toggles)], narrowed := true }
def PenPartsUptoSaid : Prop := penPartsUptoRow.holds Tryd.pinned (OpenSpec.upto penPartsSpec)

end Rows
end Go.Proofs.YtlcnlfjjglcobaaDoor
