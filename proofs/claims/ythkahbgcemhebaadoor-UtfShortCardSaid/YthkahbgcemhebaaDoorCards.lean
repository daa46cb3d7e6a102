/-
  DERIVED. GIVEN WITH THE SEED: THE CARDS: each row of YthkahbgcemhebaaDoorRows.lean that lists a variable, with what it lists TIED to the program's text (the seventh form; the later family's looks); each row that meets fmt, with fmt's text TOLD by the authors' own Lean function (tested against real Go, not proved from fmt's source: count such statements apart). THE CARD IS WHAT COUNTS. Prove the row's statement (the work); the ties are given (YthkahbgcemhebaaDoorTie.lean); close each card by the builder's one call (the guide's Derived/Test/ToyasCard.lean, 'card_holds'). Laid BY PROGRAM, IN A SANDBOX (cutbox-door.mjs). By AI agents, Wed Nov 11 2026. No macro, syntax, notation, axiom, sorry.
-/
import Derived.Test.YthkahbgcemhebaaDoorRows
import GoSem.ClaimSeven
namespace Go.Proofs.YthkahbgcemhebaaDoor
namespace Rows

/-- THE TIED CARD OF 'lapwinglaw03.UtfCuts'. -/
def utfCutsCard : Claim7 := { stood := { row := utfCutsRow, standIns := [], harness := (true, "a31110c1208652aeacc093385a311ebf16fe3803fb1ca594e63e1dffedf89dd9"), looks := false }, kinds := [], alts := [], laidByText := true, laidKinds := [.data, .pinned], laidTests := true, laidLooks := .later }
def UtfCutsCardSaid : Prop := Claim7.holds Tryd.pinned (.plain (OpenSpec.ofChange utfCutsSpec)) utfCutsCard

/-- THE TIED CARD OF 'lapwinglaw03.UtfBack'. -/
def utfBackCard : Claim7 := { stood := { row := utfBackRow, standIns := [], harness := (true, "a31110c1208652aeacc093385a311ebf16fe3803fb1ca594e63e1dffedf89dd9"), looks := false }, kinds := [], alts := [], laidByText := true, laidKinds := [.data, .pinned], laidTests := true, laidLooks := .later }
def UtfBackCardSaid : Prop := Claim7.holds Tryd.pinned (.plain (OpenSpec.ofChange utfBackSpec)) utfBackCard

/-- THE TIED CARD OF 'lapwinglaw03.UtfBad'. -/
def utfBadCard : Claim7 := { stood := { row := utfBadRow, standIns := [], harness := (true, "a31110c1208652aeacc093385a311ebf16fe3803fb1ca594e63e1dffedf89dd9"), looks := false }, kinds := [], alts := [], laidByText := true, laidKinds := [.data, .pinned], laidTests := true, laidLooks := .later }
def UtfBadCardSaid : Prop := Claim7.holds Tryd.pinned (.plain (OpenSpec.ofChange utfBadSpec)) utfBadCard

/-- THE TIED CARD OF 'lapwinglaw03.UtfShort'. -/
def utfShortCard : Claim7 := { stood := { row := utfShortRow, standIns := [], harness := (true, "a31110c1208652aeacc093385a311ebf16fe3803fb1ca594e63e1dffedf89dd9"), looks := false }, kinds := [], alts := [], laidByText := true, laidKinds := [.data, .pinned], laidTests := true, laidLooks := .later }
def UtfShortCardSaid : Prop := Claim7.holds Tryd.pinned (.plain (OpenSpec.ofChange utfShortSpec)) utfShortCard

/-- THE TIED CARD OF 'lapwinglaw03.UtfPlain'. -/
def utfPlainCard : Claim7 := { stood := { row := utfPlainRow, standIns := [], harness := (true, "a31110c1208652aeacc093385a311ebf16fe3803fb1ca594e63e1dffedf89dd9"), looks := false }, kinds := [], alts := [], laidByText := true, laidKinds := [.data, .pinned], laidTests := true, laidLooks := .later }
def UtfPlainCardSaid : Prop := Claim7.holds Tryd.pinned (.plain (OpenSpec.ofChange utfPlainSpec)) utfPlainCard

/-- THE SECOND FORM's CARD OF 'lapwinglaw03.UtfCuts'. -/
def utfCutsUptoCard : Claim7 := { stood := { row := utfCutsUptoRow, standIns := [], harness := (true, "a31110c1208652aeacc093385a311ebf16fe3803fb1ca594e63e1dffedf89dd9"), looks := false }, kinds := [], alts := [], laidByText := true, laidKinds := [.data, .pinned], laidTests := true, laidLooks := .later }
def UtfCutsUptoCardSaid : Prop := Claim7.holds Tryd.pinned (.plain (OpenSpec.upto utfCutsSpec)) utfCutsUptoCard

/-- THE SECOND FORM's CARD OF 'lapwinglaw03.UtfBack'. -/
def utfBackUptoCard : Claim7 := { stood := { row := utfBackUptoRow, standIns := [], harness := (true, "a31110c1208652aeacc093385a311ebf16fe3803fb1ca594e63e1dffedf89dd9"), looks := false }, kinds := [], alts := [], laidByText := true, laidKinds := [.data, .pinned], laidTests := true, laidLooks := .later }
def UtfBackUptoCardSaid : Prop := Claim7.holds Tryd.pinned (.plain (OpenSpec.upto utfBackSpec)) utfBackUptoCard

/-- THE SECOND FORM's CARD OF 'lapwinglaw03.UtfBad'. -/
def utfBadUptoCard : Claim7 := { stood := { row := utfBadUptoRow, standIns := [], harness := (true, "a31110c1208652aeacc093385a311ebf16fe3803fb1ca594e63e1dffedf89dd9"), looks := false }, kinds := [], alts := [], laidByText := true, laidKinds := [.data, .pinned], laidTests := true, laidLooks := .later }
def UtfBadUptoCardSaid : Prop := Claim7.holds Tryd.pinned (.plain (OpenSpec.upto utfBadSpec)) utfBadUptoCard

/-- THE SECOND FORM's CARD OF 'lapwinglaw03.UtfShort'. -/
def utfShortUptoCard : Claim7 := { stood := { row := utfShortUptoRow, standIns := [], harness := (true, "a31110c1208652aeacc093385a311ebf16fe3803fb1ca594e63e1dffedf89dd9"), looks := false }, kinds := [], alts := [], laidByText := true, laidKinds := [.data, .pinned], laidTests := true, laidLooks := .later }
def UtfShortUptoCardSaid : Prop := Claim7.holds Tryd.pinned (.plain (OpenSpec.upto utfShortSpec)) utfShortUptoCard

/-- THE SECOND FORM's CARD OF 'lapwinglaw03.UtfPlain'. -/
def utfPlainUptoCard : Claim7 := { stood := { row := utfPlainUptoRow, standIns := [], harness := (true, "a31110c1208652aeacc093385a311ebf16fe3803fb1ca594e63e1dffedf89dd9"), looks := false }, kinds := [], alts := [], laidByText := true, laidKinds := [.data, .pinned], laidTests := true, laidLooks := .later }
def UtfPlainUptoCardSaid : Prop := Claim7.holds Tryd.pinned (.plain (OpenSpec.upto utfPlainSpec)) utfPlainUptoCard
end Rows
end Go.Proofs.YthkahbgcemhebaaDoor
