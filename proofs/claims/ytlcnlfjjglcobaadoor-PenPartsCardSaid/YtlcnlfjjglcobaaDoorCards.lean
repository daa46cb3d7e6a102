/-
  DERIVED. GIVEN WITH THE SEED: THE CARDS: each row of YtlcnlfjjglcobaaDoorRows.lean that lists a variable, with what it lists TIED to the program's text (the seventh form; the later family's looks); each row that meets fmt, with fmt's text TOLD by the authors' own Lean function (tested against real Go, not proved from fmt's source: count such statements apart). THE CARD IS WHAT COUNTS. Prove the row's statement (the work); the ties are given (YtlcnlfjjglcobaaDoorTie.lean); close each card by the builder's one call (the guide's Derived/Test/ToyasCard.lean, 'card_holds'). Laid BY PROGRAM, IN A SANDBOX (cutbox-door.mjs). By AI agents, Wed Nov 11 2026. No macro, syntax, notation, axiom, sorry.
-/
import Derived.Test.YtlcnlfjjglcobaaDoorRows
import GoSem.ClaimSeven
namespace Go.Proofs.YtlcnlfjjglcobaaDoor
namespace Rows

/-- THE TIED CARD OF 'lapwinglaw07.PenBack'. -/
def penBackCard : Claim7 := { stood := { row := penBackRow, standIns := [], harness := (true, "8e37a69308a27611c29b5938cefd5921f6fbd409484bc5c39f31ab75e1616159"), looks := false }, kinds := [], alts := [], laidByText := true, laidKinds := [.data], laidTests := true, laidLooks := .later }
def PenBackCardSaid : Prop := Claim7.holds Tryd.pinned (.plain (OpenSpec.ofChange penBackSpec)) penBackCard

/-- THE TIED CARD OF 'lapwinglaw07.PenStays'. -/
def penStaysCard : Claim7 := { stood := { row := penStaysRow, standIns := [], harness := (true, "8e37a69308a27611c29b5938cefd5921f6fbd409484bc5c39f31ab75e1616159"), looks := false }, kinds := [], alts := [], laidByText := true, laidKinds := [.data], laidTests := true, laidLooks := .later }
def PenStaysCardSaid : Prop := Claim7.holds Tryd.pinned (.plain (OpenSpec.ofChange penStaysSpec)) penStaysCard

/-- THE TIED CARD OF 'lapwinglaw07.PenColours'. -/
def penColoursCard : Claim7 := { stood := { row := penColoursRow, standIns := [], harness := (true, "8e37a69308a27611c29b5938cefd5921f6fbd409484bc5c39f31ab75e1616159"), looks := false }, kinds := [], alts := [], laidByText := true, laidKinds := [.data], laidTests := true, laidLooks := .later }
def PenColoursCardSaid : Prop := Claim7.holds Tryd.pinned (.plain (OpenSpec.ofChange penColoursSpec)) penColoursCard

/-- THE TIED CARD OF 'lapwinglaw07.PenFlags'. -/
def penFlagsCard : Claim7 := { stood := { row := penFlagsRow, standIns := [], harness := (true, "8e37a69308a27611c29b5938cefd5921f6fbd409484bc5c39f31ab75e1616159"), looks := false }, kinds := [], alts := [], laidByText := true, laidKinds := [.data], laidTests := true, laidLooks := .later }
def PenFlagsCardSaid : Prop := Claim7.holds Tryd.pinned (.plain (OpenSpec.ofChange penFlagsSpec)) penFlagsCard

/-- THE TIED CARD OF 'lapwinglaw07.PenParts'. -/
def penPartsCard : Claim7 := { stood := { row := penPartsRow, standIns := [], harness := (true, "8e37a69308a27611c29b5938cefd5921f6fbd409484bc5c39f31ab75e1616159"), looks := false }, kinds := [], alts := [], laidByText := true, laidKinds := [.data], laidTests := true, laidLooks := .later }
def PenPartsCardSaid : Prop := Claim7.holds Tryd.pinned (.plain (OpenSpec.ofChange penPartsSpec)) penPartsCard

/-- THE SECOND FORM's CARD OF 'lapwinglaw07.PenBack'. -/
def penBackUptoCard : Claim7 := { stood := { row := penBackUptoRow, standIns := [], harness := (true, "8e37a69308a27611c29b5938cefd5921f6fbd409484bc5c39f31ab75e1616159"), looks := false }, kinds := [], alts := [], laidByText := true, laidKinds := [.data], laidTests := true, laidLooks := .later }
def PenBackUptoCardSaid : Prop := Claim7.holds Tryd.pinned (.plain (OpenSpec.upto penBackSpec)) penBackUptoCard

/-- THE SECOND FORM's CARD OF 'lapwinglaw07.PenStays'. -/
def penStaysUptoCard : Claim7 := { stood := { row := penStaysUptoRow, standIns := [], harness := (true, "8e37a69308a27611c29b5938cefd5921f6fbd409484bc5c39f31ab75e1616159"), looks := false }, kinds := [], alts := [], laidByText := true, laidKinds := [.data], laidTests := true, laidLooks := .later }
def PenStaysUptoCardSaid : Prop := Claim7.holds Tryd.pinned (.plain (OpenSpec.upto penStaysSpec)) penStaysUptoCard

/-- THE SECOND FORM's CARD OF 'lapwinglaw07.PenColours'. -/
def penColoursUptoCard : Claim7 := { stood := { row := penColoursUptoRow, standIns := [], harness := (true, "8e37a69308a27611c29b5938cefd5921f6fbd409484bc5c39f31ab75e1616159"), looks := false }, kinds := [], alts := [], laidByText := true, laidKinds := [.data], laidTests := true, laidLooks := .later }
def PenColoursUptoCardSaid : Prop := Claim7.holds Tryd.pinned (.plain (OpenSpec.upto penColoursSpec)) penColoursUptoCard

/-- THE SECOND FORM's CARD OF 'lapwinglaw07.PenFlags'. -/
def penFlagsUptoCard : Claim7 := { stood := { row := penFlagsUptoRow, standIns := [], harness := (true, "8e37a69308a27611c29b5938cefd5921f6fbd409484bc5c39f31ab75e1616159"), looks := false }, kinds := [], alts := [], laidByText := true, laidKinds := [.data], laidTests := true, laidLooks := .later }
def PenFlagsUptoCardSaid : Prop := Claim7.holds Tryd.pinned (.plain (OpenSpec.upto penFlagsSpec)) penFlagsUptoCard

/-- THE SECOND FORM's CARD OF 'lapwinglaw07.PenParts'. -/
def penPartsUptoCard : Claim7 := { stood := { row := penPartsUptoRow, standIns := [], harness := (true, "8e37a69308a27611c29b5938cefd5921f6fbd409484bc5c39f31ab75e1616159"), looks := false }, kinds := [], alts := [], laidByText := true, laidKinds := [.data], laidTests := true, laidLooks := .later }
def PenPartsUptoCardSaid : Prop := Claim7.holds Tryd.pinned (.plain (OpenSpec.upto penPartsSpec)) penPartsUptoCard
end Rows
end Go.Proofs.YtlcnlfjjglcobaaDoor
