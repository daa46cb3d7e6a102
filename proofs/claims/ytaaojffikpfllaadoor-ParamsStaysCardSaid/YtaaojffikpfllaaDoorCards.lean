/-
  DERIVED. GIVEN WITH THE SEED: THE CARDS: each row of YtaaojffikpfllaaDoorRows.lean that lists a variable, with what it lists TIED to the program's text (the seventh form; the later family's looks); each row that meets fmt, with fmt's text TOLD by the authors' own Lean function (tested against real Go, not proved from fmt's source: count such statements apart). THE CARD IS WHAT COUNTS. Prove the row's statement (the work); the ties are given (YtaaojffikpfllaaDoorTie.lean); close each card by the builder's one call (the guide's Derived/Test/ToyasCard.lean, 'card_holds'). Laid BY PROGRAM, IN A SANDBOX (cutbox-door.mjs). By AI agents, Wed Nov 11 2026. No macro, syntax, notation, axiom, sorry.
-/
import Derived.Test.YtaaojffikpfllaaDoorRows
import GoSem.ClaimSeven
namespace Go.Proofs.YtaaojffikpfllaaDoor
namespace Rows

/-- THE TIED CARD OF 'lapwinglaw05.ParamsBack'. -/
def paramsBackCard : Claim7 := { stood := { row := paramsBackRow, standIns := [], harness := (true, "665187ce595c62c98f79690c668c0b1d627c26541839b812fa92e66e429eadfa"), looks := false }, kinds := [], alts := [], laidByText := true, laidKinds := [.data, .data, .data], laidTests := true, laidLooks := .later }
def ParamsBackCardSaid : Prop := Claim7.holds Tryd.pinned (.plain (OpenSpec.ofChange paramsBackSpec)) paramsBackCard

/-- THE TIED CARD OF 'lapwinglaw05.ParamsStays'. -/
def paramsStaysCard : Claim7 := { stood := { row := paramsStaysRow, standIns := [], harness := (true, "665187ce595c62c98f79690c668c0b1d627c26541839b812fa92e66e429eadfa"), looks := false }, kinds := [], alts := [], laidByText := true, laidKinds := [.data, .data, .data], laidTests := true, laidLooks := .later }
def ParamsStaysCardSaid : Prop := Claim7.holds Tryd.pinned (.plain (OpenSpec.ofChange paramsStaysSpec)) paramsStaysCard

/-- THE SECOND FORM's CARD OF 'lapwinglaw05.ParamsBack'. -/
def paramsBackUptoCard : Claim7 := { stood := { row := paramsBackUptoRow, standIns := [], harness := (true, "665187ce595c62c98f79690c668c0b1d627c26541839b812fa92e66e429eadfa"), looks := false }, kinds := [], alts := [], laidByText := true, laidKinds := [.data, .data, .data], laidTests := true, laidLooks := .later }
def ParamsBackUptoCardSaid : Prop := Claim7.holds Tryd.pinned (.plain (OpenSpec.upto paramsBackSpec)) paramsBackUptoCard

/-- THE SECOND FORM's CARD OF 'lapwinglaw05.ParamsStays'. -/
def paramsStaysUptoCard : Claim7 := { stood := { row := paramsStaysUptoRow, standIns := [], harness := (true, "665187ce595c62c98f79690c668c0b1d627c26541839b812fa92e66e429eadfa"), looks := false }, kinds := [], alts := [], laidByText := true, laidKinds := [.data, .data, .data], laidTests := true, laidLooks := .later }
def ParamsStaysUptoCardSaid : Prop := Claim7.holds Tryd.pinned (.plain (OpenSpec.upto paramsStaysSpec)) paramsStaysUptoCard
end Rows
end Go.Proofs.YtaaojffikpfllaaDoor
