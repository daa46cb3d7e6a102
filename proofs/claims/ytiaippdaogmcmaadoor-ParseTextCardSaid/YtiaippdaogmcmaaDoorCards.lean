/-
  DERIVED. GIVEN WITH THE SEED: THE CARDS: each row of YtiaippdaogmcmaaDoorRows.lean that lists a variable, with what it lists TIED to the program's text (the seventh form; the later family's looks); each row that meets fmt, with fmt's text TOLD by the authors' own Lean function (tested against real Go, not proved from fmt's source: count such statements apart). THE CARD IS WHAT COUNTS. Prove the row's statement (the work); the ties are given (YtiaippdaogmcmaaDoorTie.lean); close each card by the builder's one call (the guide's Derived/Test/ToyasCard.lean, 'card_holds'). Laid BY PROGRAM, IN A SANDBOX (cutbox-door.mjs). By AI agents, Wed Nov 11 2026. No macro, syntax, notation, axiom, sorry.
-/
import Derived.Test.YtiaippdaogmcmaaDoorRows
import GoSem.ClaimSeven
namespace Go.Proofs.YtiaippdaogmcmaaDoor
namespace Rows

/-- THE TIED CARD OF 'lapwinglaw06.ParseCuts'. -/
def parseCutsCard : Claim7 := { stood := { row := parseCutsRow, standIns := [], harness := (true, "8536521dafa40fb1215aee63ffc74d1434e6f92a681b397f64d9a4cbf31a52e3"), looks := false }, kinds := [], alts := [], laidByText := true, laidKinds := [.data, .data, .data], laidTests := true, laidLooks := .later }
def ParseCutsCardSaid : Prop := Claim7.holds Tryd.pinned (.plain (OpenSpec.ofChange parseCutsSpec)) parseCutsCard

/-- THE TIED CARD OF 'lapwinglaw06.ParseGround'. -/
def parseGroundCard : Claim7 := { stood := { row := parseGroundRow, standIns := [], harness := (true, "8536521dafa40fb1215aee63ffc74d1434e6f92a681b397f64d9a4cbf31a52e3"), looks := false }, kinds := [], alts := [], laidByText := true, laidKinds := [.data, .data, .data], laidTests := true, laidLooks := .later }
def ParseGroundCardSaid : Prop := Claim7.holds Tryd.pinned (.plain (OpenSpec.ofChange parseGroundSpec)) parseGroundCard

/-- THE TIED CARD OF 'lapwinglaw06.ParseCsi'. -/
def parseCsiCard : Claim7 := { stood := { row := parseCsiRow, standIns := [], harness := (true, "8536521dafa40fb1215aee63ffc74d1434e6f92a681b397f64d9a4cbf31a52e3"), looks := false }, kinds := [], alts := [], laidByText := true, laidKinds := [.data, .data, .data], laidTests := true, laidLooks := .later }
def ParseCsiCardSaid : Prop := Claim7.holds Tryd.pinned (.plain (OpenSpec.ofChange parseCsiSpec)) parseCsiCard

/-- THE TIED CARD OF 'lapwinglaw06.ParseText'. -/
def parseTextCard : Claim7 := { stood := { row := parseTextRow, standIns := [], harness := (true, "8536521dafa40fb1215aee63ffc74d1434e6f92a681b397f64d9a4cbf31a52e3"), looks := false }, kinds := [], alts := [], laidByText := true, laidKinds := [.data, .data, .data], laidTests := true, laidLooks := .later }
def ParseTextCardSaid : Prop := Claim7.holds Tryd.pinned (.plain (OpenSpec.ofChange parseTextSpec)) parseTextCard

/-- THE TIED CARD OF 'lapwinglaw06.ParseFew'. -/
def parseFewCard : Claim7 := { stood := { row := parseFewRow, standIns := [], harness := (true, "8536521dafa40fb1215aee63ffc74d1434e6f92a681b397f64d9a4cbf31a52e3"), looks := false }, kinds := [], alts := [], laidByText := true, laidKinds := [.data, .data, .data], laidTests := true, laidLooks := .later }
def ParseFewCardSaid : Prop := Claim7.holds Tryd.pinned (.plain (OpenSpec.ofChange parseFewSpec)) parseFewCard

/-- THE SECOND FORM's CARD OF 'lapwinglaw06.ParseCuts'. -/
def parseCutsUptoCard : Claim7 := { stood := { row := parseCutsUptoRow, standIns := [], harness := (true, "8536521dafa40fb1215aee63ffc74d1434e6f92a681b397f64d9a4cbf31a52e3"), looks := false }, kinds := [], alts := [], laidByText := true, laidKinds := [.data, .data, .data], laidTests := true, laidLooks := .later }
def ParseCutsUptoCardSaid : Prop := Claim7.holds Tryd.pinned (.plain (OpenSpec.upto parseCutsSpec)) parseCutsUptoCard

/-- THE SECOND FORM's CARD OF 'lapwinglaw06.ParseGround'. -/
def parseGroundUptoCard : Claim7 := { stood := { row := parseGroundUptoRow, standIns := [], harness := (true, "8536521dafa40fb1215aee63ffc74d1434e6f92a681b397f64d9a4cbf31a52e3"), looks := false }, kinds := [], alts := [], laidByText := true, laidKinds := [.data, .data, .data], laidTests := true, laidLooks := .later }
def ParseGroundUptoCardSaid : Prop := Claim7.holds Tryd.pinned (.plain (OpenSpec.upto parseGroundSpec)) parseGroundUptoCard

/-- THE SECOND FORM's CARD OF 'lapwinglaw06.ParseCsi'. -/
def parseCsiUptoCard : Claim7 := { stood := { row := parseCsiUptoRow, standIns := [], harness := (true, "8536521dafa40fb1215aee63ffc74d1434e6f92a681b397f64d9a4cbf31a52e3"), looks := false }, kinds := [], alts := [], laidByText := true, laidKinds := [.data, .data, .data], laidTests := true, laidLooks := .later }
def ParseCsiUptoCardSaid : Prop := Claim7.holds Tryd.pinned (.plain (OpenSpec.upto parseCsiSpec)) parseCsiUptoCard

/-- THE SECOND FORM's CARD OF 'lapwinglaw06.ParseText'. -/
def parseTextUptoCard : Claim7 := { stood := { row := parseTextUptoRow, standIns := [], harness := (true, "8536521dafa40fb1215aee63ffc74d1434e6f92a681b397f64d9a4cbf31a52e3"), looks := false }, kinds := [], alts := [], laidByText := true, laidKinds := [.data, .data, .data], laidTests := true, laidLooks := .later }
def ParseTextUptoCardSaid : Prop := Claim7.holds Tryd.pinned (.plain (OpenSpec.upto parseTextSpec)) parseTextUptoCard

/-- THE SECOND FORM's CARD OF 'lapwinglaw06.ParseFew'. -/
def parseFewUptoCard : Claim7 := { stood := { row := parseFewUptoRow, standIns := [], harness := (true, "8536521dafa40fb1215aee63ffc74d1434e6f92a681b397f64d9a4cbf31a52e3"), looks := false }, kinds := [], alts := [], laidByText := true, laidKinds := [.data, .data, .data], laidTests := true, laidLooks := .later }
def ParseFewUptoCardSaid : Prop := Claim7.holds Tryd.pinned (.plain (OpenSpec.upto parseFewSpec)) parseFewUptoCard
end Rows
end Go.Proofs.YtiaippdaogmcmaaDoor
