/-
  DERIVED. GIVEN WITH THE SEED: THE CARDS: each row of YthlkpcfpapiigaaDoorRows.lean that lists a variable, with what it lists TIED to the program's text (the seventh form; the later family's looks); each row that meets fmt, with fmt's text TOLD by the authors' own Lean function (tested against real Go, not proved from fmt's source: count such statements apart). THE CARD IS WHAT COUNTS. Prove the row's statement (the work); the ties are given (YthlkpcfpapiigaaDoorTie.lean); close each card by the builder's one call (the guide's Derived/Test/ToyasCard.lean, 'card_holds'). Laid BY PROGRAM, IN A SANDBOX (cutbox-door.mjs). By AI agents, Wed Nov 11 2026. No macro, syntax, notation, axiom, sorry.
-/
import Derived.Test.YthlkpcfpapiigaaDoorRows
import GoSem.ClaimSeven
namespace Go.Proofs.YthlkpcfpapiigaaDoor
namespace Rows

/-- THE TIED CARD OF 'lapwinglaw02.UcdPairs'. -/
def ucdPairsCard : Claim7 := { stood := { row := ucdPairsRow, standIns := [], harness := (true, "3007de9edc473d45262e3a1cc25437b27e95a6c3cac48b74dfddebbda7b0b2f6"), looks := true }, kinds := [], alts := [], laidByText := true, laidKinds := [.data, .data, .data, .data, .sentinel, .sentinel, .listed, .data, .pinned], laidTests := true, laidLooks := .later }
def UcdPairsCardSaid : Prop := Claim7.holds Tryd.pinned (.plain (OpenSpec.ofChange ucdPairsSpec)) ucdPairsCard

/-- THE TIED CARD OF 'lapwinglaw02.UcdForms'. -/
def ucdFormsCard : Claim7 := { stood := { row := ucdFormsRow, standIns := [], harness := (true, "3007de9edc473d45262e3a1cc25437b27e95a6c3cac48b74dfddebbda7b0b2f6"), looks := true }, kinds := [], alts := [], laidByText := true, laidKinds := [.data, .data, .data, .data, .sentinel, .sentinel, .listed, .data, .pinned], laidTests := true, laidLooks := .later }
def UcdFormsCardSaid : Prop := Claim7.holds Tryd.pinned (.plain (OpenSpec.ofChange ucdFormsSpec)) ucdFormsCard

/-- THE TIED CARD OF 'lapwinglaw02.UcdSane'. -/
def ucdSaneCard : Claim7 := { stood := { row := ucdSaneRow, standIns := [], harness := (true, "3007de9edc473d45262e3a1cc25437b27e95a6c3cac48b74dfddebbda7b0b2f6"), looks := true }, kinds := [], alts := [], laidByText := true, laidKinds := [.data, .data, .data, .data, .sentinel, .sentinel, .listed, .data, .pinned], laidTests := true, laidLooks := .later }
def UcdSaneCardSaid : Prop := Claim7.holds Tryd.pinned (.plain (OpenSpec.ofChange ucdSaneSpec)) ucdSaneCard

/-- THE TIED CARD OF 'lapwinglaw02.UcdWide'. -/
def ucdWideCard : Claim7 := { stood := { row := ucdWideRow, standIns := [], harness := (true, "3007de9edc473d45262e3a1cc25437b27e95a6c3cac48b74dfddebbda7b0b2f6"), looks := true }, kinds := [], alts := [], laidByText := true, laidKinds := [.data, .data, .data, .data, .sentinel, .sentinel, .listed, .data, .pinned], laidTests := true, laidLooks := .later }
def UcdWideCardSaid : Prop := Claim7.holds Tryd.pinned (.plain (OpenSpec.ofChange ucdWideSpec)) ucdWideCard

/-- THE TIED CARD OF 'lapwinglaw02.UcdLigature'. -/
def ucdLigatureCard : Claim7 := { stood := { row := ucdLigatureRow, standIns := [], harness := (true, "3007de9edc473d45262e3a1cc25437b27e95a6c3cac48b74dfddebbda7b0b2f6"), looks := true }, kinds := [], alts := [], laidByText := true, laidKinds := [.data, .data, .data, .data, .sentinel, .sentinel, .listed, .data, .pinned], laidTests := true, laidLooks := .later }
def UcdLigatureCardSaid : Prop := Claim7.holds Tryd.pinned (.plain (OpenSpec.ofChange ucdLigatureSpec)) ucdLigatureCard

/-- THE SECOND FORM's CARD OF 'lapwinglaw02.UcdPairs'. -/
def ucdPairsUptoCard : Claim7 := { stood := { row := ucdPairsUptoRow, standIns := [], harness := (true, "3007de9edc473d45262e3a1cc25437b27e95a6c3cac48b74dfddebbda7b0b2f6"), looks := true }, kinds := [], alts := [], laidByText := true, laidKinds := [.data, .data, .data, .data, .sentinel, .sentinel, .listed, .data, .pinned], laidTests := true, laidLooks := .later }
def UcdPairsUptoCardSaid : Prop := Claim7.holds Tryd.pinned (.plain (OpenSpec.upto ucdPairsSpec)) ucdPairsUptoCard

/-- THE SECOND FORM's CARD OF 'lapwinglaw02.UcdForms'. -/
def ucdFormsUptoCard : Claim7 := { stood := { row := ucdFormsUptoRow, standIns := [], harness := (true, "3007de9edc473d45262e3a1cc25437b27e95a6c3cac48b74dfddebbda7b0b2f6"), looks := true }, kinds := [], alts := [], laidByText := true, laidKinds := [.data, .data, .data, .data, .sentinel, .sentinel, .listed, .data, .pinned], laidTests := true, laidLooks := .later }
def UcdFormsUptoCardSaid : Prop := Claim7.holds Tryd.pinned (.plain (OpenSpec.upto ucdFormsSpec)) ucdFormsUptoCard

/-- THE SECOND FORM's CARD OF 'lapwinglaw02.UcdSane'. -/
def ucdSaneUptoCard : Claim7 := { stood := { row := ucdSaneUptoRow, standIns := [], harness := (true, "3007de9edc473d45262e3a1cc25437b27e95a6c3cac48b74dfddebbda7b0b2f6"), looks := true }, kinds := [], alts := [], laidByText := true, laidKinds := [.data, .data, .data, .data, .sentinel, .sentinel, .listed, .data, .pinned], laidTests := true, laidLooks := .later }
def UcdSaneUptoCardSaid : Prop := Claim7.holds Tryd.pinned (.plain (OpenSpec.upto ucdSaneSpec)) ucdSaneUptoCard

/-- THE SECOND FORM's CARD OF 'lapwinglaw02.UcdWide'. -/
def ucdWideUptoCard : Claim7 := { stood := { row := ucdWideUptoRow, standIns := [], harness := (true, "3007de9edc473d45262e3a1cc25437b27e95a6c3cac48b74dfddebbda7b0b2f6"), looks := true }, kinds := [], alts := [], laidByText := true, laidKinds := [.data, .data, .data, .data, .sentinel, .sentinel, .listed, .data, .pinned], laidTests := true, laidLooks := .later }
def UcdWideUptoCardSaid : Prop := Claim7.holds Tryd.pinned (.plain (OpenSpec.upto ucdWideSpec)) ucdWideUptoCard

/-- THE SECOND FORM's CARD OF 'lapwinglaw02.UcdLigature'. -/
def ucdLigatureUptoCard : Claim7 := { stood := { row := ucdLigatureUptoRow, standIns := [], harness := (true, "3007de9edc473d45262e3a1cc25437b27e95a6c3cac48b74dfddebbda7b0b2f6"), looks := true }, kinds := [], alts := [], laidByText := true, laidKinds := [.data, .data, .data, .data, .sentinel, .sentinel, .listed, .data, .pinned], laidTests := true, laidLooks := .later }
def UcdLigatureUptoCardSaid : Prop := Claim7.holds Tryd.pinned (.plain (OpenSpec.upto ucdLigatureSpec)) ucdLigatureUptoCard
end Rows
end Go.Proofs.YthlkpcfpapiigaaDoor
