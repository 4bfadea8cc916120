/-
  DERIVED. GIVEN WITH THE SEED: THE CARDS: each row of YtmghoedjcokhpaaGreatDoorRows.lean that lists a variable, with what it lists TIED to the program's text (the seventh form; the later family's looks); each row that meets fmt, with fmt's text TOLD by the authors' own Lean function (tested against real Go, not proved from fmt's source: count such statements apart). THE CARD IS WHAT COUNTS. Prove the row's statement (the work); the ties are given (YtmghoedjcokhpaaGreatDoorTie.lean); close each card by the builder's one call (the guide's Derived/Test/ToyasCard.lean, 'card_holds'). Laid BY PROGRAM, IN A SANDBOX (cutbox-door.mjs). By AI agents, Wed Nov 11 2026. No macro, syntax, notation, axiom, sorry.
-/
import Derived.Test.YtmghoedjcokhpaaGreatDoorRows
import GoSem.ClaimSeven
namespace Go.Proofs.YtmghoedjcokhpaaGreatDoor
namespace Rows

/-- THE TIED CARD OF 'laws.FnExactFormatVec'. -/
def fnExactFormatVecCard : Claim7 := { stood := { row := fnExactFormatVecRow, standIns := [], harness := (true, "338dc5dbdfbe783eea1bcf7ae8556431448bf625878bd3ddd6bc5348987cdb4f"), looks := true }, kinds := [], alts := [], laidByText := true, laidKinds := [.data, .data, .data], laidTests := true, laidLooks := .later }
def FnExactFormatVecCardSaid : Prop := Claim7.holds Tryz.pinned (.plain (OpenSpec.ofChange fnExactFormatVecSpec)) fnExactFormatVecCard

/-- THE TIED CARD OF 'laws.FnExactParseVec'. -/
def fnExactParseVecCard : Claim7 := { stood := { row := fnExactParseVecRow, standIns := [], harness := (true, "338dc5dbdfbe783eea1bcf7ae8556431448bf625878bd3ddd6bc5348987cdb4f"), looks := true }, kinds := [], alts := [], laidByText := true, laidKinds := [.data, .data, .data, .sentinel, .sentinel], laidTests := true, laidLooks := .later }
def FnExactParseVecCardSaid : Prop := Claim7.holds Tryz.pinned (.plain (OpenSpec.ofChange fnExactParseVecSpec)) fnExactParseVecCard

/-- THE TIED CARD OF 'laws.FnDigits'. -/
def fnDigitsCard : Claim7 := { stood := { row := fnDigitsRow, standIns := [], harness := (true, "338dc5dbdfbe783eea1bcf7ae8556431448bf625878bd3ddd6bc5348987cdb4f"), looks := true }, kinds := [], alts := [], laidByText := true, laidKinds := [.data, .data, .data, .sentinel, .sentinel], laidTests := true, laidLooks := .later }
def FnDigitsCardSaid : Prop := Claim7.holds Tryz.pinned (.plain (OpenSpec.ofChange fnDigitsSpec)) fnDigitsCard

/-- THE SECOND FORM's CARD OF 'laws.FnExactFormatVec'. -/
def fnExactFormatVecUptoCard : Claim7 := { stood := { row := fnExactFormatVecUptoRow, standIns := [], harness := (true, "338dc5dbdfbe783eea1bcf7ae8556431448bf625878bd3ddd6bc5348987cdb4f"), looks := true }, kinds := [], alts := [], laidByText := true, laidKinds := [.data, .data, .data], laidTests := true, laidLooks := .later }
def FnExactFormatVecUptoCardSaid : Prop := Claim7.holds Tryz.pinned (.plain (OpenSpec.upto fnExactFormatVecSpec)) fnExactFormatVecUptoCard

/-- THE SECOND FORM's CARD OF 'laws.FnExactParseVec'. -/
def fnExactParseVecUptoCard : Claim7 := { stood := { row := fnExactParseVecUptoRow, standIns := [], harness := (true, "338dc5dbdfbe783eea1bcf7ae8556431448bf625878bd3ddd6bc5348987cdb4f"), looks := true }, kinds := [], alts := [], laidByText := true, laidKinds := [.data, .data, .data, .sentinel, .sentinel], laidTests := true, laidLooks := .later }
def FnExactParseVecUptoCardSaid : Prop := Claim7.holds Tryz.pinned (.plain (OpenSpec.upto fnExactParseVecSpec)) fnExactParseVecUptoCard

/-- THE SECOND FORM's CARD OF 'laws.FnDigits'. -/
def fnDigitsUptoCard : Claim7 := { stood := { row := fnDigitsUptoRow, standIns := [], harness := (true, "338dc5dbdfbe783eea1bcf7ae8556431448bf625878bd3ddd6bc5348987cdb4f"), looks := true }, kinds := [], alts := [], laidByText := true, laidKinds := [.data, .data, .data, .sentinel, .sentinel], laidTests := true, laidLooks := .later }
def FnDigitsUptoCardSaid : Prop := Claim7.holds Tryz.pinned (.plain (OpenSpec.upto fnDigitsSpec)) fnDigitsUptoCard
end Rows
end Go.Proofs.YtmghoedjcokhpaaGreatDoor
