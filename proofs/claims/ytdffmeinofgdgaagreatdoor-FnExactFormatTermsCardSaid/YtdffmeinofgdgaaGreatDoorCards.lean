/-
  DERIVED. GIVEN WITH THE SEED: THE CARDS: each row of YtdffmeinofgdgaaGreatDoorRows.lean that lists a variable, with what it lists TIED to the program's text (the seventh form; the later family's looks); each row that meets fmt, with fmt's text TOLD by the authors' own Lean function (tested against real Go, not proved from fmt's source: count such statements apart). THE CARD IS WHAT COUNTS. Prove the row's statement (the work); the ties are given (YtdffmeinofgdgaaGreatDoorTie.lean); close each card by the builder's one call (the guide's Derived/Test/ToyasCard.lean, 'card_holds'). Laid BY PROGRAM, IN A SANDBOX (cutbox-door.mjs). By AI agents, Wed Nov 11 2026. No macro, syntax, notation, axiom, sorry.
-/
import Derived.Test.YtdffmeinofgdgaaGreatDoorRows
import GoSem.ClaimSeven
namespace Go.Proofs.YtdffmeinofgdgaaGreatDoor
namespace Rows

/-- THE TIED CARD OF 'laws.FnExactFormatTerms'. -/
def fnExactFormatTermsCard : Claim7 := { stood := { row := fnExactFormatTermsRow, standIns := [], harness := (true, "d5a6e0a008c89088848f1a7cc616ad4c9a297bd2df4745b3b720850977f15a8a"), looks := true }, kinds := [], alts := [], laidByText := true, laidKinds := [.data, .data, .data], laidTests := true, laidLooks := .later }
def FnExactFormatTermsCardSaid : Prop := Claim7.holds Tryz.pinned (.plain (OpenSpec.ofChange fnExactFormatTermsSpec)) fnExactFormatTermsCard

/-- THE TIED CARD OF 'laws.FnExactParseTerms'. -/
def fnExactParseTermsCard : Claim7 := { stood := { row := fnExactParseTermsRow, standIns := [], harness := (true, "d5a6e0a008c89088848f1a7cc616ad4c9a297bd2df4745b3b720850977f15a8a"), looks := true }, kinds := [], alts := [], laidByText := true, laidKinds := [.data, .data, .data, .data, .sentinel, .sentinel, .pinned], laidTests := true, laidLooks := .later }
def FnExactParseTermsCardSaid : Prop := Claim7.holds Tryz.pinned (.plain (OpenSpec.ofChange fnExactParseTermsSpec)) fnExactParseTermsCard

/-- THE TIED CARD OF 'laws.FnTerms'. -/
def fnTermsCard : Claim7 := { stood := { row := fnTermsRow, standIns := [], harness := (true, "d5a6e0a008c89088848f1a7cc616ad4c9a297bd2df4745b3b720850977f15a8a"), looks := true }, kinds := [], alts := [], laidByText := true, laidKinds := [.data, .data, .data, .data, .sentinel, .sentinel, .pinned], laidTests := true, laidLooks := .later }
def FnTermsCardSaid : Prop := Claim7.holds Tryz.pinned (.plain (OpenSpec.ofChange fnTermsSpec)) fnTermsCard

/-- THE SECOND FORM's CARD OF 'laws.FnExactFormatTerms'. -/
def fnExactFormatTermsUptoCard : Claim7 := { stood := { row := fnExactFormatTermsUptoRow, standIns := [], harness := (true, "d5a6e0a008c89088848f1a7cc616ad4c9a297bd2df4745b3b720850977f15a8a"), looks := true }, kinds := [], alts := [], laidByText := true, laidKinds := [.data, .data, .data], laidTests := true, laidLooks := .later }
def FnExactFormatTermsUptoCardSaid : Prop := Claim7.holds Tryz.pinned (.plain (OpenSpec.upto fnExactFormatTermsSpec)) fnExactFormatTermsUptoCard

/-- THE SECOND FORM's CARD OF 'laws.FnExactParseTerms'. -/
def fnExactParseTermsUptoCard : Claim7 := { stood := { row := fnExactParseTermsUptoRow, standIns := [], harness := (true, "d5a6e0a008c89088848f1a7cc616ad4c9a297bd2df4745b3b720850977f15a8a"), looks := true }, kinds := [], alts := [], laidByText := true, laidKinds := [.data, .data, .data, .data, .sentinel, .sentinel, .pinned], laidTests := true, laidLooks := .later }
def FnExactParseTermsUptoCardSaid : Prop := Claim7.holds Tryz.pinned (.plain (OpenSpec.upto fnExactParseTermsSpec)) fnExactParseTermsUptoCard

/-- THE SECOND FORM's CARD OF 'laws.FnTerms'. -/
def fnTermsUptoCard : Claim7 := { stood := { row := fnTermsUptoRow, standIns := [], harness := (true, "d5a6e0a008c89088848f1a7cc616ad4c9a297bd2df4745b3b720850977f15a8a"), looks := true }, kinds := [], alts := [], laidByText := true, laidKinds := [.data, .data, .data, .data, .sentinel, .sentinel, .pinned], laidTests := true, laidLooks := .later }
def FnTermsUptoCardSaid : Prop := Claim7.holds Tryz.pinned (.plain (OpenSpec.upto fnTermsSpec)) fnTermsUptoCard
end Rows
end Go.Proofs.YtdffmeinofgdgaaGreatDoor
