/-
  DERIVED. GIVEN WITH THE SEED: THE CARDS: each row of YtleechafachkaaaDoorRows.lean that lists a variable, with what it lists TIED to the program's text (the seventh form; the later family's looks); each row that meets fmt, with fmt's text TOLD by the authors' own Lean function (tested against real Go, not proved from fmt's source: count such statements apart). THE CARD IS WHAT COUNTS. Prove the row's statement (the work); the ties are given (YtleechafachkaaaDoorTie.lean); close each card by the builder's one call (the guide's Derived/Test/ToyasCard.lean, 'card_holds'). Laid BY PROGRAM, IN A SANDBOX (cutbox-door.mjs). By AI agents, Wed Nov 11 2026. No macro, syntax, notation, axiom, sorry.
-/
import Derived.Test.YtleechafachkaaaDoorRows
import GoSem.ClaimSeven
namespace Go.Proofs.YtleechafachkaaaDoor
namespace Rows

/-- THE TIED CARD OF 'laws.FnWhole'. -/
def fnWholeCard : Claim7 := { stood := { row := fnWholeRow, standIns := [], harness := (true, "307520531d9375bd0d769bb10090c91830f072e360791235ee10ba43dcbbab62"), looks := true }, kinds := [], alts := [], laidByText := true, laidKinds := [.data, .data, .data], laidTests := true, laidLooks := .later }
def FnWholeCardSaid : Prop := Claim7.holds Tryd.pinned (.plain (OpenSpec.ofChange fnWholeSpec)) fnWholeCard

/-- THE TIED CARD OF 'laws.FnMods'. -/
def fnModsCard : Claim7 := { stood := { row := fnModsRow, standIns := [], harness := (true, "307520531d9375bd0d769bb10090c91830f072e360791235ee10ba43dcbbab62"), looks := true }, kinds := [], alts := [], laidByText := true, laidKinds := [.data, .data, .data], laidTests := true, laidLooks := .later }
def FnModsCardSaid : Prop := Claim7.holds Tryd.pinned (.plain (OpenSpec.ofChange fnModsSpec)) fnModsCard

/-- THE TIED CARD OF 'laws.FnExactFormatBigInt'. -/
def fnExactFormatBigIntCard : Claim7 := { stood := { row := fnExactFormatBigIntRow, standIns := [], harness := (true, "307520531d9375bd0d769bb10090c91830f072e360791235ee10ba43dcbbab62"), looks := true }, kinds := [], alts := [], laidByText := true, laidKinds := [.data, .data, .data], laidTests := true, laidLooks := .later }
def FnExactFormatBigIntCardSaid : Prop := Claim7.holds Tryd.pinned (.plain (OpenSpec.ofChange fnExactFormatBigIntSpec)) fnExactFormatBigIntCard

/-- THE TIED CARD OF 'laws.FnExactParseBigInt'. -/
def fnExactParseBigIntCard : Claim7 := { stood := { row := fnExactParseBigIntRow, standIns := [], harness := (true, "307520531d9375bd0d769bb10090c91830f072e360791235ee10ba43dcbbab62"), looks := true }, kinds := [], alts := [], laidByText := true, laidKinds := [.data, .data, .data, .sentinel, .sentinel], laidTests := true, laidLooks := .later }
def FnExactParseBigIntCardSaid : Prop := Claim7.holds Tryd.pinned (.plain (OpenSpec.ofChange fnExactParseBigIntSpec)) fnExactParseBigIntCard

/-- THE SECOND FORM's CARD OF 'laws.FnWhole'. -/
def fnWholeUptoCard : Claim7 := { stood := { row := fnWholeUptoRow, standIns := [], harness := (true, "307520531d9375bd0d769bb10090c91830f072e360791235ee10ba43dcbbab62"), looks := true }, kinds := [], alts := [], laidByText := true, laidKinds := [.data, .data, .data], laidTests := true, laidLooks := .later }
def FnWholeUptoCardSaid : Prop := Claim7.holds Tryd.pinned (.plain (OpenSpec.upto fnWholeSpec)) fnWholeUptoCard

/-- THE SECOND FORM's CARD OF 'laws.FnMods'. -/
def fnModsUptoCard : Claim7 := { stood := { row := fnModsUptoRow, standIns := [], harness := (true, "307520531d9375bd0d769bb10090c91830f072e360791235ee10ba43dcbbab62"), looks := true }, kinds := [], alts := [], laidByText := true, laidKinds := [.data, .data, .data], laidTests := true, laidLooks := .later }
def FnModsUptoCardSaid : Prop := Claim7.holds Tryd.pinned (.plain (OpenSpec.upto fnModsSpec)) fnModsUptoCard

/-- THE SECOND FORM's CARD OF 'laws.FnExactFormatBigInt'. -/
def fnExactFormatBigIntUptoCard : Claim7 := { stood := { row := fnExactFormatBigIntUptoRow, standIns := [], harness := (true, "307520531d9375bd0d769bb10090c91830f072e360791235ee10ba43dcbbab62"), looks := true }, kinds := [], alts := [], laidByText := true, laidKinds := [.data, .data, .data], laidTests := true, laidLooks := .later }
def FnExactFormatBigIntUptoCardSaid : Prop := Claim7.holds Tryd.pinned (.plain (OpenSpec.upto fnExactFormatBigIntSpec)) fnExactFormatBigIntUptoCard

/-- THE SECOND FORM's CARD OF 'laws.FnExactParseBigInt'. -/
def fnExactParseBigIntUptoCard : Claim7 := { stood := { row := fnExactParseBigIntUptoRow, standIns := [], harness := (true, "307520531d9375bd0d769bb10090c91830f072e360791235ee10ba43dcbbab62"), looks := true }, kinds := [], alts := [], laidByText := true, laidKinds := [.data, .data, .data, .sentinel, .sentinel], laidTests := true, laidLooks := .later }
def FnExactParseBigIntUptoCardSaid : Prop := Claim7.holds Tryd.pinned (.plain (OpenSpec.upto fnExactParseBigIntSpec)) fnExactParseBigIntUptoCard
end Rows
end Go.Proofs.YtleechafachkaaaDoor
