/-
  DERIVED. GIVEN WITH THE SEED: THE CARDS: each row of YtbcnbleblcdboaaDoorRows.lean that lists a variable, with what it lists TIED to the program's text (the seventh form; the later family's looks); each row that meets fmt, with fmt's text TOLD by the authors' own Lean function (tested against real Go, not proved from fmt's source: count such statements apart). THE CARD IS WHAT COUNTS. Prove the row's statement (the work); the ties are given (YtbcnbleblcdboaaDoorTie.lean); close each card by the builder's one call (the guide's Derived/Test/ToyasCard.lean, 'card_holds'). Laid BY PROGRAM, IN A SANDBOX (cutbox-door.mjs). By AI agents, Wed Nov 11 2026. No macro, syntax, notation, axiom, sorry.
-/
import Derived.Test.YtbcnbleblcdboaaDoorRows
import GoSem.ClaimSeven
namespace Go.Proofs.YtbcnbleblcdboaaDoor
namespace Rows

/-- THE TIED CARD OF 'laws.FnExactSchemaOk'. -/
def fnExactSchemaOkCard : Claim7 := { stood := { row := fnExactSchemaOkRow, standIns := [], harness := (true, "d2accd19744a004247f5c3c1c9b39eb102d422a16e12d1d8347fa074d369ec57"), looks := true }, kinds := [], alts := [], laidByText := true, laidKinds := [.sentinel, .sentinel, .sentinel, .sentinel], laidTests := true, laidLooks := .later }
def FnExactSchemaOkCardSaid : Prop := Claim7.holds Tryd.pinned (.plain (OpenSpec.ofChange fnExactSchemaOkSpec)) fnExactSchemaOkCard

/-- THE TIED CARD OF 'laws.FnExactSchemaKids'. -/
def fnExactSchemaKidsCard : Claim7 := { stood := { row := fnExactSchemaKidsRow, standIns := [], harness := (true, "d2accd19744a004247f5c3c1c9b39eb102d422a16e12d1d8347fa074d369ec57"), looks := true }, kinds := [], alts := [], laidByText := true, laidKinds := [.sentinel, .sentinel, .sentinel, .sentinel], laidTests := true, laidLooks := .later }
def FnExactSchemaKidsCardSaid : Prop := Claim7.holds Tryd.pinned (.plain (OpenSpec.ofChange fnExactSchemaKidsSpec)) fnExactSchemaKidsCard

/-- THE SECOND FORM's CARD OF 'laws.FnExactSchemaOk'. -/
def fnExactSchemaOkUptoCard : Claim7 := { stood := { row := fnExactSchemaOkUptoRow, standIns := [], harness := (true, "d2accd19744a004247f5c3c1c9b39eb102d422a16e12d1d8347fa074d369ec57"), looks := true }, kinds := [], alts := [], laidByText := true, laidKinds := [.sentinel, .sentinel, .sentinel, .sentinel], laidTests := true, laidLooks := .later }
def FnExactSchemaOkUptoCardSaid : Prop := Claim7.holds Tryd.pinned (.plain (OpenSpec.upto fnExactSchemaOkSpec)) fnExactSchemaOkUptoCard

/-- THE SECOND FORM's CARD OF 'laws.FnExactSchemaKids'. -/
def fnExactSchemaKidsUptoCard : Claim7 := { stood := { row := fnExactSchemaKidsUptoRow, standIns := [], harness := (true, "d2accd19744a004247f5c3c1c9b39eb102d422a16e12d1d8347fa074d369ec57"), looks := true }, kinds := [], alts := [], laidByText := true, laidKinds := [.sentinel, .sentinel, .sentinel, .sentinel], laidTests := true, laidLooks := .later }
def FnExactSchemaKidsUptoCardSaid : Prop := Claim7.holds Tryd.pinned (.plain (OpenSpec.upto fnExactSchemaKidsSpec)) fnExactSchemaKidsUptoCard
end Rows
end Go.Proofs.YtbcnbleblcdboaaDoor
