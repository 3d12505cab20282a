/-
  DERIVED. GIVEN WITH THE SEED: THE CARDS: each row of YtbekcgbmahcliaaDoorRows.lean that lists a variable, with what it lists TIED to the program's text (the seventh form; the later family's looks); each row that meets fmt, with fmt's text TOLD by the authors' own Lean function (tested against real Go, not proved from fmt's source: count such statements apart). THE CARD IS WHAT COUNTS. Prove the row's statement (the work); the ties are given (YtbekcgbmahcliaaDoorTie.lean); close each card by the builder's one call (the guide's Derived/Test/ToyasCard.lean, 'card_holds'). Laid BY PROGRAM, IN A SANDBOX (cutbox-door.mjs). By AI agents, Wed Nov 11 2026. No macro, syntax, notation, axiom, sorry.
-/
import Derived.Test.YtbekcgbmahcliaaDoorRows
import GoSem.ClaimSeven
namespace Go.Proofs.YtbekcgbmahcliaaDoor
namespace Rows

/-- THE TIED CARD OF 'laws.FnStepsText'. -/
def fnStepsTextCard : Claim7 := { stood := { row := fnStepsTextRow, standIns := [], harness := (true, "8bdcdf0e0b4d02deea9220bf26d5215c33536a60df6b99c1cdc918f0ea102c30"), looks := false }, kinds := [], alts := [], laidByText := true, laidKinds := [.data, .data, .data], laidTests := true, laidLooks := .later }
def FnStepsTextCardSaid : Prop := Claim7.holds Tryd.pinned (.plain (OpenSpec.ofChange fnStepsTextSpec)) fnStepsTextCard

/-- THE TIED CARD OF 'laws.FnExactStepsText'. -/
def fnExactStepsTextCard : Claim7 := { stood := { row := fnExactStepsTextRow, standIns := [], harness := (true, "8bdcdf0e0b4d02deea9220bf26d5215c33536a60df6b99c1cdc918f0ea102c30"), looks := false }, kinds := [], alts := [], laidByText := true, laidKinds := [.data, .data, .data], laidTests := true, laidLooks := .later }
def FnExactStepsTextCardSaid : Prop := Claim7.holds Tryd.pinned (.plain (OpenSpec.ofChange fnExactStepsTextSpec)) fnExactStepsTextCard

/-- THE SECOND FORM's CARD OF 'laws.FnStepsText'. -/
def fnStepsTextUptoCard : Claim7 := { stood := { row := fnStepsTextUptoRow, standIns := [], harness := (true, "8bdcdf0e0b4d02deea9220bf26d5215c33536a60df6b99c1cdc918f0ea102c30"), looks := false }, kinds := [], alts := [], laidByText := true, laidKinds := [.data, .data, .data], laidTests := true, laidLooks := .later }
def FnStepsTextUptoCardSaid : Prop := Claim7.holds Tryd.pinned (.plain (OpenSpec.upto fnStepsTextSpec)) fnStepsTextUptoCard

/-- THE SECOND FORM's CARD OF 'laws.FnExactStepsText'. -/
def fnExactStepsTextUptoCard : Claim7 := { stood := { row := fnExactStepsTextUptoRow, standIns := [], harness := (true, "8bdcdf0e0b4d02deea9220bf26d5215c33536a60df6b99c1cdc918f0ea102c30"), looks := false }, kinds := [], alts := [], laidByText := true, laidKinds := [.data, .data, .data], laidTests := true, laidLooks := .later }
def FnExactStepsTextUptoCardSaid : Prop := Claim7.holds Tryd.pinned (.plain (OpenSpec.upto fnExactStepsTextSpec)) fnExactStepsTextUptoCard
end Rows
end Go.Proofs.YtbekcgbmahcliaaDoor
