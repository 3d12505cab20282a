/-
  DERIVED. GIVEN WITH THE SEED: THE CARDS: each row of YtnhdaclpfhnbeaaDoorRows.lean that lists a variable, with what it lists TIED to the program's text (the seventh form; the later family's looks); each row that meets fmt, with fmt's text TOLD by the authors' own Lean function (tested against real Go, not proved from fmt's source: count such statements apart). THE CARD IS WHAT COUNTS. Prove the row's statement (the work); the ties are given (YtnhdaclpfhnbeaaDoorTie.lean); close each card by the builder's one call (the guide's Derived/Test/ToyasCard.lean, 'card_holds'). Laid BY PROGRAM, IN A SANDBOX (cutbox-door.mjs). By AI agents, Wed Nov 11 2026. No macro, syntax, notation, axiom, sorry.
-/
import Derived.Test.YtnhdaclpfhnbeaaDoorRows
import GoSem.ClaimSeven
namespace Go.Proofs.YtnhdaclpfhnbeaaDoor
namespace Rows

/-- THE TIED CARD OF 'laws.FnExactSchemaWrite'. -/
def fnExactSchemaWriteCard : Claim7 := { stood := { row := fnExactSchemaWriteRow, standIns := [], harness := (true, "b120fd5d5f10eceb838b2430f06f4b61689a22cc38d22adc4e55c7c0c739a995"), looks := true }, kinds := [], alts := [], laidByText := true, laidKinds := [.sentinel, .sentinel, .sentinel, .sentinel], laidTests := true, laidLooks := .later }
def FnExactSchemaWriteCardSaid : Prop := Claim7.holds Tryd.pinned (.plain (OpenSpec.ofChange fnExactSchemaWriteSpec)) fnExactSchemaWriteCard

/-- THE SECOND FORM's CARD OF 'laws.FnExactSchemaWrite'. -/
def fnExactSchemaWriteUptoCard : Claim7 := { stood := { row := fnExactSchemaWriteUptoRow, standIns := [], harness := (true, "b120fd5d5f10eceb838b2430f06f4b61689a22cc38d22adc4e55c7c0c739a995"), looks := true }, kinds := [], alts := [], laidByText := true, laidKinds := [.sentinel, .sentinel, .sentinel, .sentinel], laidTests := true, laidLooks := .later }
def FnExactSchemaWriteUptoCardSaid : Prop := Claim7.holds Tryd.pinned (.plain (OpenSpec.upto fnExactSchemaWriteSpec)) fnExactSchemaWriteUptoCard
end Rows
end Go.Proofs.YtnhdaclpfhnbeaaDoor
