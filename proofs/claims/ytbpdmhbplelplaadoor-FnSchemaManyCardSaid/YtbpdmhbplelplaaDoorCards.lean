/-
  DERIVED. GIVEN WITH THE SEED: THE CARDS: each row of YtbpdmhbplelplaaDoorRows.lean that lists a variable, with what it lists TIED to the program's text (the seventh form; the later family's looks); each row that meets fmt, with fmt's text TOLD by the authors' own Lean function (tested against real Go, not proved from fmt's source: count such statements apart). THE CARD IS WHAT COUNTS. Prove the row's statement (the work); the ties are given (YtbpdmhbplelplaaDoorTie.lean); close each card by the builder's one call (the guide's Derived/Test/ToyasCard.lean, 'card_holds'). Laid BY PROGRAM, IN A SANDBOX (cutbox-door.mjs). By AI agents, Wed Nov 11 2026. No macro, syntax, notation, axiom, sorry.
-/
import Derived.Test.YtbpdmhbplelplaaDoorRows
import GoSem.ClaimSeven
namespace Go.Proofs.YtbpdmhbplelplaaDoor
namespace Rows

/-- THE TIED CARD OF 'laws.FnSchemaMany'. -/
def fnSchemaManyCard : Claim7 := { stood := { row := fnSchemaManyRow, standIns := [], harness := (true, "b0274ff7744effe876c0ccfd820b2401516fb31be01a0a9a99a317afb20d88f6"), looks := true }, kinds := [], alts := [], laidByText := true, laidKinds := [.sentinel, .sentinel, .sentinel, .sentinel], laidTests := true, laidLooks := .later }
def FnSchemaManyCardSaid : Prop := Claim7.holds Tryd.pinned (.plain (OpenSpec.ofChange fnSchemaManySpec)) fnSchemaManyCard

/-- THE TIED CARD OF 'laws.FnSchemaFits'. -/
def fnSchemaFitsCard : Claim7 := { stood := { row := fnSchemaFitsRow, standIns := [], harness := (true, "b0274ff7744effe876c0ccfd820b2401516fb31be01a0a9a99a317afb20d88f6"), looks := true }, kinds := [], alts := [], laidByText := true, laidKinds := [.sentinel, .sentinel, .sentinel, .sentinel, .sentinel, .sentinel], laidTests := true, laidLooks := .later }
def FnSchemaFitsCardSaid : Prop := Claim7.holds Tryd.pinned (.plain (OpenSpec.ofChange fnSchemaFitsSpec)) fnSchemaFitsCard

/-- THE TIED CARD OF 'laws.FnExactSchemaWrite'. -/
def fnExactSchemaWriteCard : Claim7 := { stood := { row := fnExactSchemaWriteRow, standIns := [], harness := (true, "b0274ff7744effe876c0ccfd820b2401516fb31be01a0a9a99a317afb20d88f6"), looks := true }, kinds := [], alts := [], laidByText := true, laidKinds := [.sentinel, .sentinel, .sentinel, .sentinel], laidTests := true, laidLooks := .later }
def FnExactSchemaWriteCardSaid : Prop := Claim7.holds Tryd.pinned (.plain (OpenSpec.ofChange fnExactSchemaWriteSpec)) fnExactSchemaWriteCard

/-- THE TIED CARD OF 'laws.FnExactSchemaFits'. -/
def fnExactSchemaFitsCard : Claim7 := { stood := { row := fnExactSchemaFitsRow, standIns := [], harness := (true, "b0274ff7744effe876c0ccfd820b2401516fb31be01a0a9a99a317afb20d88f6"), looks := true }, kinds := [], alts := [], laidByText := true, laidKinds := [.sentinel, .sentinel, .sentinel, .sentinel, .sentinel, .sentinel], laidTests := true, laidLooks := .later }
def FnExactSchemaFitsCardSaid : Prop := Claim7.holds Tryd.pinned (.plain (OpenSpec.ofChange fnExactSchemaFitsSpec)) fnExactSchemaFitsCard

/-- THE SECOND FORM's CARD OF 'laws.FnSchemaMany'. -/
def fnSchemaManyUptoCard : Claim7 := { stood := { row := fnSchemaManyUptoRow, standIns := [], harness := (true, "b0274ff7744effe876c0ccfd820b2401516fb31be01a0a9a99a317afb20d88f6"), looks := true }, kinds := [], alts := [], laidByText := true, laidKinds := [.sentinel, .sentinel, .sentinel, .sentinel], laidTests := true, laidLooks := .later }
def FnSchemaManyUptoCardSaid : Prop := Claim7.holds Tryd.pinned (.plain (OpenSpec.upto fnSchemaManySpec)) fnSchemaManyUptoCard

/-- THE SECOND FORM's CARD OF 'laws.FnSchemaFits'. -/
def fnSchemaFitsUptoCard : Claim7 := { stood := { row := fnSchemaFitsUptoRow, standIns := [], harness := (true, "b0274ff7744effe876c0ccfd820b2401516fb31be01a0a9a99a317afb20d88f6"), looks := true }, kinds := [], alts := [], laidByText := true, laidKinds := [.sentinel, .sentinel, .sentinel, .sentinel, .sentinel, .sentinel], laidTests := true, laidLooks := .later }
def FnSchemaFitsUptoCardSaid : Prop := Claim7.holds Tryd.pinned (.plain (OpenSpec.upto fnSchemaFitsSpec)) fnSchemaFitsUptoCard

/-- THE SECOND FORM's CARD OF 'laws.FnExactSchemaWrite'. -/
def fnExactSchemaWriteUptoCard : Claim7 := { stood := { row := fnExactSchemaWriteUptoRow, standIns := [], harness := (true, "b0274ff7744effe876c0ccfd820b2401516fb31be01a0a9a99a317afb20d88f6"), looks := true }, kinds := [], alts := [], laidByText := true, laidKinds := [.sentinel, .sentinel, .sentinel, .sentinel], laidTests := true, laidLooks := .later }
def FnExactSchemaWriteUptoCardSaid : Prop := Claim7.holds Tryd.pinned (.plain (OpenSpec.upto fnExactSchemaWriteSpec)) fnExactSchemaWriteUptoCard

/-- THE SECOND FORM's CARD OF 'laws.FnExactSchemaFits'. -/
def fnExactSchemaFitsUptoCard : Claim7 := { stood := { row := fnExactSchemaFitsUptoRow, standIns := [], harness := (true, "b0274ff7744effe876c0ccfd820b2401516fb31be01a0a9a99a317afb20d88f6"), looks := true }, kinds := [], alts := [], laidByText := true, laidKinds := [.sentinel, .sentinel, .sentinel, .sentinel, .sentinel, .sentinel], laidTests := true, laidLooks := .later }
def FnExactSchemaFitsUptoCardSaid : Prop := Claim7.holds Tryd.pinned (.plain (OpenSpec.upto fnExactSchemaFitsSpec)) fnExactSchemaFitsUptoCard
end Rows
end Go.Proofs.YtbpdmhbplelplaaDoor
