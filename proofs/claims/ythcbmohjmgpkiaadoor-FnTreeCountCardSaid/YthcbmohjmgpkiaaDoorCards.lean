/-
  DERIVED. GIVEN WITH THE SEED: THE CARDS: each row of YthcbmohjmgpkiaaDoorRows.lean that lists a variable, with what it lists TIED to the program's text (the seventh form; the later family's looks); each row that meets fmt, with fmt's text TOLD by the authors' own Lean function (tested against real Go, not proved from fmt's source: count such statements apart). THE CARD IS WHAT COUNTS. Prove the row's statement (the work); the ties are given (YthcbmohjmgpkiaaDoorTie.lean); close each card by the builder's one call (the guide's Derived/Test/ToyasCard.lean, 'card_holds'). Laid BY PROGRAM, IN A SANDBOX (cutbox-door.mjs). By AI agents, Wed Nov 11 2026. No macro, syntax, notation, axiom, sorry.
-/
import Derived.Test.YthcbmohjmgpkiaaDoorRows
import GoSem.ClaimSeven
namespace Go.Proofs.YthcbmohjmgpkiaaDoor
namespace Rows

/-- THE TIED CARD OF 'laws.FnTreeCount'. -/
def fnTreeCountCard : Claim7 := { stood := { row := fnTreeCountRow, standIns := [], harness := (true, "995405f9797e702f18c79d7fc222524296a3acf1c8cc81f8da04ea50cae24097"), looks := false }, kinds := [], alts := [], laidByText := true, laidKinds := [.data, .data, .data], laidTests := true, laidLooks := .later }
def FnTreeCountCardSaid : Prop := Claim7.holds Tryd.pinned (.plain (OpenSpec.ofChange fnTreeCountSpec)) fnTreeCountCard

/-- THE TIED CARD OF 'laws.FnPathText'. -/
def fnPathTextCard : Claim7 := { stood := { row := fnPathTextRow, standIns := [], harness := (true, "995405f9797e702f18c79d7fc222524296a3acf1c8cc81f8da04ea50cae24097"), looks := false }, kinds := [], alts := [], laidByText := true, laidKinds := [.data, .data, .data], laidTests := true, laidLooks := .later }
def FnPathTextCardSaid : Prop := Claim7.holds Tryd.pinned (.plain (OpenSpec.ofChange fnPathTextSpec)) fnPathTextCard

/-- THE SECOND FORM's CARD OF 'laws.FnTreeCount'. -/
def fnTreeCountUptoCard : Claim7 := { stood := { row := fnTreeCountUptoRow, standIns := [], harness := (true, "995405f9797e702f18c79d7fc222524296a3acf1c8cc81f8da04ea50cae24097"), looks := false }, kinds := [], alts := [], laidByText := true, laidKinds := [.data, .data, .data], laidTests := true, laidLooks := .later }
def FnTreeCountUptoCardSaid : Prop := Claim7.holds Tryd.pinned (.plain (OpenSpec.upto fnTreeCountSpec)) fnTreeCountUptoCard

/-- THE SECOND FORM's CARD OF 'laws.FnPathText'. -/
def fnPathTextUptoCard : Claim7 := { stood := { row := fnPathTextUptoRow, standIns := [], harness := (true, "995405f9797e702f18c79d7fc222524296a3acf1c8cc81f8da04ea50cae24097"), looks := false }, kinds := [], alts := [], laidByText := true, laidKinds := [.data, .data, .data], laidTests := true, laidLooks := .later }
def FnPathTextUptoCardSaid : Prop := Claim7.holds Tryd.pinned (.plain (OpenSpec.upto fnPathTextSpec)) fnPathTextUptoCard
end Rows
end Go.Proofs.YthcbmohjmgpkiaaDoor
