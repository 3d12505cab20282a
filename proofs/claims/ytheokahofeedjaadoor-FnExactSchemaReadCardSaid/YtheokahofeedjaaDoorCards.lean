/-
  DERIVED. GIVEN WITH THE SEED: THE CARDS: each row of YtheokahofeedjaaDoorRows.lean that lists a variable, with what it lists TIED to the program's text (the seventh form; the later family's looks); each row that meets fmt, with fmt's text TOLD by the authors' own Lean function (tested against real Go, not proved from fmt's source: count such statements apart). THE CARD IS WHAT COUNTS. Prove the row's statement (the work); the ties are given (YtheokahofeedjaaDoorTie.lean); close each card by the builder's one call (the guide's Derived/Test/ToyasCard.lean, 'card_holds'). Laid BY PROGRAM, IN A SANDBOX (cutbox-door.mjs). By AI agents, Wed Nov 11 2026. No macro, syntax, notation, axiom, sorry.
-/
import Derived.Test.YtheokahofeedjaaDoorRows
import GoSem.ClaimSeven
namespace Go.Proofs.YtheokahofeedjaaDoor
namespace Rows

/-- THE TIED CARD OF 'laws.FnSchemaText'. -/
def fnSchemaTextCard : Claim7 := { stood := { row := fnSchemaTextRow, standIns := [], harness := (true, "574feb5fa98312dafee27ff08b699c6619d86076a16fa3948b37b4a4bebed691"), looks := true }, kinds := [], alts := [], laidByText := true, laidKinds := [.sentinel, .sentinel, .sentinel, .sentinel, .sentinel], laidTests := true, laidLooks := .later }
def FnSchemaTextCardSaid : Prop := Claim7.holds Tryd.pinned (.plain (OpenSpec.ofChange fnSchemaTextSpec)) fnSchemaTextCard

/-- THE TIED CARD OF 'laws.FnExactSchemaRead'. -/
def fnExactSchemaReadCard : Claim7 := { stood := { row := fnExactSchemaReadRow, standIns := [], harness := (true, "574feb5fa98312dafee27ff08b699c6619d86076a16fa3948b37b4a4bebed691"), looks := true }, kinds := [], alts := [], laidByText := true, laidKinds := [.sentinel, .sentinel, .sentinel, .sentinel, .sentinel], laidTests := true, laidLooks := .later }
def FnExactSchemaReadCardSaid : Prop := Claim7.holds Tryd.pinned (.plain (OpenSpec.ofChange fnExactSchemaReadSpec)) fnExactSchemaReadCard

/-- THE SECOND FORM's CARD OF 'laws.FnSchemaText'. -/
def fnSchemaTextUptoCard : Claim7 := { stood := { row := fnSchemaTextUptoRow, standIns := [], harness := (true, "574feb5fa98312dafee27ff08b699c6619d86076a16fa3948b37b4a4bebed691"), looks := true }, kinds := [], alts := [], laidByText := true, laidKinds := [.sentinel, .sentinel, .sentinel, .sentinel, .sentinel], laidTests := true, laidLooks := .later }
def FnSchemaTextUptoCardSaid : Prop := Claim7.holds Tryd.pinned (.plain (OpenSpec.upto fnSchemaTextSpec)) fnSchemaTextUptoCard

/-- THE SECOND FORM's CARD OF 'laws.FnExactSchemaRead'. -/
def fnExactSchemaReadUptoCard : Claim7 := { stood := { row := fnExactSchemaReadUptoRow, standIns := [], harness := (true, "574feb5fa98312dafee27ff08b699c6619d86076a16fa3948b37b4a4bebed691"), looks := true }, kinds := [], alts := [], laidByText := true, laidKinds := [.sentinel, .sentinel, .sentinel, .sentinel, .sentinel], laidTests := true, laidLooks := .later }
def FnExactSchemaReadUptoCardSaid : Prop := Claim7.holds Tryd.pinned (.plain (OpenSpec.upto fnExactSchemaReadSpec)) fnExactSchemaReadUptoCard
end Rows
end Go.Proofs.YtheokahofeedjaaDoor
