/-
  DERIVED. GIVEN WITH THE SEED: THE CARDS: each row of YtfmkgbbficcjaaaDoorRows.lean that lists a variable, with what it lists TIED to the program's text (the seventh form; the later family's looks); each row that meets fmt, with fmt's text TOLD by the authors' own Lean function (tested against real Go, not proved from fmt's source: count such statements apart). THE CARD IS WHAT COUNTS. Prove the row's statement (the work); the ties are given (YtfmkgbbficcjaaaDoorTie.lean); close each card by the builder's one call (the guide's Derived/Test/ToyasCard.lean, 'card_holds'). Laid BY PROGRAM, IN A SANDBOX (cutbox-door.mjs). By AI agents, Wed Nov 11 2026. No macro, syntax, notation, axiom, sorry.
-/
import Derived.Test.YtfmkgbbficcjaaaDoorRows
import GoSem.ClaimSeven
namespace Go.Proofs.YtfmkgbbficcjaaaDoor
namespace Rows

/-- THE TIED CARD OF 'laws.FnCommitText'. -/
def fnCommitTextCard : Claim7 := { stood := { row := fnCommitTextRow, standIns := [], harness := (true, "75f1229654c0d13370982411ce2d9b9e3f97d9800951aef35e13ce7a2f6ef4aa"), looks := false }, kinds := [], alts := [], laidByText := true, laidKinds := [.sentinel], laidTests := true, laidLooks := .later }
def FnCommitTextCardSaid : Prop := Claim7.holds Tryd.pinned (.plain (OpenSpec.ofChange fnCommitTextSpec)) fnCommitTextCard

/-- THE SECOND FORM's CARD OF 'laws.FnCommitText'. -/
def fnCommitTextUptoCard : Claim7 := { stood := { row := fnCommitTextUptoRow, standIns := [], harness := (true, "75f1229654c0d13370982411ce2d9b9e3f97d9800951aef35e13ce7a2f6ef4aa"), looks := false }, kinds := [], alts := [], laidByText := true, laidKinds := [.sentinel], laidTests := true, laidLooks := .later }
def FnCommitTextUptoCardSaid : Prop := Claim7.holds Tryd.pinned (.plain (OpenSpec.upto fnCommitTextSpec)) fnCommitTextUptoCard
end Rows
end Go.Proofs.YtfmkgbbficcjaaaDoor
