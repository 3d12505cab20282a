/-
  DERIVED. GIVEN WITH THE SEED: THE CARDS: each row of YtopphkdhggienaaDoorRows.lean that lists a variable, with what it lists TIED to the program's text (the seventh form; the later family's looks); each row that meets fmt, with fmt's text TOLD by the authors' own Lean function (tested against real Go, not proved from fmt's source: count such statements apart). THE CARD IS WHAT COUNTS. Prove the row's statement (the work); the ties are given (YtopphkdhggienaaDoorTie.lean); close each card by the builder's one call (the guide's Derived/Test/ToyasCard.lean, 'card_holds'). Laid BY PROGRAM, IN A SANDBOX (cutbox-door.mjs). By AI agents, Wed Nov 11 2026. No macro, syntax, notation, axiom, sorry.
-/
import Derived.Test.YtopphkdhggienaaDoorRows
import GoSem.ClaimSeven
namespace Go.Proofs.YtopphkdhggienaaDoor
namespace Rows

/-- THE TIED CARD OF 'laws.FnExactCommitRead'. -/
def fnExactCommitReadCard : Claim7 := { stood := { row := fnExactCommitReadRow, standIns := [], harness := (true, "0d6c92ed18f6899485051ab1470b8303ef4cc341678251e7a6c38efe506ab368"), looks := false }, kinds := [], alts := [], laidByText := true, laidKinds := [.sentinel], laidTests := true, laidLooks := .later }
def FnExactCommitReadCardSaid : Prop := Claim7.holds Tryd.pinned (.plain (OpenSpec.ofChange fnExactCommitReadSpec)) fnExactCommitReadCard

/-- THE SECOND FORM's CARD OF 'laws.FnExactCommitRead'. -/
def fnExactCommitReadUptoCard : Claim7 := { stood := { row := fnExactCommitReadUptoRow, standIns := [], harness := (true, "0d6c92ed18f6899485051ab1470b8303ef4cc341678251e7a6c38efe506ab368"), looks := false }, kinds := [], alts := [], laidByText := true, laidKinds := [.sentinel], laidTests := true, laidLooks := .later }
def FnExactCommitReadUptoCardSaid : Prop := Claim7.holds Tryd.pinned (.plain (OpenSpec.upto fnExactCommitReadSpec)) fnExactCommitReadUptoCard
end Rows
end Go.Proofs.YtopphkdhggienaaDoor
