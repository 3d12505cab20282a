/-
  DERIVED. GIVEN WITH THE SEED: THE CARDS: each row of YtijfonhgojfmkaaDoorRows.lean that lists a variable, with what it lists TIED to the program's text (the seventh form; the later family's looks); each row that meets fmt, with fmt's text TOLD by the authors' own Lean function (tested against real Go, not proved from fmt's source: count such statements apart). THE CARD IS WHAT COUNTS. Prove the row's statement (the work); the ties are given (YtijfonhgojfmkaaDoorTie.lean); close each card by the builder's one call (the guide's Derived/Test/ToyasCard.lean, 'card_holds'). Laid BY PROGRAM, IN A SANDBOX (cutbox-door.mjs). By AI agents, Wed Nov 11 2026. No macro, syntax, notation, axiom, sorry.
-/
import Derived.Test.YtijfonhgojfmkaaDoorRows
import GoSem.ClaimSeven
namespace Go.Proofs.YtijfonhgojfmkaaDoor
namespace Rows

/-- THE TIED CARD OF 'laws.FnTreeFresh'. -/
def fnTreeFreshCard : Claim7 := { stood := { row := fnTreeFreshRow, standIns := [], harness := (true, "c846ea8bafa81d770d2a7daee04d27b4b68068f7b370cc9f2a025746d8cd0317"), looks := false }, kinds := [], alts := [], laidByText := true, laidKinds := [.data, .data, .data], laidTests := true, laidLooks := .later }
def FnTreeFreshCardSaid : Prop := Claim7.holds Tryd.pinned (.plain (OpenSpec.ofChange fnTreeFreshSpec)) fnTreeFreshCard

/-- THE SECOND FORM's CARD OF 'laws.FnTreeFresh'. -/
def fnTreeFreshUptoCard : Claim7 := { stood := { row := fnTreeFreshUptoRow, standIns := [], harness := (true, "c846ea8bafa81d770d2a7daee04d27b4b68068f7b370cc9f2a025746d8cd0317"), looks := false }, kinds := [], alts := [], laidByText := true, laidKinds := [.data, .data, .data], laidTests := true, laidLooks := .later }
def FnTreeFreshUptoCardSaid : Prop := Claim7.holds Tryd.pinned (.plain (OpenSpec.upto fnTreeFreshSpec)) fnTreeFreshUptoCard
end Rows
end Go.Proofs.YtijfonhgojfmkaaDoor
