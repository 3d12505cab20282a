/-
  DERIVED. GIVEN WITH THE SEED: THE CARDS: each row of YtpbomdlknkakgaaDoorRows.lean that lists a variable, with what it lists TIED to the program's text (the seventh form; the later family's looks); each row that meets fmt, with fmt's text TOLD by the authors' own Lean function (tested against real Go, not proved from fmt's source: count such statements apart). THE CARD IS WHAT COUNTS. Prove the row's statement (the work); the ties are given (YtpbomdlknkakgaaDoorTie.lean); close each card by the builder's one call (the guide's Derived/Test/ToyasCard.lean, 'card_holds'). Laid BY PROGRAM, IN A SANDBOX (cutbox-door.mjs). By AI agents, Wed Nov 11 2026. No macro, syntax, notation, axiom, sorry.
-/
import Derived.Test.YtpbomdlknkakgaaDoorRows
import GoSem.ClaimSeven
namespace Go.Proofs.YtpbomdlknkakgaaDoor
namespace Rows

/-- THE TIED CARD OF 'laws.FnPathText'. -/
def fnPathTextCard : Claim7 := { stood := { row := fnPathTextRow, standIns := [], harness := (true, "c572a9c328d5bb07d4c72834ee05dfee138d035929f0035f35a877d92cab67b2"), looks := false }, kinds := [], alts := [], laidByText := true, laidKinds := [.data, .data, .data], laidTests := true, laidLooks := .later }
def FnPathTextCardSaid : Prop := Claim7.holds Tryd.pinned (.plain (OpenSpec.ofChange fnPathTextSpec)) fnPathTextCard

/-- THE TIED CARD OF 'laws.FnTreeFresh'. -/
def fnTreeFreshCard : Claim7 := { stood := { row := fnTreeFreshRow, standIns := [], harness := (true, "c572a9c328d5bb07d4c72834ee05dfee138d035929f0035f35a877d92cab67b2"), looks := false }, kinds := [], alts := [], laidByText := true, laidKinds := [.data, .data, .data], laidTests := true, laidLooks := .later }
def FnTreeFreshCardSaid : Prop := Claim7.holds Tryd.pinned (.plain (OpenSpec.ofChange fnTreeFreshSpec)) fnTreeFreshCard

/-- THE SECOND FORM's CARD OF 'laws.FnPathText'. -/
def fnPathTextUptoCard : Claim7 := { stood := { row := fnPathTextUptoRow, standIns := [], harness := (true, "c572a9c328d5bb07d4c72834ee05dfee138d035929f0035f35a877d92cab67b2"), looks := false }, kinds := [], alts := [], laidByText := true, laidKinds := [.data, .data, .data], laidTests := true, laidLooks := .later }
def FnPathTextUptoCardSaid : Prop := Claim7.holds Tryd.pinned (.plain (OpenSpec.upto fnPathTextSpec)) fnPathTextUptoCard

/-- THE SECOND FORM's CARD OF 'laws.FnTreeFresh'. -/
def fnTreeFreshUptoCard : Claim7 := { stood := { row := fnTreeFreshUptoRow, standIns := [], harness := (true, "c572a9c328d5bb07d4c72834ee05dfee138d035929f0035f35a877d92cab67b2"), looks := false }, kinds := [], alts := [], laidByText := true, laidKinds := [.data, .data, .data], laidTests := true, laidLooks := .later }
def FnTreeFreshUptoCardSaid : Prop := Claim7.holds Tryd.pinned (.plain (OpenSpec.upto fnTreeFreshSpec)) fnTreeFreshUptoCard
end Rows
end Go.Proofs.YtpbomdlknkakgaaDoor
