/-
  DERIVED. GIVEN WITH THE SEED: THE CARDS: each row of YtaekcebacghjoaaDoorRows.lean that lists a variable, with what it lists TIED to the program's text (the seventh form; the later family's looks); each row that meets fmt, with fmt's text TOLD by the authors' own Lean function (tested against real Go, not proved from fmt's source: count such statements apart). THE CARD IS WHAT COUNTS. Prove the row's statement (the work); the ties are given (YtaekcebacghjoaaDoorTie.lean); close each card by the builder's one call (the guide's Derived/Test/ToyasCard.lean, 'card_holds'). Laid BY PROGRAM, IN A SANDBOX (cutbox-door.mjs). By AI agents, Wed Nov 11 2026. No macro, syntax, notation, axiom, sorry.
-/
import Derived.Test.YtaekcebacghjoaaDoorRows
import GoSem.ClaimSeven
namespace Go.Proofs.YtaekcebacghjoaaDoor
namespace Rows

/-- THE TIED CARD OF 'laws.FnTreeTexts'. -/
def fnTreeTextsCard : Claim7 := { stood := { row := fnTreeTextsRow, standIns := [], harness := (true, "e4acd9d7c330412b67a8cfc27183fbc0de722b081a51662150a927321939614e"), looks := false }, kinds := [], alts := [], laidByText := true, laidKinds := [.data, .data, .data], laidTests := true, laidLooks := .later }
def FnTreeTextsCardSaid : Prop := Claim7.holds Tryd.pinned (.plain (OpenSpec.ofChange fnTreeTextsSpec)) fnTreeTextsCard

/-- THE TIED CARD OF 'laws.FnTreeCount'. -/
def fnTreeCountCard : Claim7 := { stood := { row := fnTreeCountRow, standIns := [], harness := (true, "e4acd9d7c330412b67a8cfc27183fbc0de722b081a51662150a927321939614e"), looks := false }, kinds := [], alts := [], laidByText := true, laidKinds := [.data, .data, .data], laidTests := true, laidLooks := .later }
def FnTreeCountCardSaid : Prop := Claim7.holds Tryd.pinned (.plain (OpenSpec.ofChange fnTreeCountSpec)) fnTreeCountCard

/-- THE TIED CARD OF 'laws.FnExactPathOf'. -/
def fnExactPathOfCard : Claim7 := { stood := { row := fnExactPathOfRow, standIns := [], harness := (true, "e4acd9d7c330412b67a8cfc27183fbc0de722b081a51662150a927321939614e"), looks := false }, kinds := [], alts := [], laidByText := true, laidKinds := [.data, .data, .data], laidTests := true, laidLooks := .later }
def FnExactPathOfCardSaid : Prop := Claim7.holds Tryd.pinned (.plain (OpenSpec.ofChange fnExactPathOfSpec)) fnExactPathOfCard

/-- THE TIED CARD OF 'laws.FnExactPathFind'. -/
def fnExactPathFindCard : Claim7 := { stood := { row := fnExactPathFindRow, standIns := [], harness := (true, "e4acd9d7c330412b67a8cfc27183fbc0de722b081a51662150a927321939614e"), looks := false }, kinds := [], alts := [], laidByText := true, laidKinds := [.data, .data, .data], laidTests := true, laidLooks := .later }
def FnExactPathFindCardSaid : Prop := Claim7.holds Tryd.pinned (.plain (OpenSpec.ofChange fnExactPathFindSpec)) fnExactPathFindCard

/-- THE TIED CARD OF 'laws.FnPathTwice'. -/
def fnPathTwiceCard : Claim7 := { stood := { row := fnPathTwiceRow, standIns := [], harness := (true, "e4acd9d7c330412b67a8cfc27183fbc0de722b081a51662150a927321939614e"), looks := false }, kinds := [], alts := [], laidByText := true, laidKinds := [.data, .data, .data], laidTests := true, laidLooks := .later }
def FnPathTwiceCardSaid : Prop := Claim7.holds Tryd.pinned (.plain (OpenSpec.ofChange fnPathTwiceSpec)) fnPathTwiceCard

/-- THE TIED CARD OF 'laws.FnPathText'. -/
def fnPathTextCard : Claim7 := { stood := { row := fnPathTextRow, standIns := [], harness := (true, "e4acd9d7c330412b67a8cfc27183fbc0de722b081a51662150a927321939614e"), looks := false }, kinds := [], alts := [], laidByText := true, laidKinds := [.data, .data, .data], laidTests := true, laidLooks := .later }
def FnPathTextCardSaid : Prop := Claim7.holds Tryd.pinned (.plain (OpenSpec.ofChange fnPathTextSpec)) fnPathTextCard

/-- THE TIED CARD OF 'laws.FnTreeFresh'. -/
def fnTreeFreshCard : Claim7 := { stood := { row := fnTreeFreshRow, standIns := [], harness := (true, "e4acd9d7c330412b67a8cfc27183fbc0de722b081a51662150a927321939614e"), looks := false }, kinds := [], alts := [], laidByText := true, laidKinds := [.data, .data, .data], laidTests := true, laidLooks := .later }
def FnTreeFreshCardSaid : Prop := Claim7.holds Tryd.pinned (.plain (OpenSpec.ofChange fnTreeFreshSpec)) fnTreeFreshCard

/-- THE SECOND FORM's CARD OF 'laws.FnTreeTexts'. -/
def fnTreeTextsUptoCard : Claim7 := { stood := { row := fnTreeTextsUptoRow, standIns := [], harness := (true, "e4acd9d7c330412b67a8cfc27183fbc0de722b081a51662150a927321939614e"), looks := false }, kinds := [], alts := [], laidByText := true, laidKinds := [.data, .data, .data], laidTests := true, laidLooks := .later }
def FnTreeTextsUptoCardSaid : Prop := Claim7.holds Tryd.pinned (.plain (OpenSpec.upto fnTreeTextsSpec)) fnTreeTextsUptoCard

/-- THE SECOND FORM's CARD OF 'laws.FnTreeCount'. -/
def fnTreeCountUptoCard : Claim7 := { stood := { row := fnTreeCountUptoRow, standIns := [], harness := (true, "e4acd9d7c330412b67a8cfc27183fbc0de722b081a51662150a927321939614e"), looks := false }, kinds := [], alts := [], laidByText := true, laidKinds := [.data, .data, .data], laidTests := true, laidLooks := .later }
def FnTreeCountUptoCardSaid : Prop := Claim7.holds Tryd.pinned (.plain (OpenSpec.upto fnTreeCountSpec)) fnTreeCountUptoCard

/-- THE SECOND FORM's CARD OF 'laws.FnExactPathOf'. -/
def fnExactPathOfUptoCard : Claim7 := { stood := { row := fnExactPathOfUptoRow, standIns := [], harness := (true, "e4acd9d7c330412b67a8cfc27183fbc0de722b081a51662150a927321939614e"), looks := false }, kinds := [], alts := [], laidByText := true, laidKinds := [.data, .data, .data], laidTests := true, laidLooks := .later }
def FnExactPathOfUptoCardSaid : Prop := Claim7.holds Tryd.pinned (.plain (OpenSpec.upto fnExactPathOfSpec)) fnExactPathOfUptoCard

/-- THE SECOND FORM's CARD OF 'laws.FnExactPathFind'. -/
def fnExactPathFindUptoCard : Claim7 := { stood := { row := fnExactPathFindUptoRow, standIns := [], harness := (true, "e4acd9d7c330412b67a8cfc27183fbc0de722b081a51662150a927321939614e"), looks := false }, kinds := [], alts := [], laidByText := true, laidKinds := [.data, .data, .data], laidTests := true, laidLooks := .later }
def FnExactPathFindUptoCardSaid : Prop := Claim7.holds Tryd.pinned (.plain (OpenSpec.upto fnExactPathFindSpec)) fnExactPathFindUptoCard

/-- THE SECOND FORM's CARD OF 'laws.FnPathTwice'. -/
def fnPathTwiceUptoCard : Claim7 := { stood := { row := fnPathTwiceUptoRow, standIns := [], harness := (true, "e4acd9d7c330412b67a8cfc27183fbc0de722b081a51662150a927321939614e"), looks := false }, kinds := [], alts := [], laidByText := true, laidKinds := [.data, .data, .data], laidTests := true, laidLooks := .later }
def FnPathTwiceUptoCardSaid : Prop := Claim7.holds Tryd.pinned (.plain (OpenSpec.upto fnPathTwiceSpec)) fnPathTwiceUptoCard

/-- THE SECOND FORM's CARD OF 'laws.FnPathText'. -/
def fnPathTextUptoCard : Claim7 := { stood := { row := fnPathTextUptoRow, standIns := [], harness := (true, "e4acd9d7c330412b67a8cfc27183fbc0de722b081a51662150a927321939614e"), looks := false }, kinds := [], alts := [], laidByText := true, laidKinds := [.data, .data, .data], laidTests := true, laidLooks := .later }
def FnPathTextUptoCardSaid : Prop := Claim7.holds Tryd.pinned (.plain (OpenSpec.upto fnPathTextSpec)) fnPathTextUptoCard

/-- THE SECOND FORM's CARD OF 'laws.FnTreeFresh'. -/
def fnTreeFreshUptoCard : Claim7 := { stood := { row := fnTreeFreshUptoRow, standIns := [], harness := (true, "e4acd9d7c330412b67a8cfc27183fbc0de722b081a51662150a927321939614e"), looks := false }, kinds := [], alts := [], laidByText := true, laidKinds := [.data, .data, .data], laidTests := true, laidLooks := .later }
def FnTreeFreshUptoCardSaid : Prop := Claim7.holds Tryd.pinned (.plain (OpenSpec.upto fnTreeFreshSpec)) fnTreeFreshUptoCard
end Rows
end Go.Proofs.YtaekcebacghjoaaDoor
