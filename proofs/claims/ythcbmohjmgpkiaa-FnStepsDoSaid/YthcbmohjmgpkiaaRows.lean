/-
  NARROWER THAN 'FOR EVERY INPUT', by the rows' own cells (each row's printed sentence says how): FnExactStepDo: loops · FnExactStepsDo: loops · FnExactStepBack: loops · FnExactStepsBack: loops · FnExactStepsMeet: loops · FnExactMergeFits: loops.
  DERIVED. THE GIVEN ROWS OF THIS SEAT. 10 by the template 'for every input the law returns true; each argument reads behind the call as it read before'; 0 by the template 'total and deterministic' (their statements: YthcbmohjmgpkiaaTotals.lean).
  GIVEN WITH THE SEED: the statements are not yours to turn. If you find one false, say at which input.
  Laid BY PROGRAM, IN A SANDBOX (cutbox-rows.mjs): the forced cells as the released guide's own fill.sh prints them over the translation d8e311ee6a8750e9… (all of the seat's roots in one cut). By AI agents, Wed Nov 11 2026. No macro, syntax, notation, axiom, sorry.
-/
import Derived.Test.YthcbmohjmgpkiaaChecked
import GoSem.Claim
import GoSem.ClaimJoined
import GoSem.ClaimMapViews
import Derived.JoinedTies
import Derived.KernelRfl
namespace Go.Proofs.Ythcbmohjmgpkiaa
/- THE CELL 'sum', in the pinned program and in every row, IS THE sha256 OF THE DUMP (.gsa) THAT YthcbmohjmgpkiaaProg.lean LOADS. Nothing in Lean hashes anything: it is a label: what it is worth is what the hold of that sum in a sandbox is worth. -/
noncomputable def Try.pinned : Pinned := { name := "ythcbmohjmgpkiaa", sum := "d8e311ee6a8750e9a9215fe293c852ac5320a1ca1b800ae37862e607a2983478", checked := Try.checked }
namespace Rows
def none {H : Type} : Left H := { results := [], args := [] }

/-- 'laws.FnExactStepDo': WHATEVER THE INPUT: true; the input reads as it did. -/
def fnExactStepDoSpec : ChangeSpec := { name := "fnExactStepDo", fn := fun _ => fun
  | [d1, d2] => { results := [.lit (.bool true)], args := [d1, d2] }
  | _ => none }
def fnExactStepDoRow : OpenClaim := { program := "ythcbmohjmgpkiaa", sum := "d8e311ee6a8750e9a9215fe293c852ac5320a1ca1b800ae37862e607a2983478", func := "loop.example/codicil/laws.FnExactStepDo", spec := "fnExactStepDo", unfollowed := true, recurses := true, loops := true, plainKeys := false, apart := false }
def FnExactStepDoSaid : Prop := fnExactStepDoRow.holds Try.pinned (OpenSpec.ofChange fnExactStepDoSpec)

/-- ITS FALSE NEIGHBOUR: 'it returns false'. Refute it at one input. -/
def fnExactStepDoWrong : ChangeSpec := { name := "fnExactStepDo", fn := fun _ => fun
  | [d1, d2] => { results := [.lit (.bool false)], args := [d1, d2] }
  | _ => none }
def FnExactStepDoWrongFalsely : Prop := fnExactStepDoRow.holds Try.pinned (OpenSpec.ofChange fnExactStepDoWrong)

/-- 'laws.FnExactStepsDo': WHATEVER THE INPUT: true; the input reads as it did. -/
def fnExactStepsDoSpec : ChangeSpec := { name := "fnExactStepsDo", fn := fun _ => fun
  | [d1, d2] => { results := [.lit (.bool true)], args := [d1, d2] }
  | _ => none }
def fnExactStepsDoRow : OpenClaim := { program := "ythcbmohjmgpkiaa", sum := "d8e311ee6a8750e9a9215fe293c852ac5320a1ca1b800ae37862e607a2983478", func := "loop.example/codicil/laws.FnExactStepsDo", spec := "fnExactStepsDo", unfollowed := true, recurses := true, loops := true, plainKeys := false, apart := false }
def FnExactStepsDoSaid : Prop := fnExactStepsDoRow.holds Try.pinned (OpenSpec.ofChange fnExactStepsDoSpec)

/-- ITS FALSE NEIGHBOUR: 'it returns false'. Refute it at one input. -/
def fnExactStepsDoWrong : ChangeSpec := { name := "fnExactStepsDo", fn := fun _ => fun
  | [d1, d2] => { results := [.lit (.bool false)], args := [d1, d2] }
  | _ => none }
def FnExactStepsDoWrongFalsely : Prop := fnExactStepsDoRow.holds Try.pinned (OpenSpec.ofChange fnExactStepsDoWrong)

/-- 'laws.FnExactStepBack': WHATEVER THE INPUT: true; the input reads as it did. -/
def fnExactStepBackSpec : ChangeSpec := { name := "fnExactStepBack", fn := fun _ => fun
  | [d1, d2] => { results := [.lit (.bool true)], args := [d1, d2] }
  | _ => none }
def fnExactStepBackRow : OpenClaim := { program := "ythcbmohjmgpkiaa", sum := "d8e311ee6a8750e9a9215fe293c852ac5320a1ca1b800ae37862e607a2983478", func := "loop.example/codicil/laws.FnExactStepBack", spec := "fnExactStepBack", unfollowed := true, recurses := true, loops := true, plainKeys := false, apart := false }
def FnExactStepBackSaid : Prop := fnExactStepBackRow.holds Try.pinned (OpenSpec.ofChange fnExactStepBackSpec)

/-- ITS FALSE NEIGHBOUR: 'it returns false'. Refute it at one input. -/
def fnExactStepBackWrong : ChangeSpec := { name := "fnExactStepBack", fn := fun _ => fun
  | [d1, d2] => { results := [.lit (.bool false)], args := [d1, d2] }
  | _ => none }
def FnExactStepBackWrongFalsely : Prop := fnExactStepBackRow.holds Try.pinned (OpenSpec.ofChange fnExactStepBackWrong)

/-- 'laws.FnExactStepsBack': WHATEVER THE INPUT: true; the input reads as it did. -/
def fnExactStepsBackSpec : ChangeSpec := { name := "fnExactStepsBack", fn := fun _ => fun
  | [d1, d2] => { results := [.lit (.bool true)], args := [d1, d2] }
  | _ => none }
def fnExactStepsBackRow : OpenClaim := { program := "ythcbmohjmgpkiaa", sum := "d8e311ee6a8750e9a9215fe293c852ac5320a1ca1b800ae37862e607a2983478", func := "loop.example/codicil/laws.FnExactStepsBack", spec := "fnExactStepsBack", unfollowed := true, recurses := true, loops := true, plainKeys := false, apart := false }
def FnExactStepsBackSaid : Prop := fnExactStepsBackRow.holds Try.pinned (OpenSpec.ofChange fnExactStepsBackSpec)

/-- ITS FALSE NEIGHBOUR: 'it returns false'. Refute it at one input. -/
def fnExactStepsBackWrong : ChangeSpec := { name := "fnExactStepsBack", fn := fun _ => fun
  | [d1, d2] => { results := [.lit (.bool false)], args := [d1, d2] }
  | _ => none }
def FnExactStepsBackWrongFalsely : Prop := fnExactStepsBackRow.holds Try.pinned (OpenSpec.ofChange fnExactStepsBackWrong)

/-- 'laws.FnExactStepsMeet': WHATEVER THE INPUT: true; the input reads as it did. -/
def fnExactStepsMeetSpec : ChangeSpec := { name := "fnExactStepsMeet", fn := fun _ => fun
  | [d1, d2, d3] => { results := [.lit (.bool true)], args := [d1, d2, d3] }
  | _ => none }
def fnExactStepsMeetRow : OpenClaim := { program := "ythcbmohjmgpkiaa", sum := "d8e311ee6a8750e9a9215fe293c852ac5320a1ca1b800ae37862e607a2983478", func := "loop.example/codicil/laws.FnExactStepsMeet", spec := "fnExactStepsMeet", unfollowed := true, recurses := true, loops := true, plainKeys := false, apart := false }
def FnExactStepsMeetSaid : Prop := fnExactStepsMeetRow.holds Try.pinned (OpenSpec.ofChange fnExactStepsMeetSpec)

/-- ITS FALSE NEIGHBOUR: 'it returns false'. Refute it at one input. -/
def fnExactStepsMeetWrong : ChangeSpec := { name := "fnExactStepsMeet", fn := fun _ => fun
  | [d1, d2, d3] => { results := [.lit (.bool false)], args := [d1, d2, d3] }
  | _ => none }
def FnExactStepsMeetWrongFalsely : Prop := fnExactStepsMeetRow.holds Try.pinned (OpenSpec.ofChange fnExactStepsMeetWrong)

/-- 'laws.FnStepOnly': WHATEVER THE INPUT: true; the input reads as it did. -/
def fnStepOnlySpec : ChangeSpec := { name := "fnStepOnly", fn := fun _ => fun
  | [d] => { results := [.lit (.bool true)], args := [d] }
  | _ => none }
def fnStepOnlyRow : OpenClaim := { program := "ythcbmohjmgpkiaa", sum := "d8e311ee6a8750e9a9215fe293c852ac5320a1ca1b800ae37862e607a2983478", func := "loop.example/codicil/laws.FnStepOnly", spec := "fnStepOnly", unfollowed := true, recurses := true, plainKeys := false, apart := false }
def FnStepOnlySaid : Prop := fnStepOnlyRow.holds Try.pinned (OpenSpec.ofChange fnStepOnlySpec)

/-- ITS FALSE NEIGHBOUR: 'it returns false'. Refute it at one input. -/
def fnStepOnlyWrong : ChangeSpec := { name := "fnStepOnly", fn := fun _ => fun
  | [d] => { results := [.lit (.bool false)], args := [d] }
  | _ => none }
def FnStepOnlyWrongFalsely : Prop := fnStepOnlyRow.holds Try.pinned (OpenSpec.ofChange fnStepOnlyWrong)

/-- 'laws.FnStepsDo': WHATEVER THE INPUT: true; the input reads as it did. -/
def fnStepsDoSpec : ChangeSpec := { name := "fnStepsDo", fn := fun _ => fun
  | [d] => { results := [.lit (.bool true)], args := [d] }
  | _ => none }
def fnStepsDoRow : OpenClaim := { program := "ythcbmohjmgpkiaa", sum := "d8e311ee6a8750e9a9215fe293c852ac5320a1ca1b800ae37862e607a2983478", func := "loop.example/codicil/laws.FnStepsDo", spec := "fnStepsDo", unfollowed := true, recurses := true, plainKeys := false, apart := false }
def FnStepsDoSaid : Prop := fnStepsDoRow.holds Try.pinned (OpenSpec.ofChange fnStepsDoSpec)

/-- ITS FALSE NEIGHBOUR: 'it returns false'. Refute it at one input. -/
def fnStepsDoWrong : ChangeSpec := { name := "fnStepsDo", fn := fun _ => fun
  | [d] => { results := [.lit (.bool false)], args := [d] }
  | _ => none }
def FnStepsDoWrongFalsely : Prop := fnStepsDoRow.holds Try.pinned (OpenSpec.ofChange fnStepsDoWrong)

/-- 'laws.FnStepBack': WHATEVER THE INPUT: true; the input reads as it did. -/
def fnStepBackSpec : ChangeSpec := { name := "fnStepBack", fn := fun _ => fun
  | [d] => { results := [.lit (.bool true)], args := [d] }
  | _ => none }
def fnStepBackRow : OpenClaim := { program := "ythcbmohjmgpkiaa", sum := "d8e311ee6a8750e9a9215fe293c852ac5320a1ca1b800ae37862e607a2983478", func := "loop.example/codicil/laws.FnStepBack", spec := "fnStepBack", unfollowed := true, recurses := true, plainKeys := false, apart := false }
def FnStepBackSaid : Prop := fnStepBackRow.holds Try.pinned (OpenSpec.ofChange fnStepBackSpec)

/-- ITS FALSE NEIGHBOUR: 'it returns false'. Refute it at one input. -/
def fnStepBackWrong : ChangeSpec := { name := "fnStepBack", fn := fun _ => fun
  | [d] => { results := [.lit (.bool false)], args := [d] }
  | _ => none }
def FnStepBackWrongFalsely : Prop := fnStepBackRow.holds Try.pinned (OpenSpec.ofChange fnStepBackWrong)

/-- 'laws.FnStepTurn': WHATEVER THE INPUT: true; the input reads as it did. -/
def fnStepTurnSpec : ChangeSpec := { name := "fnStepTurn", fn := fun _ => fun
  | [d1, d2] => { results := [.lit (.bool true)], args := [d1, d2] }
  | _ => none }
def fnStepTurnRow : OpenClaim := { program := "ythcbmohjmgpkiaa", sum := "d8e311ee6a8750e9a9215fe293c852ac5320a1ca1b800ae37862e607a2983478", func := "loop.example/codicil/laws.FnStepTurn", spec := "fnStepTurn", unfollowed := true, recurses := true, plainKeys := false, apart := false }
def FnStepTurnSaid : Prop := fnStepTurnRow.holds Try.pinned (OpenSpec.ofChange fnStepTurnSpec)

/-- ITS FALSE NEIGHBOUR: 'it returns false'. Refute it at one input. -/
def fnStepTurnWrong : ChangeSpec := { name := "fnStepTurn", fn := fun _ => fun
  | [d1, d2] => { results := [.lit (.bool false)], args := [d1, d2] }
  | _ => none }
def FnStepTurnWrongFalsely : Prop := fnStepTurnRow.holds Try.pinned (OpenSpec.ofChange fnStepTurnWrong)

/-- 'laws.FnExactMergeFits': WHATEVER THE INPUT: true; the input reads as it did. -/
def fnExactMergeFitsSpec : ChangeSpec := { name := "fnExactMergeFits", fn := fun _ => fun
  | [d1, d2, d3] => { results := [.lit (.bool true)], args := [d1, d2, d3] }
  | _ => none }
def fnExactMergeFitsRow : OpenClaim := { program := "ythcbmohjmgpkiaa", sum := "d8e311ee6a8750e9a9215fe293c852ac5320a1ca1b800ae37862e607a2983478", func := "loop.example/codicil/laws.FnExactMergeFits", spec := "fnExactMergeFits", unfollowed := true, recurses := true, loops := true, plainKeys := false, apart := false }
def FnExactMergeFitsSaid : Prop := fnExactMergeFitsRow.holds Try.pinned (OpenSpec.ofChange fnExactMergeFitsSpec)

/-- ITS FALSE NEIGHBOUR: 'it returns false'. Refute it at one input. -/
def fnExactMergeFitsWrong : ChangeSpec := { name := "fnExactMergeFits", fn := fun _ => fun
  | [d1, d2, d3] => { results := [.lit (.bool false)], args := [d1, d2, d3] }
  | _ => none }
def FnExactMergeFitsWrongFalsely : Prop := fnExactMergeFitsRow.holds Try.pinned (OpenSpec.ofChange fnExactMergeFitsWrong)

/- THE SECOND FORM. 'bulk': how many values and letters a reading holds, each counted each time it is reached (what is shared counts as often as it is met; a slice's spare places count too). A statement '..UptoSaid' is the law's where the arguments, and the package variables that the reading takes, are together of bulk at most 1048576: NARROWER than '..Said'. Prove '..Said' where nothing that the law and all that it calls make is longer than what came in: it says more and counts as full. Else prove '..UptoSaid'. A law counts once. -/
mutual
def uptoBulk {H : Type} : DataW H → Nat
  | .lit (.string bytes) => bytes.length + 1
  | .lit _ => 1
  | .nil => 1
  | .ptr d => uptoBulk d + 1
  | .slice elems spare => uptoBulkAll elems + uptoBulkAll spare + 1
  | .agg parts => uptoBulkAll parts + 1
  | .iface _ d => uptoBulk d + 1
  | .map entries => uptoBulkEntries entries + 1
  | .held _ => 1
def uptoBulkAll {H : Type} : List (DataW H) → Nat
  | [] => 0
  | d :: r => uptoBulk d + uptoBulkAll r
def uptoBulkEntries {H : Type} : List (Lit × DataW H) → Nat
  | [] => 0
  | x :: r => uptoBulkEntry x + uptoBulkEntries r
def uptoBulkEntry {H : Type} : Lit × DataW H → Nat
  | (.string bytes, d) => bytes.length + uptoBulk d + 1
  | (_, d) => uptoBulk d + 1
 end
def uptoSmall : (H : Type) → List (DataW H) → Bool := fun _ ds => decide (uptoBulkAll ds ≤ 1048576)
def OpenSpec.upto (s : _root_.Go.ChangeSpec) : _root_.Go.OpenSpec := { _root_.Go.OpenSpec.ofChange s with cond := some uptoSmall }

/-- 'laws.FnExactStepDo', WHERE WHAT IT READS IS OF BULK AT MOST 1048576: true; the input reads as it did. -/
def fnExactStepDoUptoRow : OpenClaim := { program := "ythcbmohjmgpkiaa", sum := "d8e311ee6a8750e9a9215fe293c852ac5320a1ca1b800ae37862e607a2983478", func := "loop.example/codicil/laws.FnExactStepDo", spec := "fnExactStepDo", unfollowed := true, recurses := true, loops := true, plainKeys := false, apart := false, narrowed := true }
def FnExactStepDoUptoSaid : Prop := fnExactStepDoUptoRow.holds Try.pinned (OpenSpec.upto fnExactStepDoSpec)

/-- 'laws.FnExactStepsDo', WHERE WHAT IT READS IS OF BULK AT MOST 1048576: true; the input reads as it did. -/
def fnExactStepsDoUptoRow : OpenClaim := { program := "ythcbmohjmgpkiaa", sum := "d8e311ee6a8750e9a9215fe293c852ac5320a1ca1b800ae37862e607a2983478", func := "loop.example/codicil/laws.FnExactStepsDo", spec := "fnExactStepsDo", unfollowed := true, recurses := true, loops := true, plainKeys := false, apart := false, narrowed := true }
def FnExactStepsDoUptoSaid : Prop := fnExactStepsDoUptoRow.holds Try.pinned (OpenSpec.upto fnExactStepsDoSpec)

/-- 'laws.FnExactStepBack', WHERE WHAT IT READS IS OF BULK AT MOST 1048576: true; the input reads as it did. -/
def fnExactStepBackUptoRow : OpenClaim := { program := "ythcbmohjmgpkiaa", sum := "d8e311ee6a8750e9a9215fe293c852ac5320a1ca1b800ae37862e607a2983478", func := "loop.example/codicil/laws.FnExactStepBack", spec := "fnExactStepBack", unfollowed := true, recurses := true, loops := true, plainKeys := false, apart := false, narrowed := true }
def FnExactStepBackUptoSaid : Prop := fnExactStepBackUptoRow.holds Try.pinned (OpenSpec.upto fnExactStepBackSpec)

/-- 'laws.FnExactStepsBack', WHERE WHAT IT READS IS OF BULK AT MOST 1048576: true; the input reads as it did. -/
def fnExactStepsBackUptoRow : OpenClaim := { program := "ythcbmohjmgpkiaa", sum := "d8e311ee6a8750e9a9215fe293c852ac5320a1ca1b800ae37862e607a2983478", func := "loop.example/codicil/laws.FnExactStepsBack", spec := "fnExactStepsBack", unfollowed := true, recurses := true, loops := true, plainKeys := false, apart := false, narrowed := true }
def FnExactStepsBackUptoSaid : Prop := fnExactStepsBackUptoRow.holds Try.pinned (OpenSpec.upto fnExactStepsBackSpec)

/-- 'laws.FnExactStepsMeet', WHERE WHAT IT READS IS OF BULK AT MOST 1048576: true; the input reads as it did. -/
def fnExactStepsMeetUptoRow : OpenClaim := { program := "ythcbmohjmgpkiaa", sum := "d8e311ee6a8750e9a9215fe293c852ac5320a1ca1b800ae37862e607a2983478", func := "loop.example/codicil/laws.FnExactStepsMeet", spec := "fnExactStepsMeet", unfollowed := true, recurses := true, loops := true, plainKeys := false, apart := false, narrowed := true }
def FnExactStepsMeetUptoSaid : Prop := fnExactStepsMeetUptoRow.holds Try.pinned (OpenSpec.upto fnExactStepsMeetSpec)

/-- 'laws.FnStepOnly', WHERE WHAT IT READS IS OF BULK AT MOST 1048576: true; the input reads as it did. -/
def fnStepOnlyUptoRow : OpenClaim := { program := "ythcbmohjmgpkiaa", sum := "d8e311ee6a8750e9a9215fe293c852ac5320a1ca1b800ae37862e607a2983478", func := "loop.example/codicil/laws.FnStepOnly", spec := "fnStepOnly", unfollowed := true, recurses := true, plainKeys := false, apart := false, narrowed := true }
def FnStepOnlyUptoSaid : Prop := fnStepOnlyUptoRow.holds Try.pinned (OpenSpec.upto fnStepOnlySpec)

/-- 'laws.FnStepsDo', WHERE WHAT IT READS IS OF BULK AT MOST 1048576: true; the input reads as it did. -/
def fnStepsDoUptoRow : OpenClaim := { program := "ythcbmohjmgpkiaa", sum := "d8e311ee6a8750e9a9215fe293c852ac5320a1ca1b800ae37862e607a2983478", func := "loop.example/codicil/laws.FnStepsDo", spec := "fnStepsDo", unfollowed := true, recurses := true, plainKeys := false, apart := false, narrowed := true }
def FnStepsDoUptoSaid : Prop := fnStepsDoUptoRow.holds Try.pinned (OpenSpec.upto fnStepsDoSpec)

/-- 'laws.FnStepBack', WHERE WHAT IT READS IS OF BULK AT MOST 1048576: true; the input reads as it did. -/
def fnStepBackUptoRow : OpenClaim := { program := "ythcbmohjmgpkiaa", sum := "d8e311ee6a8750e9a9215fe293c852ac5320a1ca1b800ae37862e607a2983478", func := "loop.example/codicil/laws.FnStepBack", spec := "fnStepBack", unfollowed := true, recurses := true, plainKeys := false, apart := false, narrowed := true }
def FnStepBackUptoSaid : Prop := fnStepBackUptoRow.holds Try.pinned (OpenSpec.upto fnStepBackSpec)

/-- 'laws.FnStepTurn', WHERE WHAT IT READS IS OF BULK AT MOST 1048576: true; the input reads as it did. -/
def fnStepTurnUptoRow : OpenClaim := { program := "ythcbmohjmgpkiaa", sum := "d8e311ee6a8750e9a9215fe293c852ac5320a1ca1b800ae37862e607a2983478", func := "loop.example/codicil/laws.FnStepTurn", spec := "fnStepTurn", unfollowed := true, recurses := true, plainKeys := false, apart := false, narrowed := true }
def FnStepTurnUptoSaid : Prop := fnStepTurnUptoRow.holds Try.pinned (OpenSpec.upto fnStepTurnSpec)

/-- 'laws.FnExactMergeFits', WHERE WHAT IT READS IS OF BULK AT MOST 1048576: true; the input reads as it did. -/
def fnExactMergeFitsUptoRow : OpenClaim := { program := "ythcbmohjmgpkiaa", sum := "d8e311ee6a8750e9a9215fe293c852ac5320a1ca1b800ae37862e607a2983478", func := "loop.example/codicil/laws.FnExactMergeFits", spec := "fnExactMergeFits", unfollowed := true, recurses := true, loops := true, plainKeys := false, apart := false, narrowed := true }
def FnExactMergeFitsUptoSaid : Prop := fnExactMergeFitsUptoRow.holds Try.pinned (OpenSpec.upto fnExactMergeFitsSpec)

end Rows
end Go.Proofs.Ythcbmohjmgpkiaa
