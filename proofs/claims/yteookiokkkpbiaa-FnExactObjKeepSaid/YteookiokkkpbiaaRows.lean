/-
  NARROWER THAN 'FOR EVERY INPUT', by the rows' own cells (each row's printed sentence says how): FnExactMergeFits: loops · FnExactStepDo: loops · FnExactDiffCost: loops.
  DERIVED. THE GIVEN ROWS OF THIS SEAT. 7 by the template 'for every input the law returns true; each argument reads behind the call as it read before'; 0 by the template 'total and deterministic' (their statements: YteookiokkkpbiaaTotals.lean).
  GIVEN WITH THE SEED: the statements are not yours to turn. If you find one false, say at which input.
  Laid BY PROGRAM, IN A SANDBOX (cutbox-rows.mjs): the forced cells as the released guide's own fill.sh prints them over the translation 7738d88733db60c1… (all of the seat's roots in one cut). By AI agents, Wed Nov 11 2026. No macro, syntax, notation, axiom, sorry.
-/
import Derived.Test.YteookiokkkpbiaaChecked
import GoSem.Claim
import GoSem.ClaimJoined
import GoSem.ClaimMapViews
import Derived.JoinedTies
import Derived.KernelRfl
namespace Go.Proofs.Yteookiokkkpbiaa
/- THE CELL 'sum', in the pinned program and in every row, IS THE sha256 OF THE DUMP (.gsa) THAT YteookiokkkpbiaaProg.lean LOADS. Nothing in Lean hashes anything: it is a label: what it is worth is what the hold of that sum in a sandbox is worth. -/
noncomputable def Try.pinned : Pinned := { name := "yteookiokkkpbiaa", sum := "7738d88733db60c1b1b3323908e73dfadb09d67aa5792a2033507bfcbbd66c6b", checked := Try.checked }
namespace Rows
def none {H : Type} : Left H := { results := [], args := [] }

/-- 'laws.FnTreeFind': WHATEVER THE INPUT: true; the input reads as it did. -/
def fnTreeFindSpec : ChangeSpec := { name := "fnTreeFind", fn := fun _ => fun
  | [d] => { results := [.lit (.bool true)], args := [d] }
  | _ => none }
def fnTreeFindRow : OpenClaim := { program := "yteookiokkkpbiaa", sum := "7738d88733db60c1b1b3323908e73dfadb09d67aa5792a2033507bfcbbd66c6b", func := "loop.example/codicil/laws.FnTreeFind", spec := "fnTreeFind", unfollowed := true, recurses := true, apart := false }
def FnTreeFindSaid : Prop := fnTreeFindRow.holds Try.pinned (OpenSpec.ofChange fnTreeFindSpec)

/-- ITS FALSE NEIGHBOUR: 'it returns false'. Refute it at one input. -/
def fnTreeFindWrong : ChangeSpec := { name := "fnTreeFind", fn := fun _ => fun
  | [d] => { results := [.lit (.bool false)], args := [d] }
  | _ => none }
def FnTreeFindWrongFalsely : Prop := fnTreeFindRow.holds Try.pinned (OpenSpec.ofChange fnTreeFindWrong)

/-- 'laws.FnTreeOver': WHATEVER THE INPUT: true; the input reads as it did. -/
def fnTreeOverSpec : ChangeSpec := { name := "fnTreeOver", fn := fun _ => fun
  | [d] => { results := [.lit (.bool true)], args := [d] }
  | _ => none }
def fnTreeOverRow : OpenClaim := { program := "yteookiokkkpbiaa", sum := "7738d88733db60c1b1b3323908e73dfadb09d67aa5792a2033507bfcbbd66c6b", func := "loop.example/codicil/laws.FnTreeOver", spec := "fnTreeOver", unfollowed := true, recurses := true, apart := false }
def FnTreeOverSaid : Prop := fnTreeOverRow.holds Try.pinned (OpenSpec.ofChange fnTreeOverSpec)

/-- ITS FALSE NEIGHBOUR: 'it returns false'. Refute it at one input. -/
def fnTreeOverWrong : ChangeSpec := { name := "fnTreeOver", fn := fun _ => fun
  | [d] => { results := [.lit (.bool false)], args := [d] }
  | _ => none }
def FnTreeOverWrongFalsely : Prop := fnTreeOverRow.holds Try.pinned (OpenSpec.ofChange fnTreeOverWrong)

/-- 'laws.FnTreeLevel': WHATEVER THE INPUT: true; the input reads as it did. -/
def fnTreeLevelSpec : ChangeSpec := { name := "fnTreeLevel", fn := fun _ => fun
  | [d] => { results := [.lit (.bool true)], args := [d] }
  | _ => none }
def fnTreeLevelRow : OpenClaim := { program := "yteookiokkkpbiaa", sum := "7738d88733db60c1b1b3323908e73dfadb09d67aa5792a2033507bfcbbd66c6b", func := "loop.example/codicil/laws.FnTreeLevel", spec := "fnTreeLevel", unfollowed := true, recurses := true, apart := false }
def FnTreeLevelSaid : Prop := fnTreeLevelRow.holds Try.pinned (OpenSpec.ofChange fnTreeLevelSpec)

/-- ITS FALSE NEIGHBOUR: 'it returns false'. Refute it at one input. -/
def fnTreeLevelWrong : ChangeSpec := { name := "fnTreeLevel", fn := fun _ => fun
  | [d] => { results := [.lit (.bool false)], args := [d] }
  | _ => none }
def FnTreeLevelWrongFalsely : Prop := fnTreeLevelRow.holds Try.pinned (OpenSpec.ofChange fnTreeLevelWrong)

/-- 'laws.FnExactObjKeep': WHATEVER THE INPUT: true; the input reads as it did. -/
def fnExactObjKeepSpec : ChangeSpec := { name := "fnExactObjKeep", fn := fun _ => fun
  | [d1, d2] => { results := [.lit (.bool true)], args := [d1, d2] }
  | _ => none }
def fnExactObjKeepRow : OpenClaim := { program := "yteookiokkkpbiaa", sum := "7738d88733db60c1b1b3323908e73dfadb09d67aa5792a2033507bfcbbd66c6b", func := "loop.example/codicil/laws.FnExactObjKeep", spec := "fnExactObjKeep", apart := false }
def FnExactObjKeepSaid : Prop := fnExactObjKeepRow.holds Try.pinned (OpenSpec.ofChange fnExactObjKeepSpec)

/-- ITS FALSE NEIGHBOUR: 'it returns false'. Refute it at one input. -/
def fnExactObjKeepWrong : ChangeSpec := { name := "fnExactObjKeep", fn := fun _ => fun
  | [d1, d2] => { results := [.lit (.bool false)], args := [d1, d2] }
  | _ => none }
def FnExactObjKeepWrongFalsely : Prop := fnExactObjKeepRow.holds Try.pinned (OpenSpec.ofChange fnExactObjKeepWrong)

/-- 'laws.FnExactMergeFits': WHATEVER THE INPUT: true; the input reads as it did. -/
def fnExactMergeFitsSpec : ChangeSpec := { name := "fnExactMergeFits", fn := fun _ => fun
  | [d1, d2, d3] => { results := [.lit (.bool true)], args := [d1, d2, d3] }
  | _ => none }
def fnExactMergeFitsRow : OpenClaim := { program := "yteookiokkkpbiaa", sum := "7738d88733db60c1b1b3323908e73dfadb09d67aa5792a2033507bfcbbd66c6b", func := "loop.example/codicil/laws.FnExactMergeFits", spec := "fnExactMergeFits", unfollowed := true, recurses := true, loops := true, apart := false }
def FnExactMergeFitsSaid : Prop := fnExactMergeFitsRow.holds Try.pinned (OpenSpec.ofChange fnExactMergeFitsSpec)

/-- ITS FALSE NEIGHBOUR: 'it returns false'. Refute it at one input. -/
def fnExactMergeFitsWrong : ChangeSpec := { name := "fnExactMergeFits", fn := fun _ => fun
  | [d1, d2, d3] => { results := [.lit (.bool false)], args := [d1, d2, d3] }
  | _ => none }
def FnExactMergeFitsWrongFalsely : Prop := fnExactMergeFitsRow.holds Try.pinned (OpenSpec.ofChange fnExactMergeFitsWrong)

/-- 'laws.FnExactStepDo': WHATEVER THE INPUT: true; the input reads as it did. -/
def fnExactStepDoSpec : ChangeSpec := { name := "fnExactStepDo", fn := fun _ => fun
  | [d1, d2] => { results := [.lit (.bool true)], args := [d1, d2] }
  | _ => none }
def fnExactStepDoRow : OpenClaim := { program := "yteookiokkkpbiaa", sum := "7738d88733db60c1b1b3323908e73dfadb09d67aa5792a2033507bfcbbd66c6b", func := "loop.example/codicil/laws.FnExactStepDo", spec := "fnExactStepDo", unfollowed := true, recurses := true, loops := true, apart := false }
def FnExactStepDoSaid : Prop := fnExactStepDoRow.holds Try.pinned (OpenSpec.ofChange fnExactStepDoSpec)

/-- ITS FALSE NEIGHBOUR: 'it returns false'. Refute it at one input. -/
def fnExactStepDoWrong : ChangeSpec := { name := "fnExactStepDo", fn := fun _ => fun
  | [d1, d2] => { results := [.lit (.bool false)], args := [d1, d2] }
  | _ => none }
def FnExactStepDoWrongFalsely : Prop := fnExactStepDoRow.holds Try.pinned (OpenSpec.ofChange fnExactStepDoWrong)

/-- 'laws.FnExactDiffCost': WHATEVER THE INPUT: true; the input reads as it did. -/
def fnExactDiffCostSpec : ChangeSpec := { name := "fnExactDiffCost", fn := fun _ => fun
  | [d1, d2] => { results := [.lit (.bool true)], args := [d1, d2] }
  | _ => none }
def fnExactDiffCostRow : OpenClaim := { program := "yteookiokkkpbiaa", sum := "7738d88733db60c1b1b3323908e73dfadb09d67aa5792a2033507bfcbbd66c6b", func := "loop.example/codicil/laws.FnExactDiffCost", spec := "fnExactDiffCost", unfollowed := true, recurses := true, loops := true, apart := false }
def FnExactDiffCostSaid : Prop := fnExactDiffCostRow.holds Try.pinned (OpenSpec.ofChange fnExactDiffCostSpec)

/-- ITS FALSE NEIGHBOUR: 'it returns false'. Refute it at one input. -/
def fnExactDiffCostWrong : ChangeSpec := { name := "fnExactDiffCost", fn := fun _ => fun
  | [d1, d2] => { results := [.lit (.bool false)], args := [d1, d2] }
  | _ => none }
def FnExactDiffCostWrongFalsely : Prop := fnExactDiffCostRow.holds Try.pinned (OpenSpec.ofChange fnExactDiffCostWrong)

/- THE SECOND FORM. 'bulk': how many values and letters a reading holds, each counted each time it is reached (what is shared counts as often as it is met; a slice's spare places count too). A statement '..UptoSaid' is the law's where the arguments, and the package variables that the reading takes, are together of bulk at most 1048576: NARROWER than '..Said'. Prove '..Said' where nothing that the law and all that it calls make is longer than what came in: it says more and counts as full. Else prove '..UptoSaid'. A law counts once. -/
mutual
def uptoBulk {H : Type} : DataW H → Nat
  | .lit (.string bytes) => bytes.length + 1
  | .lit _ => 1
  | .nil => 1
  | .ptr d => uptoBulk d + 1
  | .slice elems spare => uptoBulkAll elems + uptoBulkAll spare + 1
  | .agg parts => uptoBulkAll parts + 1
  | .iface _ d => uptoBulk d + 1
  | .map entries => uptoBulkEntries entries + 1
  | .held _ => 1
def uptoBulkAll {H : Type} : List (DataW H) → Nat
  | [] => 0
  | d :: r => uptoBulk d + uptoBulkAll r
def uptoBulkEntries {H : Type} : List (Lit × DataW H) → Nat
  | [] => 0
  | x :: r => uptoBulkEntry x + uptoBulkEntries r
def uptoBulkEntry {H : Type} : Lit × DataW H → Nat
  | (.string bytes, d) => bytes.length + uptoBulk d + 1
  | (_, d) => uptoBulk d + 1
 end
def uptoSmall : (H : Type) → List (DataW H) → Bool := fun _ ds => decide (uptoBulkAll ds ≤ 1048576)
def OpenSpec.upto (s : _root_.Go.ChangeSpec) : _root_.Go.OpenSpec := { _root_.Go.OpenSpec.ofChange s with cond := some uptoSmall }

/-- 'laws.FnTreeFind', WHERE WHAT IT READS IS OF BULK AT MOST 1048576: true; the input reads as it did. -/
def fnTreeFindUptoRow : OpenClaim := { program := "yteookiokkkpbiaa", sum := "7738d88733db60c1b1b3323908e73dfadb09d67aa5792a2033507bfcbbd66c6b", func := "loop.example/codicil/laws.FnTreeFind", spec := "fnTreeFind", unfollowed := true, recurses := true, apart := false, narrowed := true }
def FnTreeFindUptoSaid : Prop := fnTreeFindUptoRow.holds Try.pinned (OpenSpec.upto fnTreeFindSpec)

/-- 'laws.FnTreeOver', WHERE WHAT IT READS IS OF BULK AT MOST 1048576: true; the input reads as it did. -/
def fnTreeOverUptoRow : OpenClaim := { program := "yteookiokkkpbiaa", sum := "7738d88733db60c1b1b3323908e73dfadb09d67aa5792a2033507bfcbbd66c6b", func := "loop.example/codicil/laws.FnTreeOver", spec := "fnTreeOver", unfollowed := true, recurses := true, apart := false, narrowed := true }
def FnTreeOverUptoSaid : Prop := fnTreeOverUptoRow.holds Try.pinned (OpenSpec.upto fnTreeOverSpec)

/-- 'laws.FnTreeLevel', WHERE WHAT IT READS IS OF BULK AT MOST 1048576: true; the input reads as it did. -/
def fnTreeLevelUptoRow : OpenClaim := { program := "yteookiokkkpbiaa", sum := "7738d88733db60c1b1b3323908e73dfadb09d67aa5792a2033507bfcbbd66c6b", func := "loop.example/codicil/laws.FnTreeLevel", spec := "fnTreeLevel", unfollowed := true, recurses := true, apart := false, narrowed := true }
def FnTreeLevelUptoSaid : Prop := fnTreeLevelUptoRow.holds Try.pinned (OpenSpec.upto fnTreeLevelSpec)

/-- 'laws.FnExactObjKeep', WHERE WHAT IT READS IS OF BULK AT MOST 1048576: true; the input reads as it did. -/
def fnExactObjKeepUptoRow : OpenClaim := { program := "yteookiokkkpbiaa", sum := "7738d88733db60c1b1b3323908e73dfadb09d67aa5792a2033507bfcbbd66c6b", func := "loop.example/codicil/laws.FnExactObjKeep", spec := "fnExactObjKeep", apart := false, narrowed := true }
def FnExactObjKeepUptoSaid : Prop := fnExactObjKeepUptoRow.holds Try.pinned (OpenSpec.upto fnExactObjKeepSpec)

/-- 'laws.FnExactMergeFits', WHERE WHAT IT READS IS OF BULK AT MOST 1048576: true; the input reads as it did. -/
def fnExactMergeFitsUptoRow : OpenClaim := { program := "yteookiokkkpbiaa", sum := "7738d88733db60c1b1b3323908e73dfadb09d67aa5792a2033507bfcbbd66c6b", func := "loop.example/codicil/laws.FnExactMergeFits", spec := "fnExactMergeFits", unfollowed := true, recurses := true, loops := true, apart := false, narrowed := true }
def FnExactMergeFitsUptoSaid : Prop := fnExactMergeFitsUptoRow.holds Try.pinned (OpenSpec.upto fnExactMergeFitsSpec)

/-- 'laws.FnExactStepDo', WHERE WHAT IT READS IS OF BULK AT MOST 1048576: true; the input reads as it did. -/
def fnExactStepDoUptoRow : OpenClaim := { program := "yteookiokkkpbiaa", sum := "7738d88733db60c1b1b3323908e73dfadb09d67aa5792a2033507bfcbbd66c6b", func := "loop.example/codicil/laws.FnExactStepDo", spec := "fnExactStepDo", unfollowed := true, recurses := true, loops := true, apart := false, narrowed := true }
def FnExactStepDoUptoSaid : Prop := fnExactStepDoUptoRow.holds Try.pinned (OpenSpec.upto fnExactStepDoSpec)

/-- 'laws.FnExactDiffCost', WHERE WHAT IT READS IS OF BULK AT MOST 1048576: true; the input reads as it did. -/
def fnExactDiffCostUptoRow : OpenClaim := { program := "yteookiokkkpbiaa", sum := "7738d88733db60c1b1b3323908e73dfadb09d67aa5792a2033507bfcbbd66c6b", func := "loop.example/codicil/laws.FnExactDiffCost", spec := "fnExactDiffCost", unfollowed := true, recurses := true, loops := true, apart := false, narrowed := true }
def FnExactDiffCostUptoSaid : Prop := fnExactDiffCostUptoRow.holds Try.pinned (OpenSpec.upto fnExactDiffCostSpec)

end Rows
end Go.Proofs.Yteookiokkkpbiaa
