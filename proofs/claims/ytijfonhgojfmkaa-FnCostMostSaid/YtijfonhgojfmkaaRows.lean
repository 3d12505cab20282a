/-
  NARROWER THAN 'FOR EVERY INPUT', by the rows' own cells (each row's printed sentence says how): FnExactDiffCost: loops.
  DERIVED. THE GIVEN ROWS OF THIS SEAT. 5 by the template 'for every input the law returns true; each argument reads behind the call as it read before'; 0 by the template 'total and deterministic' (their statements: YtijfonhgojfmkaaTotals.lean).
  GIVEN WITH THE SEED: the statements are not yours to turn. If you find one false, say at which input.
  Laid BY PROGRAM, IN A SANDBOX (cutbox-rows.mjs): the forced cells as the released guide's own fill.sh prints them over the translation 44019ccc2df6a33b… (all of the seat's roots in one cut). By AI agents, Wed Nov 11 2026. No macro, syntax, notation, axiom, sorry.
-/
import Derived.Test.YtijfonhgojfmkaaChecked
import GoSem.Claim
import GoSem.ClaimJoined
import GoSem.ClaimMapViews
import Derived.JoinedTies
import Derived.KernelRfl
namespace Go.Proofs.Ytijfonhgojfmkaa
/- THE CELL 'sum', in the pinned program and in every row, IS THE sha256 OF THE DUMP (.gsa) THAT YtijfonhgojfmkaaProg.lean LOADS. Nothing in Lean hashes anything: it is a label: what it is worth is what the hold of that sum in a sandbox is worth. -/
noncomputable def Try.pinned : Pinned := { name := "ytijfonhgojfmkaa", sum := "44019ccc2df6a33b237f84ea0838894730b041a1bb00bccd6bd8ed4f2abe42c5", checked := Try.checked }
namespace Rows
def none {H : Type} : Left H := { results := [], args := [] }

/-- 'laws.FnCostTurn': WHATEVER THE INPUT: true; the input reads as it did. -/
def fnCostTurnSpec : ChangeSpec := { name := "fnCostTurn", fn := fun _ => fun
  | [d] => { results := [.lit (.bool true)], args := [d] }
  | _ => none }
def fnCostTurnRow : OpenClaim := { program := "ytijfonhgojfmkaa", sum := "44019ccc2df6a33b237f84ea0838894730b041a1bb00bccd6bd8ed4f2abe42c5", func := "loop.example/codicil/laws.FnCostTurn", spec := "fnCostTurn", unfollowed := true, recurses := true, apart := false }
def FnCostTurnSaid : Prop := fnCostTurnRow.holds Try.pinned (OpenSpec.ofChange fnCostTurnSpec)

/-- ITS FALSE NEIGHBOUR: 'it returns false'. Refute it at one input. -/
def fnCostTurnWrong : ChangeSpec := { name := "fnCostTurn", fn := fun _ => fun
  | [d] => { results := [.lit (.bool false)], args := [d] }
  | _ => none }
def FnCostTurnWrongFalsely : Prop := fnCostTurnRow.holds Try.pinned (OpenSpec.ofChange fnCostTurnWrong)

/-- 'laws.FnCostThree': WHATEVER THE INPUT: true; the input reads as it did. -/
def fnCostThreeSpec : ChangeSpec := { name := "fnCostThree", fn := fun _ => fun
  | [d1, d2] => { results := [.lit (.bool true)], args := [d1, d2] }
  | _ => none }
def fnCostThreeRow : OpenClaim := { program := "ytijfonhgojfmkaa", sum := "44019ccc2df6a33b237f84ea0838894730b041a1bb00bccd6bd8ed4f2abe42c5", func := "loop.example/codicil/laws.FnCostThree", spec := "fnCostThree", unfollowed := true, recurses := true, apart := false }
def FnCostThreeSaid : Prop := fnCostThreeRow.holds Try.pinned (OpenSpec.ofChange fnCostThreeSpec)

/-- ITS FALSE NEIGHBOUR: 'it returns false'. Refute it at one input. -/
def fnCostThreeWrong : ChangeSpec := { name := "fnCostThree", fn := fun _ => fun
  | [d1, d2] => { results := [.lit (.bool false)], args := [d1, d2] }
  | _ => none }
def FnCostThreeWrongFalsely : Prop := fnCostThreeRow.holds Try.pinned (OpenSpec.ofChange fnCostThreeWrong)

/-- 'laws.FnCostMost': WHATEVER THE INPUT: true; the input reads as it did. -/
def fnCostMostSpec : ChangeSpec := { name := "fnCostMost", fn := fun _ => fun
  | [d] => { results := [.lit (.bool true)], args := [d] }
  | _ => none }
def fnCostMostRow : OpenClaim := { program := "ytijfonhgojfmkaa", sum := "44019ccc2df6a33b237f84ea0838894730b041a1bb00bccd6bd8ed4f2abe42c5", func := "loop.example/codicil/laws.FnCostMost", spec := "fnCostMost", unfollowed := true, recurses := true, apart := false }
def FnCostMostSaid : Prop := fnCostMostRow.holds Try.pinned (OpenSpec.ofChange fnCostMostSpec)

/-- ITS FALSE NEIGHBOUR: 'it returns false'. Refute it at one input. -/
def fnCostMostWrong : ChangeSpec := { name := "fnCostMost", fn := fun _ => fun
  | [d] => { results := [.lit (.bool false)], args := [d] }
  | _ => none }
def FnCostMostWrongFalsely : Prop := fnCostMostRow.holds Try.pinned (OpenSpec.ofChange fnCostMostWrong)

/-- 'laws.FnCostStep': WHATEVER THE INPUT: true; the input reads as it did. -/
def fnCostStepSpec : ChangeSpec := { name := "fnCostStep", fn := fun _ => fun
  | [d] => { results := [.lit (.bool true)], args := [d] }
  | _ => none }
def fnCostStepRow : OpenClaim := { program := "ytijfonhgojfmkaa", sum := "44019ccc2df6a33b237f84ea0838894730b041a1bb00bccd6bd8ed4f2abe42c5", func := "loop.example/codicil/laws.FnCostStep", spec := "fnCostStep", unfollowed := true, recurses := true, apart := false }
def FnCostStepSaid : Prop := fnCostStepRow.holds Try.pinned (OpenSpec.ofChange fnCostStepSpec)

/-- ITS FALSE NEIGHBOUR: 'it returns false'. Refute it at one input. -/
def fnCostStepWrong : ChangeSpec := { name := "fnCostStep", fn := fun _ => fun
  | [d] => { results := [.lit (.bool false)], args := [d] }
  | _ => none }
def FnCostStepWrongFalsely : Prop := fnCostStepRow.holds Try.pinned (OpenSpec.ofChange fnCostStepWrong)

/-- 'laws.FnExactDiffCost': WHATEVER THE INPUT: true; the input reads as it did. -/
def fnExactDiffCostSpec : ChangeSpec := { name := "fnExactDiffCost", fn := fun _ => fun
  | [d1, d2] => { results := [.lit (.bool true)], args := [d1, d2] }
  | _ => none }
def fnExactDiffCostRow : OpenClaim := { program := "ytijfonhgojfmkaa", sum := "44019ccc2df6a33b237f84ea0838894730b041a1bb00bccd6bd8ed4f2abe42c5", func := "loop.example/codicil/laws.FnExactDiffCost", spec := "fnExactDiffCost", unfollowed := true, recurses := true, loops := true, apart := false }
def FnExactDiffCostSaid : Prop := fnExactDiffCostRow.holds Try.pinned (OpenSpec.ofChange fnExactDiffCostSpec)

/-- ITS FALSE NEIGHBOUR: 'it returns false'. Refute it at one input. -/
def fnExactDiffCostWrong : ChangeSpec := { name := "fnExactDiffCost", fn := fun _ => fun
  | [d1, d2] => { results := [.lit (.bool false)], args := [d1, d2] }
  | _ => none }
def FnExactDiffCostWrongFalsely : Prop := fnExactDiffCostRow.holds Try.pinned (OpenSpec.ofChange fnExactDiffCostWrong)

/- THE SECOND FORM. 'bulk': how many values and letters a reading holds, each counted each time it is reached (what is shared counts as often as it is met; a slice's spare places count too). A statement '..UptoSaid' is the law's where the arguments, and the package variables that the reading takes, are together of bulk at most 1048576: NARROWER than '..Said'. Prove '..Said' where nothing that the law and all that it calls make is longer than what came in: it says more and counts as full. Else prove '..UptoSaid'. A law counts once. -/
mutual
def uptoBulk {H : Type} : DataW H → Nat
  | .lit (.string bytes) => bytes.length + 1
  | .lit _ => 1
  | .nil => 1
  | .ptr d => uptoBulk d + 1
  | .slice elems spare => uptoBulkAll elems + uptoBulkAll spare + 1
  | .agg parts => uptoBulkAll parts + 1
  | .iface _ d => uptoBulk d + 1
  | .map entries => uptoBulkEntries entries + 1
  | .held _ => 1
def uptoBulkAll {H : Type} : List (DataW H) → Nat
  | [] => 0
  | d :: r => uptoBulk d + uptoBulkAll r
def uptoBulkEntries {H : Type} : List (Lit × DataW H) → Nat
  | [] => 0
  | x :: r => uptoBulkEntry x + uptoBulkEntries r
def uptoBulkEntry {H : Type} : Lit × DataW H → Nat
  | (.string bytes, d) => bytes.length + uptoBulk d + 1
  | (_, d) => uptoBulk d + 1
 end
def uptoSmall : (H : Type) → List (DataW H) → Bool := fun _ ds => decide (uptoBulkAll ds ≤ 1048576)
def OpenSpec.upto (s : _root_.Go.ChangeSpec) : _root_.Go.OpenSpec := { _root_.Go.OpenSpec.ofChange s with cond := some uptoSmall }

/-- 'laws.FnCostTurn', WHERE WHAT IT READS IS OF BULK AT MOST 1048576: true; the input reads as it did. -/
def fnCostTurnUptoRow : OpenClaim := { program := "ytijfonhgojfmkaa", sum := "44019ccc2df6a33b237f84ea0838894730b041a1bb00bccd6bd8ed4f2abe42c5", func := "loop.example/codicil/laws.FnCostTurn", spec := "fnCostTurn", unfollowed := true, recurses := true, apart := false, narrowed := true }
def FnCostTurnUptoSaid : Prop := fnCostTurnUptoRow.holds Try.pinned (OpenSpec.upto fnCostTurnSpec)

/-- 'laws.FnCostThree', WHERE WHAT IT READS IS OF BULK AT MOST 1048576: true; the input reads as it did. -/
def fnCostThreeUptoRow : OpenClaim := { program := "ytijfonhgojfmkaa", sum := "44019ccc2df6a33b237f84ea0838894730b041a1bb00bccd6bd8ed4f2abe42c5", func := "loop.example/codicil/laws.FnCostThree", spec := "fnCostThree", unfollowed := true, recurses := true, apart := false, narrowed := true }
def FnCostThreeUptoSaid : Prop := fnCostThreeUptoRow.holds Try.pinned (OpenSpec.upto fnCostThreeSpec)

/-- 'laws.FnCostMost', WHERE WHAT IT READS IS OF BULK AT MOST 1048576: true; the input reads as it did. -/
def fnCostMostUptoRow : OpenClaim := { program := "ytijfonhgojfmkaa", sum := "44019ccc2df6a33b237f84ea0838894730b041a1bb00bccd6bd8ed4f2abe42c5", func := "loop.example/codicil/laws.FnCostMost", spec := "fnCostMost", unfollowed := true, recurses := true, apart := false, narrowed := true }
def FnCostMostUptoSaid : Prop := fnCostMostUptoRow.holds Try.pinned (OpenSpec.upto fnCostMostSpec)

/-- 'laws.FnCostStep', WHERE WHAT IT READS IS OF BULK AT MOST 1048576: true; the input reads as it did. -/
def fnCostStepUptoRow : OpenClaim := { program := "ytijfonhgojfmkaa", sum := "44019ccc2df6a33b237f84ea0838894730b041a1bb00bccd6bd8ed4f2abe42c5", func := "loop.example/codicil/laws.FnCostStep", spec := "fnCostStep", unfollowed := true, recurses := true, apart := false, narrowed := true }
def FnCostStepUptoSaid : Prop := fnCostStepUptoRow.holds Try.pinned (OpenSpec.upto fnCostStepSpec)

/-- 'laws.FnExactDiffCost', WHERE WHAT IT READS IS OF BULK AT MOST 1048576: true; the input reads as it did. -/
def fnExactDiffCostUptoRow : OpenClaim := { program := "ytijfonhgojfmkaa", sum := "44019ccc2df6a33b237f84ea0838894730b041a1bb00bccd6bd8ed4f2abe42c5", func := "loop.example/codicil/laws.FnExactDiffCost", spec := "fnExactDiffCost", unfollowed := true, recurses := true, loops := true, apart := false, narrowed := true }
def FnExactDiffCostUptoSaid : Prop := fnExactDiffCostUptoRow.holds Try.pinned (OpenSpec.upto fnExactDiffCostSpec)

end Rows
end Go.Proofs.Ytijfonhgojfmkaa
