/-
  NARROWER THAN 'FOR EVERY INPUT', by the rows' own cells (each row's printed sentence says how): FnExactDiffSteps: loops.
  DERIVED. THE GIVEN ROWS OF THIS SEAT. 4 by the template 'for every input the law returns true; each argument reads behind the call as it read before'; 0 by the template 'total and deterministic' (their statements: YtgnnacognpkgoaaTotals.lean).
  GIVEN WITH THE SEED: the statements are not yours to turn. If you find one false, say at which input.
  Laid BY PROGRAM, IN A SANDBOX (cutbox-rows.mjs): the forced cells as the released guide's own fill.sh prints them over the translation 1912fab0e4f84367… (all of the seat's roots in one cut). By AI agents, Wed Nov 11 2026. No macro, syntax, notation, axiom, sorry.
-/
import Derived.Test.YtgnnacognpkgoaaChecked
import GoSem.Claim
import GoSem.ClaimJoined
import GoSem.ClaimMapViews
import Derived.JoinedTies
import Derived.KernelRfl
namespace Go.Proofs.Ytgnnacognpkgoaa
/- THE CELL 'sum', in the pinned program and in every row, IS THE sha256 OF THE DUMP (.gsa) THAT YtgnnacognpkgoaaProg.lean LOADS. Nothing in Lean hashes anything: it is a label: what it is worth is what the hold of that sum in a sandbox is worth. -/
noncomputable def Try.pinned : Pinned := { name := "ytgnnacognpkgoaa", sum := "1912fab0e4f8436719c638cf605afac572532c66021c2a892dd30745ccafb24e", checked := Try.checked }
namespace Rows
def none {H : Type} : Left H := { results := [], args := [] }

/-- 'laws.FnDiffTop': WHATEVER THE INPUT: true; the input reads as it did. -/
def fnDiffTopSpec : ChangeSpec := { name := "fnDiffTop", fn := fun _ => fun
  | [d] => { results := [.lit (.bool true)], args := [d] }
  | _ => none }
def fnDiffTopRow : OpenClaim := { program := "ytgnnacognpkgoaa", sum := "1912fab0e4f8436719c638cf605afac572532c66021c2a892dd30745ccafb24e", func := "loop.example/codicil/laws.FnDiffTop", spec := "fnDiffTop", unfollowed := true, recurses := true, plainKeys := false, apart := false }
def FnDiffTopSaid : Prop := fnDiffTopRow.holds Try.pinned (OpenSpec.ofChange fnDiffTopSpec)

/-- ITS FALSE NEIGHBOUR: 'it returns false'. Refute it at one input. -/
def fnDiffTopWrong : ChangeSpec := { name := "fnDiffTop", fn := fun _ => fun
  | [d] => { results := [.lit (.bool false)], args := [d] }
  | _ => none }
def FnDiffTopWrongFalsely : Prop := fnDiffTopRow.holds Try.pinned (OpenSpec.ofChange fnDiffTopWrong)

/-- 'laws.FnDiffFew': WHATEVER THE INPUT: true; the input reads as it did. -/
def fnDiffFewSpec : ChangeSpec := { name := "fnDiffFew", fn := fun _ => fun
  | [d] => { results := [.lit (.bool true)], args := [d] }
  | _ => none }
def fnDiffFewRow : OpenClaim := { program := "ytgnnacognpkgoaa", sum := "1912fab0e4f8436719c638cf605afac572532c66021c2a892dd30745ccafb24e", func := "loop.example/codicil/laws.FnDiffFew", spec := "fnDiffFew", unfollowed := true, recurses := true, plainKeys := false, apart := false }
def FnDiffFewSaid : Prop := fnDiffFewRow.holds Try.pinned (OpenSpec.ofChange fnDiffFewSpec)

/-- ITS FALSE NEIGHBOUR: 'it returns false'. Refute it at one input. -/
def fnDiffFewWrong : ChangeSpec := { name := "fnDiffFew", fn := fun _ => fun
  | [d] => { results := [.lit (.bool false)], args := [d] }
  | _ => none }
def FnDiffFewWrongFalsely : Prop := fnDiffFewRow.holds Try.pinned (OpenSpec.ofChange fnDiffFewWrong)

/-- 'laws.FnDiffBack': WHATEVER THE INPUT: true; the input reads as it did. -/
def fnDiffBackSpec : ChangeSpec := { name := "fnDiffBack", fn := fun _ => fun
  | [d] => { results := [.lit (.bool true)], args := [d] }
  | _ => none }
def fnDiffBackRow : OpenClaim := { program := "ytgnnacognpkgoaa", sum := "1912fab0e4f8436719c638cf605afac572532c66021c2a892dd30745ccafb24e", func := "loop.example/codicil/laws.FnDiffBack", spec := "fnDiffBack", unfollowed := true, recurses := true, plainKeys := false, apart := false }
def FnDiffBackSaid : Prop := fnDiffBackRow.holds Try.pinned (OpenSpec.ofChange fnDiffBackSpec)

/-- ITS FALSE NEIGHBOUR: 'it returns false'. Refute it at one input. -/
def fnDiffBackWrong : ChangeSpec := { name := "fnDiffBack", fn := fun _ => fun
  | [d] => { results := [.lit (.bool false)], args := [d] }
  | _ => none }
def FnDiffBackWrongFalsely : Prop := fnDiffBackRow.holds Try.pinned (OpenSpec.ofChange fnDiffBackWrong)

/-- 'laws.FnExactDiffSteps': WHATEVER THE INPUT: true; the input reads as it did. -/
def fnExactDiffStepsSpec : ChangeSpec := { name := "fnExactDiffSteps", fn := fun _ => fun
  | [d1, d2] => { results := [.lit (.bool true)], args := [d1, d2] }
  | _ => none }
def fnExactDiffStepsRow : OpenClaim := { program := "ytgnnacognpkgoaa", sum := "1912fab0e4f8436719c638cf605afac572532c66021c2a892dd30745ccafb24e", func := "loop.example/codicil/laws.FnExactDiffSteps", spec := "fnExactDiffSteps", unfollowed := true, recurses := true, loops := true, plainKeys := false, apart := false }
def FnExactDiffStepsSaid : Prop := fnExactDiffStepsRow.holds Try.pinned (OpenSpec.ofChange fnExactDiffStepsSpec)

/-- ITS FALSE NEIGHBOUR: 'it returns false'. Refute it at one input. -/
def fnExactDiffStepsWrong : ChangeSpec := { name := "fnExactDiffSteps", fn := fun _ => fun
  | [d1, d2] => { results := [.lit (.bool false)], args := [d1, d2] }
  | _ => none }
def FnExactDiffStepsWrongFalsely : Prop := fnExactDiffStepsRow.holds Try.pinned (OpenSpec.ofChange fnExactDiffStepsWrong)

/- THE SECOND FORM. 'bulk': how many values and letters a reading holds, each counted each time it is reached (what is shared counts as often as it is met; a slice's spare places count too). A statement '..UptoSaid' is the law's where the arguments, and the package variables that the reading takes, are together of bulk at most 1048576: NARROWER than '..Said'. Prove '..Said' where nothing that the law and all that it calls make is longer than what came in: it says more and counts as full. Else prove '..UptoSaid'. A law counts once. -/
mutual
def uptoBulk {H : Type} : DataW H → Nat
  | .lit (.string bytes) => bytes.length + 1
  | .lit _ => 1
  | .nil => 1
  | .ptr d => uptoBulk d + 1
  | .slice elems spare => uptoBulkAll elems + uptoBulkAll spare + 1
  | .agg parts => uptoBulkAll parts + 1
  | .iface _ d => uptoBulk d + 1
  | .map entries => uptoBulkEntries entries + 1
  | .held _ => 1
def uptoBulkAll {H : Type} : List (DataW H) → Nat
  | [] => 0
  | d :: r => uptoBulk d + uptoBulkAll r
def uptoBulkEntries {H : Type} : List (Lit × DataW H) → Nat
  | [] => 0
  | x :: r => uptoBulkEntry x + uptoBulkEntries r
def uptoBulkEntry {H : Type} : Lit × DataW H → Nat
  | (.string bytes, d) => bytes.length + uptoBulk d + 1
  | (_, d) => uptoBulk d + 1
 end
def uptoSmall : (H : Type) → List (DataW H) → Bool := fun _ ds => decide (uptoBulkAll ds ≤ 1048576)
def OpenSpec.upto (s : _root_.Go.ChangeSpec) : _root_.Go.OpenSpec := { _root_.Go.OpenSpec.ofChange s with cond := some uptoSmall }

/-- 'laws.FnDiffTop', WHERE WHAT IT READS IS OF BULK AT MOST 1048576: true; the input reads as it did. -/
def fnDiffTopUptoRow : OpenClaim := { program := "ytgnnacognpkgoaa", sum := "1912fab0e4f8436719c638cf605afac572532c66021c2a892dd30745ccafb24e", func := "loop.example/codicil/laws.FnDiffTop", spec := "fnDiffTop", unfollowed := true, recurses := true, plainKeys := false, apart := false, narrowed := true }
def FnDiffTopUptoSaid : Prop := fnDiffTopUptoRow.holds Try.pinned (OpenSpec.upto fnDiffTopSpec)

/-- 'laws.FnDiffFew', WHERE WHAT IT READS IS OF BULK AT MOST 1048576: true; the input reads as it did. -/
def fnDiffFewUptoRow : OpenClaim := { program := "ytgnnacognpkgoaa", sum := "1912fab0e4f8436719c638cf605afac572532c66021c2a892dd30745ccafb24e", func := "loop.example/codicil/laws.FnDiffFew", spec := "fnDiffFew", unfollowed := true, recurses := true, plainKeys := false, apart := false, narrowed := true }
def FnDiffFewUptoSaid : Prop := fnDiffFewUptoRow.holds Try.pinned (OpenSpec.upto fnDiffFewSpec)

/-- 'laws.FnDiffBack', WHERE WHAT IT READS IS OF BULK AT MOST 1048576: true; the input reads as it did. -/
def fnDiffBackUptoRow : OpenClaim := { program := "ytgnnacognpkgoaa", sum := "1912fab0e4f8436719c638cf605afac572532c66021c2a892dd30745ccafb24e", func := "loop.example/codicil/laws.FnDiffBack", spec := "fnDiffBack", unfollowed := true, recurses := true, plainKeys := false, apart := false, narrowed := true }
def FnDiffBackUptoSaid : Prop := fnDiffBackUptoRow.holds Try.pinned (OpenSpec.upto fnDiffBackSpec)

/-- 'laws.FnExactDiffSteps', WHERE WHAT IT READS IS OF BULK AT MOST 1048576: true; the input reads as it did. -/
def fnExactDiffStepsUptoRow : OpenClaim := { program := "ytgnnacognpkgoaa", sum := "1912fab0e4f8436719c638cf605afac572532c66021c2a892dd30745ccafb24e", func := "loop.example/codicil/laws.FnExactDiffSteps", spec := "fnExactDiffSteps", unfollowed := true, recurses := true, loops := true, plainKeys := false, apart := false, narrowed := true }
def FnExactDiffStepsUptoSaid : Prop := fnExactDiffStepsUptoRow.holds Try.pinned (OpenSpec.upto fnExactDiffStepsSpec)

end Rows
end Go.Proofs.Ytgnnacognpkgoaa
