/-
  NARROWER THAN 'FOR EVERY INPUT', by the rows' own cells (each row's printed sentence says how): FnExactStepsMeet: loops · FnExactStepOver: loops.
  DERIVED. THE GIVEN ROWS OF THIS SEAT. 4 by the template 'for every input the law returns true; each argument reads behind the call as it read before'; 0 by the template 'total and deterministic' (their statements: YtbmgokdfgkfmfaaTotals.lean).
  GIVEN WITH THE SEED: the statements are not yours to turn. If you find one false, say at which input.
  Laid BY PROGRAM, IN A SANDBOX (cutbox-rows.mjs): the forced cells as the released guide's own fill.sh prints them over the translation e4c36aee1ea2f589… (all of the seat's roots in one cut). By AI agents, Wed Nov 11 2026. No macro, syntax, notation, axiom, sorry.
-/
import Derived.Test.YtbmgokdfgkfmfaaChecked
import GoSem.Claim
import GoSem.ClaimJoined
import GoSem.ClaimMapViews
import Derived.JoinedTies
import Derived.KernelRfl
namespace Go.Proofs.Ytbmgokdfgkfmfaa
/- THE CELL 'sum', in the pinned program and in every row, IS THE sha256 OF THE DUMP (.gsa) THAT YtbmgokdfgkfmfaaProg.lean LOADS. Nothing in Lean hashes anything: it is a label: what it is worth is what the hold of that sum in a sandbox is worth. -/
noncomputable def Try.pinned : Pinned := { name := "ytbmgokdfgkfmfaa", sum := "e4c36aee1ea2f58924bc6bd8c4be135af48c1aaa578b86d922c6b87c2554f21e", checked := Try.checked }
namespace Rows
def none {H : Type} : Left H := { results := [], args := [] }

/-- 'laws.FnStepsMeet': WHATEVER THE INPUT: true; the input reads as it did. -/
def fnStepsMeetSpec : ChangeSpec := { name := "fnStepsMeet", fn := fun _ => fun
  | [d] => { results := [.lit (.bool true)], args := [d] }
  | _ => none }
def fnStepsMeetRow : OpenClaim := { program := "ytbmgokdfgkfmfaa", sum := "e4c36aee1ea2f58924bc6bd8c4be135af48c1aaa578b86d922c6b87c2554f21e", func := "loop.example/codicil/laws.FnStepsMeet", spec := "fnStepsMeet", unfollowed := true, recurses := true, plainKeys := false, apart := false }
def FnStepsMeetSaid : Prop := fnStepsMeetRow.holds Try.pinned (OpenSpec.ofChange fnStepsMeetSpec)

/-- ITS FALSE NEIGHBOUR: 'it returns false'. Refute it at one input. -/
def fnStepsMeetWrong : ChangeSpec := { name := "fnStepsMeet", fn := fun _ => fun
  | [d] => { results := [.lit (.bool false)], args := [d] }
  | _ => none }
def FnStepsMeetWrongFalsely : Prop := fnStepsMeetRow.holds Try.pinned (OpenSpec.ofChange fnStepsMeetWrong)

/-- 'laws.FnStepOver': WHATEVER THE INPUT: true; the input reads as it did. -/
def fnStepOverSpec : ChangeSpec := { name := "fnStepOver", fn := fun _ => fun
  | [d] => { results := [.lit (.bool true)], args := [d] }
  | _ => none }
def fnStepOverRow : OpenClaim := { program := "ytbmgokdfgkfmfaa", sum := "e4c36aee1ea2f58924bc6bd8c4be135af48c1aaa578b86d922c6b87c2554f21e", func := "loop.example/codicil/laws.FnStepOver", spec := "fnStepOver", unfollowed := true, recurses := true, plainKeys := false, apart := false }
def FnStepOverSaid : Prop := fnStepOverRow.holds Try.pinned (OpenSpec.ofChange fnStepOverSpec)

/-- ITS FALSE NEIGHBOUR: 'it returns false'. Refute it at one input. -/
def fnStepOverWrong : ChangeSpec := { name := "fnStepOver", fn := fun _ => fun
  | [d] => { results := [.lit (.bool false)], args := [d] }
  | _ => none }
def FnStepOverWrongFalsely : Prop := fnStepOverRow.holds Try.pinned (OpenSpec.ofChange fnStepOverWrong)

/-- 'laws.FnExactStepsMeet': WHATEVER THE INPUT: true; the input reads as it did. -/
def fnExactStepsMeetSpec : ChangeSpec := { name := "fnExactStepsMeet", fn := fun _ => fun
  | [d1, d2, d3] => { results := [.lit (.bool true)], args := [d1, d2, d3] }
  | _ => none }
def fnExactStepsMeetRow : OpenClaim := { program := "ytbmgokdfgkfmfaa", sum := "e4c36aee1ea2f58924bc6bd8c4be135af48c1aaa578b86d922c6b87c2554f21e", func := "loop.example/codicil/laws.FnExactStepsMeet", spec := "fnExactStepsMeet", unfollowed := true, recurses := true, loops := true, plainKeys := false, apart := false }
def FnExactStepsMeetSaid : Prop := fnExactStepsMeetRow.holds Try.pinned (OpenSpec.ofChange fnExactStepsMeetSpec)

/-- ITS FALSE NEIGHBOUR: 'it returns false'. Refute it at one input. -/
def fnExactStepsMeetWrong : ChangeSpec := { name := "fnExactStepsMeet", fn := fun _ => fun
  | [d1, d2, d3] => { results := [.lit (.bool false)], args := [d1, d2, d3] }
  | _ => none }
def FnExactStepsMeetWrongFalsely : Prop := fnExactStepsMeetRow.holds Try.pinned (OpenSpec.ofChange fnExactStepsMeetWrong)

/-- 'laws.FnExactStepOver': WHATEVER THE INPUT: true; the input reads as it did. -/
def fnExactStepOverSpec : ChangeSpec := { name := "fnExactStepOver", fn := fun _ => fun
  | [d1, d2, d3] => { results := [.lit (.bool true)], args := [d1, d2, d3] }
  | _ => none }
def fnExactStepOverRow : OpenClaim := { program := "ytbmgokdfgkfmfaa", sum := "e4c36aee1ea2f58924bc6bd8c4be135af48c1aaa578b86d922c6b87c2554f21e", func := "loop.example/codicil/laws.FnExactStepOver", spec := "fnExactStepOver", unfollowed := true, recurses := true, loops := true, plainKeys := false, apart := false }
def FnExactStepOverSaid : Prop := fnExactStepOverRow.holds Try.pinned (OpenSpec.ofChange fnExactStepOverSpec)

/-- ITS FALSE NEIGHBOUR: 'it returns false'. Refute it at one input. -/
def fnExactStepOverWrong : ChangeSpec := { name := "fnExactStepOver", fn := fun _ => fun
  | [d1, d2, d3] => { results := [.lit (.bool false)], args := [d1, d2, d3] }
  | _ => none }
def FnExactStepOverWrongFalsely : Prop := fnExactStepOverRow.holds Try.pinned (OpenSpec.ofChange fnExactStepOverWrong)

/- THE SECOND FORM. 'bulk': how many values and letters a reading holds, each counted each time it is reached (what is shared counts as often as it is met; a slice's spare places count too). A statement '..UptoSaid' is the law's where the arguments, and the package variables that the reading takes, are together of bulk at most 1048576: NARROWER than '..Said'. Prove '..Said' where nothing that the law and all that it calls make is longer than what came in: it says more and counts as full. Else prove '..UptoSaid'. A law counts once. -/
mutual
def uptoBulk {H : Type} : DataW H → Nat
  | .lit (.string bytes) => bytes.length + 1
  | .lit _ => 1
  | .nil => 1
  | .ptr d => uptoBulk d + 1
  | .slice elems spare => uptoBulkAll elems + uptoBulkAll spare + 1
  | .agg parts => uptoBulkAll parts + 1
  | .iface _ d => uptoBulk d + 1
  | .map entries => uptoBulkEntries entries + 1
  | .held _ => 1
def uptoBulkAll {H : Type} : List (DataW H) → Nat
  | [] => 0
  | d :: r => uptoBulk d + uptoBulkAll r
def uptoBulkEntries {H : Type} : List (Lit × DataW H) → Nat
  | [] => 0
  | x :: r => uptoBulkEntry x + uptoBulkEntries r
def uptoBulkEntry {H : Type} : Lit × DataW H → Nat
  | (.string bytes, d) => bytes.length + uptoBulk d + 1
  | (_, d) => uptoBulk d + 1
 end
def uptoSmall : (H : Type) → List (DataW H) → Bool := fun _ ds => decide (uptoBulkAll ds ≤ 1048576)
def OpenSpec.upto (s : _root_.Go.ChangeSpec) : _root_.Go.OpenSpec := { _root_.Go.OpenSpec.ofChange s with cond := some uptoSmall }

/-- 'laws.FnStepsMeet', WHERE WHAT IT READS IS OF BULK AT MOST 1048576: true; the input reads as it did. -/
def fnStepsMeetUptoRow : OpenClaim := { program := "ytbmgokdfgkfmfaa", sum := "e4c36aee1ea2f58924bc6bd8c4be135af48c1aaa578b86d922c6b87c2554f21e", func := "loop.example/codicil/laws.FnStepsMeet", spec := "fnStepsMeet", unfollowed := true, recurses := true, plainKeys := false, apart := false, narrowed := true }
def FnStepsMeetUptoSaid : Prop := fnStepsMeetUptoRow.holds Try.pinned (OpenSpec.upto fnStepsMeetSpec)

/-- 'laws.FnStepOver', WHERE WHAT IT READS IS OF BULK AT MOST 1048576: true; the input reads as it did. -/
def fnStepOverUptoRow : OpenClaim := { program := "ytbmgokdfgkfmfaa", sum := "e4c36aee1ea2f58924bc6bd8c4be135af48c1aaa578b86d922c6b87c2554f21e", func := "loop.example/codicil/laws.FnStepOver", spec := "fnStepOver", unfollowed := true, recurses := true, plainKeys := false, apart := false, narrowed := true }
def FnStepOverUptoSaid : Prop := fnStepOverUptoRow.holds Try.pinned (OpenSpec.upto fnStepOverSpec)

/-- 'laws.FnExactStepsMeet', WHERE WHAT IT READS IS OF BULK AT MOST 1048576: true; the input reads as it did. -/
def fnExactStepsMeetUptoRow : OpenClaim := { program := "ytbmgokdfgkfmfaa", sum := "e4c36aee1ea2f58924bc6bd8c4be135af48c1aaa578b86d922c6b87c2554f21e", func := "loop.example/codicil/laws.FnExactStepsMeet", spec := "fnExactStepsMeet", unfollowed := true, recurses := true, loops := true, plainKeys := false, apart := false, narrowed := true }
def FnExactStepsMeetUptoSaid : Prop := fnExactStepsMeetUptoRow.holds Try.pinned (OpenSpec.upto fnExactStepsMeetSpec)

/-- 'laws.FnExactStepOver', WHERE WHAT IT READS IS OF BULK AT MOST 1048576: true; the input reads as it did. -/
def fnExactStepOverUptoRow : OpenClaim := { program := "ytbmgokdfgkfmfaa", sum := "e4c36aee1ea2f58924bc6bd8c4be135af48c1aaa578b86d922c6b87c2554f21e", func := "loop.example/codicil/laws.FnExactStepOver", spec := "fnExactStepOver", unfollowed := true, recurses := true, loops := true, plainKeys := false, apart := false, narrowed := true }
def FnExactStepOverUptoSaid : Prop := fnExactStepOverUptoRow.holds Try.pinned (OpenSpec.upto fnExactStepOverSpec)

end Rows
end Go.Proofs.Ytbmgokdfgkfmfaa
