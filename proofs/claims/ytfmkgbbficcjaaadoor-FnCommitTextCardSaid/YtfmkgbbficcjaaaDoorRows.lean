/-
  NARROWER THAN 'FOR EVERY INPUT', by the rows' own cells (each row's printed sentence says how): FnCommitText: ifaces, laid.
  DERIVED. THE GIVEN ROWS OF THIS SEAT. 1 by the template 'for every input the law returns true; each argument reads behind the call as it read before'; 0 by the template 'total and deterministic' (their statements: YtfmkgbbficcjaaaDoorTotals.lean).
  GIVEN WITH THE SEED: the statements are not yours to turn. If you find one false, say at which input.
  Laid BY PROGRAM, IN A SANDBOX (cutbox-rows.mjs): the forced cells as the released guide's own fill.sh prints them over the translation 6f0c3d7d50bea408… (all of the seat's roots in one cut). By AI agents, Wed Nov 11 2026. No macro, syntax, notation, axiom, sorry.
-/
import Derived.Test.YtfmkgbbficcjaaaDoorChecked
import GoSem.Claim
import GoSem.ClaimJoined
import GoSem.ClaimMapViews
import Derived.JoinedTies
import Derived.KernelRfl
namespace Go.Proofs.YtfmkgbbficcjaaaDoor
/- THE CELL 'sum', in the pinned program and in every row, IS THE sha256 OF THE DUMP (.gsa) THAT YtfmkgbbficcjaaaDoorProg.lean LOADS. Nothing in Lean hashes anything: it is a label: what it is worth is what the hold of that sum in a sandbox is worth. -/
noncomputable def Tryd.pinned : Pinned := { name := "ytfmkgbbficcjaaadoor", sum := "6f0c3d7d50bea4084853b7c3752e013ccd6e0e5184197f081dcca057124d6b06", checked := Tryd.checked }
namespace Rows
def none {H : Type} : Left H := { results := [], args := [] }

/- WHAT THE LISTED PACKAGE-LEVEL VARIABLES READ AS WHEN THE CALL BEGINS. Each datum BY PROGRAM (the guide's laid-datum.mjs) off the statement by which the dump's own 'gosem.cut.vars' lays the variable. In a bare row this is a premise. The card (YtfmkgbbficcjaaaDoorCards.lean) ties it to the program's text. -/
def laid_loop_example_codicil_impl_errNotSo {H : Type} : DataW H := .iface "*errors.errorString" (.ptr (.agg [.lit (.string [116, 104, 101, 32, 116, 101, 120, 116, 32, 105, 115, 32, 110, 111, 116, 32, 119, 114, 105, 116, 116, 101, 110, 32, 115, 111])]))

/-- 'laws.FnCommitText': WHATEVER THE INPUT: true; the input reads as it did. -/
def fnCommitTextSpec : ChangeSpec := { name := "fnCommitText", vars := ["loop.example/codicil/impl.errNotSo"], fn := fun _ => fun
  | [d1, d2, g1] => { results := [.lit (.bool true)], args := [d1, d2], vars := [g1] }
  | _ => none }
def fnCommitTextRow : OpenClaim := { program := "ytfmkgbbficcjaaadoor", sum := "6f0c3d7d50bea4084853b7c3752e013ccd6e0e5184197f081dcca057124d6b06", func := "loop.example/codicil/laws.FnCommitText", spec := "fnCommitText", inPlace := ["internal/bytealg.IndexByteString", "internal/bytealg.IndexString"], unfollowed := true, recurses := true, named := ["loop.example/codicil/impl.errNotSo", "internal/bytealg.MaxLen"], ifaces := true, apart := false, laid := [("loop.example/codicil/impl.errNotSo", laid_loop_example_codicil_impl_errNotSo)] }
def FnCommitTextSaid : Prop := fnCommitTextRow.holds Tryd.pinned (OpenSpec.ofChange fnCommitTextSpec)

/-- ITS FALSE NEIGHBOUR: 'it returns false'. Refute it at one input. -/
def fnCommitTextWrong : ChangeSpec := { name := "fnCommitText", vars := ["loop.example/codicil/impl.errNotSo"], fn := fun _ => fun
  | [d1, d2, g1] => { results := [.lit (.bool false)], args := [d1, d2], vars := [g1] }
  | _ => none }
def FnCommitTextWrongFalsely : Prop := fnCommitTextRow.holds Tryd.pinned (OpenSpec.ofChange fnCommitTextWrong)

/- THE SECOND FORM. 'bulk': how many values and letters a reading holds, each counted each time it is reached (what is shared counts as often as it is met; a slice's spare places count too). A statement '..UptoSaid' is the law's where the arguments, and the package variables that the reading takes, are together of bulk at most 1048576: NARROWER than '..Said'. Prove '..Said' where nothing that the law and all that it calls make is longer than what came in: it says more and counts as full. Else prove '..UptoSaid'. A law counts once. -/
mutual
def uptoBulk {H : Type} : DataW H → Nat
  | .lit (.string bytes) => bytes.length + 1
  | .lit _ => 1
  | .nil => 1
  | .ptr d => uptoBulk d + 1
  | .slice elems spare => uptoBulkAll elems + uptoBulkAll spare + 1
  | .agg parts => uptoBulkAll parts + 1
  | .iface _ d => uptoBulk d + 1
  | .map entries => uptoBulkEntries entries + 1
  | .held _ => 1
def uptoBulkAll {H : Type} : List (DataW H) → Nat
  | [] => 0
  | d :: r => uptoBulk d + uptoBulkAll r
def uptoBulkEntries {H : Type} : List (Lit × DataW H) → Nat
  | [] => 0
  | x :: r => uptoBulkEntry x + uptoBulkEntries r
def uptoBulkEntry {H : Type} : Lit × DataW H → Nat
  | (.string bytes, d) => bytes.length + uptoBulk d + 1
  | (_, d) => uptoBulk d + 1
 end
def uptoSmall : (H : Type) → List (DataW H) → Bool := fun _ ds => decide (uptoBulkAll ds ≤ 1048576)
def OpenSpec.upto (s : _root_.Go.ChangeSpec) : _root_.Go.OpenSpec := { _root_.Go.OpenSpec.ofChange s with cond := some uptoSmall }

/-- 'laws.FnCommitText', WHERE WHAT IT READS IS OF BULK AT MOST 1048576: true; the input reads as it did. -/
def fnCommitTextUptoRow : OpenClaim := { program := "ytfmkgbbficcjaaadoor", sum := "6f0c3d7d50bea4084853b7c3752e013ccd6e0e5184197f081dcca057124d6b06", func := "loop.example/codicil/laws.FnCommitText", spec := "fnCommitText", inPlace := ["internal/bytealg.IndexByteString", "internal/bytealg.IndexString"], unfollowed := true, recurses := true, named := ["loop.example/codicil/impl.errNotSo", "internal/bytealg.MaxLen"], ifaces := true, apart := false, laid := [("loop.example/codicil/impl.errNotSo", laid_loop_example_codicil_impl_errNotSo)], narrowed := true }
def FnCommitTextUptoSaid : Prop := fnCommitTextUptoRow.holds Tryd.pinned (OpenSpec.upto fnCommitTextSpec)

end Rows
end Go.Proofs.YtfmkgbbficcjaaaDoor
