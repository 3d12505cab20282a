/-
  NARROWER THAN 'FOR EVERY INPUT', by the rows' own cells (each row's printed sentence says how): FnExactSchemaWrite: ifaces, laid.
  DERIVED. THE GIVEN ROWS OF THIS SEAT. 1 by the template 'for every input the law returns true; each argument reads behind the call as it read before'; 0 by the template 'total and deterministic' (their statements: YtnhdaclpfhnbeaaDoorTotals.lean).
  GIVEN WITH THE SEED: the statements are not yours to turn. If you find one false, say at which input.
  Laid BY PROGRAM, IN A SANDBOX (cutbox-rows.mjs): the forced cells as the released guide's own fill.sh prints them over the translation 593144f605f91467… (all of the seat's roots in one cut). By AI agents, Wed Nov 11 2026. No macro, syntax, notation, axiom, sorry.
-/
import Derived.Test.YtnhdaclpfhnbeaaDoorChecked
import GoSem.Claim
import GoSem.ClaimJoined
import GoSem.ClaimMapViews
import Derived.JoinedTies
import Derived.KernelRfl
namespace Go.Proofs.YtnhdaclpfhnbeaaDoor
/- THE CELL 'sum', in the pinned program and in every row, IS THE sha256 OF THE DUMP (.gsa) THAT YtnhdaclpfhnbeaaDoorProg.lean LOADS. Nothing in Lean hashes anything: it is a label: what it is worth is what the hold of that sum in a sandbox is worth. -/
noncomputable def Tryd.pinned : Pinned := { name := "ytnhdaclpfhnbeaadoor", sum := "593144f605f914671a4c8fa59eef145b901f26d2ff2fc59b1e67b8bcc6ca4636", checked := Tryd.checked }
namespace Rows
def none {H : Type} : Left H := { results := [], args := [] }

/- WHAT THE LISTED PACKAGE-LEVEL VARIABLES READ AS WHEN THE CALL BEGINS. Each datum BY PROGRAM (the guide's laid-datum.mjs) off the statement by which the dump's own 'gosem.cut.vars' lays the variable. In a bare row this is a premise. The card (YtnhdaclpfhnbeaaDoorCards.lean) ties it to the program's text. -/
def laid_loop_example_codicil_impl_errNoRule {H : Type} : DataW H := .iface "*errors.errorString" (.ptr (.agg [.lit (.string [116, 104, 101, 32, 107, 105, 110, 100, 32, 104, 97, 115, 32, 110, 111, 32, 114, 117, 108, 101])]))
def laid_loop_example_codicil_impl_errRules {H : Type} : DataW H := .iface "*errors.errorString" (.ptr (.agg [.lit (.string [116, 111, 111, 32, 109, 97, 110, 121, 32, 114, 117, 108, 101, 115])]))
def laid_loop_example_codicil_impl_errRuleKind {H : Type} : DataW H := .iface "*errors.errorString" (.ptr (.agg [.lit (.string [110, 111, 32, 107, 105, 110, 100, 32, 111, 102, 32, 97, 32, 114, 117, 108, 101, 44, 32, 111, 114, 32, 111, 110, 101, 32, 116, 104, 97, 116, 32, 97, 110, 111, 116, 104, 101, 114, 32, 114, 117, 108, 101, 32, 104, 97, 115])]))
def laid_loop_example_codicil_impl_errItems {H : Type} : DataW H := .iface "*errors.errorString" (.ptr (.agg [.lit (.string [116, 111, 111, 32, 109, 97, 110, 121, 32, 105, 116, 101, 109, 115, 44, 32, 111, 114, 32, 111, 110, 101, 32, 116, 104, 97, 116, 32, 105, 115, 32, 98, 111, 116, 104, 32, 109, 97, 110, 121, 32, 97, 110, 100, 32, 109, 97, 121])]))

/-- 'laws.FnExactSchemaWrite': WHATEVER THE INPUT: true; the input reads as it did. -/
def fnExactSchemaWriteSpec : ChangeSpec := { name := "fnExactSchemaWrite", vars := ["loop.example/codicil/impl.errRules", "loop.example/codicil/impl.errRuleKind", "loop.example/codicil/impl.errNoRule", "loop.example/codicil/impl.errItems"], fn := fun _ => fun
  | [d, g1, g2, g3, g4] => { results := [.lit (.bool true)], args := [d], vars := [g1, g2, g3, g4] }
  | _ => none }
def fnExactSchemaWriteRow : OpenClaim := { program := "ytnhdaclpfhnbeaadoor", sum := "593144f605f914671a4c8fa59eef145b901f26d2ff2fc59b1e67b8bcc6ca4636", func := "loop.example/codicil/laws.FnExactSchemaWrite", spec := "fnExactSchemaWrite", inPlace := ["internal/reflectlite.TypeOf", "internal/abi.NoEscape"], unfollowed := true, recurses := true, named := ["loop.example/codicil/impl.errRules", "loop.example/codicil/impl.errRuleKind", "loop.example/codicil/impl.errNoRule", "loop.example/codicil/impl.errItems"], ifaces := true, apart := false, laid := [("loop.example/codicil/impl.errNoRule", laid_loop_example_codicil_impl_errNoRule), ("loop.example/codicil/impl.errRules", laid_loop_example_codicil_impl_errRules), ("loop.example/codicil/impl.errRuleKind", laid_loop_example_codicil_impl_errRuleKind), ("loop.example/codicil/impl.errItems", laid_loop_example_codicil_impl_errItems)] }
def FnExactSchemaWriteSaid : Prop := fnExactSchemaWriteRow.holds Tryd.pinned (OpenSpec.ofChange fnExactSchemaWriteSpec)

/-- ITS FALSE NEIGHBOUR: 'it returns false'. Refute it at one input. -/
def fnExactSchemaWriteWrong : ChangeSpec := { name := "fnExactSchemaWrite", vars := ["loop.example/codicil/impl.errRules", "loop.example/codicil/impl.errRuleKind", "loop.example/codicil/impl.errNoRule", "loop.example/codicil/impl.errItems"], fn := fun _ => fun
  | [d, g1, g2, g3, g4] => { results := [.lit (.bool false)], args := [d], vars := [g1, g2, g3, g4] }
  | _ => none }
def FnExactSchemaWriteWrongFalsely : Prop := fnExactSchemaWriteRow.holds Tryd.pinned (OpenSpec.ofChange fnExactSchemaWriteWrong)

/- THE SECOND FORM. 'bulk': how many values and letters a reading holds, each counted each time it is reached (what is shared counts as often as it is met; a slice's spare places count too). A statement '..UptoSaid' is the law's where the arguments, and the package variables that the reading takes, are together of bulk at most 1048576: NARROWER than '..Said'. Prove '..Said' where nothing that the law and all that it calls make is longer than what came in: it says more and counts as full. Else prove '..UptoSaid'. A law counts once. -/
mutual
def uptoBulk {H : Type} : DataW H → Nat
  | .lit (.string bytes) => bytes.length + 1
  | .lit _ => 1
  | .nil => 1
  | .ptr d => uptoBulk d + 1
  | .slice elems spare => uptoBulkAll elems + uptoBulkAll spare + 1
  | .agg parts => uptoBulkAll parts + 1
  | .iface _ d => uptoBulk d + 1
  | .map entries => uptoBulkEntries entries + 1
  | .held _ => 1
def uptoBulkAll {H : Type} : List (DataW H) → Nat
  | [] => 0
  | d :: r => uptoBulk d + uptoBulkAll r
def uptoBulkEntries {H : Type} : List (Lit × DataW H) → Nat
  | [] => 0
  | x :: r => uptoBulkEntry x + uptoBulkEntries r
def uptoBulkEntry {H : Type} : Lit × DataW H → Nat
  | (.string bytes, d) => bytes.length + uptoBulk d + 1
  | (_, d) => uptoBulk d + 1
 end
def uptoSmall : (H : Type) → List (DataW H) → Bool := fun _ ds => decide (uptoBulkAll ds ≤ 1048576)
def OpenSpec.upto (s : _root_.Go.ChangeSpec) : _root_.Go.OpenSpec := { _root_.Go.OpenSpec.ofChange s with cond := some uptoSmall }

/-- 'laws.FnExactSchemaWrite', WHERE WHAT IT READS IS OF BULK AT MOST 1048576: true; the input reads as it did. -/
def fnExactSchemaWriteUptoRow : OpenClaim := { program := "ytnhdaclpfhnbeaadoor", sum := "593144f605f914671a4c8fa59eef145b901f26d2ff2fc59b1e67b8bcc6ca4636", func := "loop.example/codicil/laws.FnExactSchemaWrite", spec := "fnExactSchemaWrite", inPlace := ["internal/reflectlite.TypeOf", "internal/abi.NoEscape"], unfollowed := true, recurses := true, named := ["loop.example/codicil/impl.errRules", "loop.example/codicil/impl.errRuleKind", "loop.example/codicil/impl.errNoRule", "loop.example/codicil/impl.errItems"], ifaces := true, apart := false, laid := [("loop.example/codicil/impl.errNoRule", laid_loop_example_codicil_impl_errNoRule), ("loop.example/codicil/impl.errRules", laid_loop_example_codicil_impl_errRules), ("loop.example/codicil/impl.errRuleKind", laid_loop_example_codicil_impl_errRuleKind), ("loop.example/codicil/impl.errItems", laid_loop_example_codicil_impl_errItems)], narrowed := true }
def FnExactSchemaWriteUptoSaid : Prop := fnExactSchemaWriteUptoRow.holds Tryd.pinned (OpenSpec.upto fnExactSchemaWriteSpec)

end Rows
end Go.Proofs.YtnhdaclpfhnbeaaDoor
