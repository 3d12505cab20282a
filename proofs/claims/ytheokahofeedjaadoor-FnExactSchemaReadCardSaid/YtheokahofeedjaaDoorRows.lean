/-
  NARROWER THAN 'FOR EVERY INPUT', by the rows' own cells (each row's printed sentence says how): FnSchemaText: ifaces, laid · FnExactSchemaRead: ifaces, laid.
  DERIVED. THE GIVEN ROWS OF THIS SEAT. 2 by the template 'for every input the law returns true; each argument reads behind the call as it read before'; 0 by the template 'total and deterministic' (their statements: YtheokahofeedjaaDoorTotals.lean).
  GIVEN WITH THE SEED: the statements are not yours to turn. If you find one false, say at which input.
  Laid BY PROGRAM, IN A SANDBOX (cutbox-rows.mjs): the forced cells as the released guide's own fill.sh prints them over the translation f77ed880906e37d7… (all of the seat's roots in one cut). By AI agents, Wed Nov 11 2026. No macro, syntax, notation, axiom, sorry.
-/
import Derived.Test.YtheokahofeedjaaDoorChecked
import GoSem.Claim
import GoSem.ClaimJoined
import GoSem.ClaimMapViews
import Derived.JoinedTies
import Derived.KernelRfl
namespace Go.Proofs.YtheokahofeedjaaDoor
/- THE CELL 'sum', in the pinned program and in every row, IS THE sha256 OF THE DUMP (.gsa) THAT YtheokahofeedjaaDoorProg.lean LOADS. Nothing in Lean hashes anything: it is a label: what it is worth is what the hold of that sum in a sandbox is worth. -/
noncomputable def Tryd.pinned : Pinned := { name := "ytheokahofeedjaadoor", sum := "f77ed880906e37d7660761670794e828c8e18de0f6580f55bed0b51921ba3bea", checked := Tryd.checked }
namespace Rows
def none {H : Type} : Left H := { results := [], args := [] }

/- WHAT THE LISTED PACKAGE-LEVEL VARIABLES READ AS WHEN THE CALL BEGINS. Each datum BY PROGRAM (the guide's laid-datum.mjs) off the statement by which the dump's own 'gosem.cut.vars' lays the variable. In a bare row this is a premise. The card (YtheokahofeedjaaDoorCards.lean) ties it to the program's text. -/
def laid_loop_example_codicil_impl_errNotSo {H : Type} : DataW H := .iface "*errors.errorString" (.ptr (.agg [.lit (.string [116, 104, 101, 32, 116, 101, 120, 116, 32, 105, 115, 32, 110, 111, 116, 32, 119, 114, 105, 116, 116, 101, 110, 32, 115, 111])]))
def laid_loop_example_codicil_impl_errNoRule {H : Type} : DataW H := .iface "*errors.errorString" (.ptr (.agg [.lit (.string [116, 104, 101, 32, 107, 105, 110, 100, 32, 104, 97, 115, 32, 110, 111, 32, 114, 117, 108, 101])]))
def laid_loop_example_codicil_impl_errRules {H : Type} : DataW H := .iface "*errors.errorString" (.ptr (.agg [.lit (.string [116, 111, 111, 32, 109, 97, 110, 121, 32, 114, 117, 108, 101, 115])]))
def laid_loop_example_codicil_impl_errRuleKind {H : Type} : DataW H := .iface "*errors.errorString" (.ptr (.agg [.lit (.string [110, 111, 32, 107, 105, 110, 100, 32, 111, 102, 32, 97, 32, 114, 117, 108, 101, 44, 32, 111, 114, 32, 111, 110, 101, 32, 116, 104, 97, 116, 32, 97, 110, 111, 116, 104, 101, 114, 32, 114, 117, 108, 101, 32, 104, 97, 115])]))
def laid_loop_example_codicil_impl_errItems {H : Type} : DataW H := .iface "*errors.errorString" (.ptr (.agg [.lit (.string [116, 111, 111, 32, 109, 97, 110, 121, 32, 105, 116, 101, 109, 115, 44, 32, 111, 114, 32, 111, 110, 101, 32, 116, 104, 97, 116, 32, 105, 115, 32, 98, 111, 116, 104, 32, 109, 97, 110, 121, 32, 97, 110, 100, 32, 109, 97, 121])]))

/-- 'laws.FnSchemaText': WHATEVER THE INPUT: true; the input reads as it did. -/
def fnSchemaTextSpec : ChangeSpec := { name := "fnSchemaText", vars := ["loop.example/codicil/impl.errNotSo", "loop.example/codicil/impl.errRules", "loop.example/codicil/impl.errRuleKind", "loop.example/codicil/impl.errNoRule", "loop.example/codicil/impl.errItems"], fn := fun _ => fun
  | [d1, d2, g1, g2, g3, g4, g5] => { results := [.lit (.bool true)], args := [d1, d2], vars := [g1, g2, g3, g4, g5] }
  | _ => none }
def fnSchemaTextRow : OpenClaim := { program := "ytheokahofeedjaadoor", sum := "f77ed880906e37d7660761670794e828c8e18de0f6580f55bed0b51921ba3bea", func := "loop.example/codicil/laws.FnSchemaText", spec := "fnSchemaText", inPlace := ["internal/reflectlite.TypeOf", "internal/abi.NoEscape"], unfollowed := true, recurses := true, named := ["loop.example/codicil/impl.errNotSo", "loop.example/codicil/impl.errRules", "loop.example/codicil/impl.errRuleKind", "loop.example/codicil/impl.errNoRule", "loop.example/codicil/impl.errItems"], ifaces := true, apart := false, laid := [("loop.example/codicil/impl.errNotSo", laid_loop_example_codicil_impl_errNotSo), ("loop.example/codicil/impl.errNoRule", laid_loop_example_codicil_impl_errNoRule), ("loop.example/codicil/impl.errRules", laid_loop_example_codicil_impl_errRules), ("loop.example/codicil/impl.errRuleKind", laid_loop_example_codicil_impl_errRuleKind), ("loop.example/codicil/impl.errItems", laid_loop_example_codicil_impl_errItems)] }
def FnSchemaTextSaid : Prop := fnSchemaTextRow.holds Tryd.pinned (OpenSpec.ofChange fnSchemaTextSpec)

/-- ITS FALSE NEIGHBOUR: 'it returns false'. Refute it at one input. -/
def fnSchemaTextWrong : ChangeSpec := { name := "fnSchemaText", vars := ["loop.example/codicil/impl.errNotSo", "loop.example/codicil/impl.errRules", "loop.example/codicil/impl.errRuleKind", "loop.example/codicil/impl.errNoRule", "loop.example/codicil/impl.errItems"], fn := fun _ => fun
  | [d1, d2, g1, g2, g3, g4, g5] => { results := [.lit (.bool false)], args := [d1, d2], vars := [g1, g2, g3, g4, g5] }
  | _ => none }
def FnSchemaTextWrongFalsely : Prop := fnSchemaTextRow.holds Tryd.pinned (OpenSpec.ofChange fnSchemaTextWrong)

/-- 'laws.FnExactSchemaRead': WHATEVER THE INPUT: true; the input reads as it did. -/
def fnExactSchemaReadSpec : ChangeSpec := { name := "fnExactSchemaRead", vars := ["loop.example/codicil/impl.errNotSo", "loop.example/codicil/impl.errRules", "loop.example/codicil/impl.errRuleKind", "loop.example/codicil/impl.errNoRule", "loop.example/codicil/impl.errItems"], fn := fun _ => fun
  | [d, g1, g2, g3, g4, g5] => { results := [.lit (.bool true)], args := [d], vars := [g1, g2, g3, g4, g5] }
  | _ => none }
def fnExactSchemaReadRow : OpenClaim := { program := "ytheokahofeedjaadoor", sum := "f77ed880906e37d7660761670794e828c8e18de0f6580f55bed0b51921ba3bea", func := "loop.example/codicil/laws.FnExactSchemaRead", spec := "fnExactSchemaRead", inPlace := ["internal/reflectlite.TypeOf"], unfollowed := true, recurses := true, named := ["loop.example/codicil/impl.errNotSo", "loop.example/codicil/impl.errRules", "loop.example/codicil/impl.errRuleKind", "loop.example/codicil/impl.errNoRule", "loop.example/codicil/impl.errItems"], ifaces := true, apart := false, laid := [("loop.example/codicil/impl.errNotSo", laid_loop_example_codicil_impl_errNotSo), ("loop.example/codicil/impl.errNoRule", laid_loop_example_codicil_impl_errNoRule), ("loop.example/codicil/impl.errRules", laid_loop_example_codicil_impl_errRules), ("loop.example/codicil/impl.errRuleKind", laid_loop_example_codicil_impl_errRuleKind), ("loop.example/codicil/impl.errItems", laid_loop_example_codicil_impl_errItems)] }
def FnExactSchemaReadSaid : Prop := fnExactSchemaReadRow.holds Tryd.pinned (OpenSpec.ofChange fnExactSchemaReadSpec)

/-- ITS FALSE NEIGHBOUR: 'it returns false'. Refute it at one input. -/
def fnExactSchemaReadWrong : ChangeSpec := { name := "fnExactSchemaRead", vars := ["loop.example/codicil/impl.errNotSo", "loop.example/codicil/impl.errRules", "loop.example/codicil/impl.errRuleKind", "loop.example/codicil/impl.errNoRule", "loop.example/codicil/impl.errItems"], fn := fun _ => fun
  | [d, g1, g2, g3, g4, g5] => { results := [.lit (.bool false)], args := [d], vars := [g1, g2, g3, g4, g5] }
  | _ => none }
def FnExactSchemaReadWrongFalsely : Prop := fnExactSchemaReadRow.holds Tryd.pinned (OpenSpec.ofChange fnExactSchemaReadWrong)

/- THE SECOND FORM. 'bulk': how many values and letters a reading holds, each counted each time it is reached (what is shared counts as often as it is met; a slice's spare places count too). A statement '..UptoSaid' is the law's where the arguments, and the package variables that the reading takes, are together of bulk at most 1048576: NARROWER than '..Said'. Prove '..Said' where nothing that the law and all that it calls make is longer than what came in: it says more and counts as full. Else prove '..UptoSaid'. A law counts once. -/
mutual
def uptoBulk {H : Type} : DataW H → Nat
  | .lit (.string bytes) => bytes.length + 1
  | .lit _ => 1
  | .nil => 1
  | .ptr d => uptoBulk d + 1
  | .slice elems spare => uptoBulkAll elems + uptoBulkAll spare + 1
  | .agg parts => uptoBulkAll parts + 1
  | .iface _ d => uptoBulk d + 1
  | .map entries => uptoBulkEntries entries + 1
  | .held _ => 1
def uptoBulkAll {H : Type} : List (DataW H) → Nat
  | [] => 0
  | d :: r => uptoBulk d + uptoBulkAll r
def uptoBulkEntries {H : Type} : List (Lit × DataW H) → Nat
  | [] => 0
  | x :: r => uptoBulkEntry x + uptoBulkEntries r
def uptoBulkEntry {H : Type} : Lit × DataW H → Nat
  | (.string bytes, d) => bytes.length + uptoBulk d + 1
  | (_, d) => uptoBulk d + 1
 end
def uptoSmall : (H : Type) → List (DataW H) → Bool := fun _ ds => decide (uptoBulkAll ds ≤ 1048576)
def OpenSpec.upto (s : _root_.Go.ChangeSpec) : _root_.Go.OpenSpec := { _root_.Go.OpenSpec.ofChange s with cond := some uptoSmall }

/-- 'laws.FnSchemaText', WHERE WHAT IT READS IS OF BULK AT MOST 1048576: true; the input reads as it did. -/
def fnSchemaTextUptoRow : OpenClaim := { program := "ytheokahofeedjaadoor", sum := "f77ed880906e37d7660761670794e828c8e18de0f6580f55bed0b51921ba3bea", func := "loop.example/codicil/laws.FnSchemaText", spec := "fnSchemaText", inPlace := ["internal/reflectlite.TypeOf", "internal/abi.NoEscape"], unfollowed := true, recurses := true, named := ["loop.example/codicil/impl.errNotSo", "loop.example/codicil/impl.errRules", "loop.example/codicil/impl.errRuleKind", "loop.example/codicil/impl.errNoRule", "loop.example/codicil/impl.errItems"], ifaces := true, apart := false, laid := [("loop.example/codicil/impl.errNotSo", laid_loop_example_codicil_impl_errNotSo), ("loop.example/codicil/impl.errNoRule", laid_loop_example_codicil_impl_errNoRule), ("loop.example/codicil/impl.errRules", laid_loop_example_codicil_impl_errRules), ("loop.example/codicil/impl.errRuleKind", laid_loop_example_codicil_impl_errRuleKind), ("loop.example/codicil/impl.errItems", laid_loop_example_codicil_impl_errItems)], narrowed := true }
def FnSchemaTextUptoSaid : Prop := fnSchemaTextUptoRow.holds Tryd.pinned (OpenSpec.upto fnSchemaTextSpec)

/-- 'laws.FnExactSchemaRead', WHERE WHAT IT READS IS OF BULK AT MOST 1048576: true; the input reads as it did. -/
def fnExactSchemaReadUptoRow : OpenClaim := { program := "ytheokahofeedjaadoor", sum := "f77ed880906e37d7660761670794e828c8e18de0f6580f55bed0b51921ba3bea", func := "loop.example/codicil/laws.FnExactSchemaRead", spec := "fnExactSchemaRead", inPlace := ["internal/reflectlite.TypeOf"], unfollowed := true, recurses := true, named := ["loop.example/codicil/impl.errNotSo", "loop.example/codicil/impl.errRules", "loop.example/codicil/impl.errRuleKind", "loop.example/codicil/impl.errNoRule", "loop.example/codicil/impl.errItems"], ifaces := true, apart := false, laid := [("loop.example/codicil/impl.errNotSo", laid_loop_example_codicil_impl_errNotSo), ("loop.example/codicil/impl.errNoRule", laid_loop_example_codicil_impl_errNoRule), ("loop.example/codicil/impl.errRules", laid_loop_example_codicil_impl_errRules), ("loop.example/codicil/impl.errRuleKind", laid_loop_example_codicil_impl_errRuleKind), ("loop.example/codicil/impl.errItems", laid_loop_example_codicil_impl_errItems)], narrowed := true }
def FnExactSchemaReadUptoSaid : Prop := fnExactSchemaReadUptoRow.holds Tryd.pinned (OpenSpec.upto fnExactSchemaReadSpec)

end Rows
end Go.Proofs.YtheokahofeedjaaDoor
