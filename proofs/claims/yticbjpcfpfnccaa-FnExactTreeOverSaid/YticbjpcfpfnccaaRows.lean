/-
  NARROWER THAN 'FOR EVERY INPUT', by the rows' own cells (each row's printed sentence says how): FnExactTreeOk: loops · FnExactTreeFind: loops · FnExactTreeOver: loops · FnExactTreeSame: loops.
  DERIVED. THE GIVEN ROWS OF THIS SEAT. 5 by the template 'for every input the law returns true; each argument reads behind the call as it read before'; 0 by the template 'total and deterministic' (their statements: YticbjpcfpfnccaaTotals.lean).
  GIVEN WITH THE SEED: the statements are not yours to turn. If you find one false, say at which input.
  Laid BY PROGRAM, IN A SANDBOX (cutbox-rows.mjs): the forced cells as the released guide's own fill.sh prints them over the translation 7e2193022562c8be… (all of the seat's roots in one cut). By AI agents, Wed Nov 11 2026. No macro, syntax, notation, axiom, sorry.
-/
import Derived.Test.YticbjpcfpfnccaaChecked
import GoSem.Claim
import GoSem.ClaimJoined
import GoSem.ClaimMapViews
import Derived.JoinedTies
import Derived.KernelRfl
namespace Go.Proofs.Yticbjpcfpfnccaa
/- THE CELL 'sum', in the pinned program and in every row, IS THE sha256 OF THE DUMP (.gsa) THAT YticbjpcfpfnccaaProg.lean LOADS. Nothing in Lean hashes anything: it is a label: what it is worth is what the hold of that sum in a sandbox is worth. -/
noncomputable def Try.pinned : Pinned := { name := "yticbjpcfpfnccaa", sum := "7e2193022562c8beb4d39ce411a2e2299e1c00a8506a61d3e3ef05ce348fc8aa", checked := Try.checked }
namespace Rows
def none {H : Type} : Left H := { results := [], args := [] }

/-- 'laws.FnExactTreeOk': WHATEVER THE INPUT: true; the input reads as it did. -/
def fnExactTreeOkSpec : ChangeSpec := { name := "fnExactTreeOk", fn := fun _ => fun
  | [d] => { results := [.lit (.bool true)], args := [d] }
  | _ => none }
def fnExactTreeOkRow : OpenClaim := { program := "yticbjpcfpfnccaa", sum := "7e2193022562c8beb4d39ce411a2e2299e1c00a8506a61d3e3ef05ce348fc8aa", func := "loop.example/codicil/laws.FnExactTreeOk", spec := "fnExactTreeOk", unfollowed := true, recurses := true, loops := true, apart := false }
def FnExactTreeOkSaid : Prop := fnExactTreeOkRow.holds Try.pinned (OpenSpec.ofChange fnExactTreeOkSpec)

/-- ITS FALSE NEIGHBOUR: 'it returns false'. Refute it at one input. -/
def fnExactTreeOkWrong : ChangeSpec := { name := "fnExactTreeOk", fn := fun _ => fun
  | [d] => { results := [.lit (.bool false)], args := [d] }
  | _ => none }
def FnExactTreeOkWrongFalsely : Prop := fnExactTreeOkRow.holds Try.pinned (OpenSpec.ofChange fnExactTreeOkWrong)

/-- 'laws.FnExactTreeFind': WHATEVER THE INPUT: true; the input reads as it did. -/
def fnExactTreeFindSpec : ChangeSpec := { name := "fnExactTreeFind", fn := fun _ => fun
  | [d1, d2] => { results := [.lit (.bool true)], args := [d1, d2] }
  | _ => none }
def fnExactTreeFindRow : OpenClaim := { program := "yticbjpcfpfnccaa", sum := "7e2193022562c8beb4d39ce411a2e2299e1c00a8506a61d3e3ef05ce348fc8aa", func := "loop.example/codicil/laws.FnExactTreeFind", spec := "fnExactTreeFind", unfollowed := true, recurses := true, loops := true, apart := false }
def FnExactTreeFindSaid : Prop := fnExactTreeFindRow.holds Try.pinned (OpenSpec.ofChange fnExactTreeFindSpec)

/-- ITS FALSE NEIGHBOUR: 'it returns false'. Refute it at one input. -/
def fnExactTreeFindWrong : ChangeSpec := { name := "fnExactTreeFind", fn := fun _ => fun
  | [d1, d2] => { results := [.lit (.bool false)], args := [d1, d2] }
  | _ => none }
def FnExactTreeFindWrongFalsely : Prop := fnExactTreeFindRow.holds Try.pinned (OpenSpec.ofChange fnExactTreeFindWrong)

/-- 'laws.FnExactTreeOver': WHATEVER THE INPUT: true; the input reads as it did. -/
def fnExactTreeOverSpec : ChangeSpec := { name := "fnExactTreeOver", fn := fun _ => fun
  | [d1, d2] => { results := [.lit (.bool true)], args := [d1, d2] }
  | _ => none }
def fnExactTreeOverRow : OpenClaim := { program := "yticbjpcfpfnccaa", sum := "7e2193022562c8beb4d39ce411a2e2299e1c00a8506a61d3e3ef05ce348fc8aa", func := "loop.example/codicil/laws.FnExactTreeOver", spec := "fnExactTreeOver", unfollowed := true, recurses := true, loops := true, apart := false }
def FnExactTreeOverSaid : Prop := fnExactTreeOverRow.holds Try.pinned (OpenSpec.ofChange fnExactTreeOverSpec)

/-- ITS FALSE NEIGHBOUR: 'it returns false'. Refute it at one input. -/
def fnExactTreeOverWrong : ChangeSpec := { name := "fnExactTreeOver", fn := fun _ => fun
  | [d1, d2] => { results := [.lit (.bool false)], args := [d1, d2] }
  | _ => none }
def FnExactTreeOverWrongFalsely : Prop := fnExactTreeOverRow.holds Try.pinned (OpenSpec.ofChange fnExactTreeOverWrong)

/-- 'laws.FnExactTreeSame': WHATEVER THE INPUT: true; the input reads as it did. -/
def fnExactTreeSameSpec : ChangeSpec := { name := "fnExactTreeSame", fn := fun _ => fun
  | [d1, d2] => { results := [.lit (.bool true)], args := [d1, d2] }
  | _ => none }
def fnExactTreeSameRow : OpenClaim := { program := "yticbjpcfpfnccaa", sum := "7e2193022562c8beb4d39ce411a2e2299e1c00a8506a61d3e3ef05ce348fc8aa", func := "loop.example/codicil/laws.FnExactTreeSame", spec := "fnExactTreeSame", unfollowed := true, recurses := true, loops := true, apart := false }
def FnExactTreeSameSaid : Prop := fnExactTreeSameRow.holds Try.pinned (OpenSpec.ofChange fnExactTreeSameSpec)

/-- ITS FALSE NEIGHBOUR: 'it returns false'. Refute it at one input. -/
def fnExactTreeSameWrong : ChangeSpec := { name := "fnExactTreeSame", fn := fun _ => fun
  | [d1, d2] => { results := [.lit (.bool false)], args := [d1, d2] }
  | _ => none }
def FnExactTreeSameWrongFalsely : Prop := fnExactTreeSameRow.holds Try.pinned (OpenSpec.ofChange fnExactTreeSameWrong)

/-- 'laws.FnTreeSame': WHATEVER THE INPUT: true; the input reads as it did. -/
def fnTreeSameSpec : ChangeSpec := { name := "fnTreeSame", fn := fun _ => fun
  | [d] => { results := [.lit (.bool true)], args := [d] }
  | _ => none }
def fnTreeSameRow : OpenClaim := { program := "yticbjpcfpfnccaa", sum := "7e2193022562c8beb4d39ce411a2e2299e1c00a8506a61d3e3ef05ce348fc8aa", func := "loop.example/codicil/laws.FnTreeSame", spec := "fnTreeSame", unfollowed := true, recurses := true, apart := false }
def FnTreeSameSaid : Prop := fnTreeSameRow.holds Try.pinned (OpenSpec.ofChange fnTreeSameSpec)

/-- ITS FALSE NEIGHBOUR: 'it returns false'. Refute it at one input. -/
def fnTreeSameWrong : ChangeSpec := { name := "fnTreeSame", fn := fun _ => fun
  | [d] => { results := [.lit (.bool false)], args := [d] }
  | _ => none }
def FnTreeSameWrongFalsely : Prop := fnTreeSameRow.holds Try.pinned (OpenSpec.ofChange fnTreeSameWrong)

/- THE SECOND FORM. 'bulk': how many values and letters a reading holds, each counted each time it is reached (what is shared counts as often as it is met; a slice's spare places count too). A statement '..UptoSaid' is the law's where the arguments, and the package variables that the reading takes, are together of bulk at most 1048576: NARROWER than '..Said'. Prove '..Said' where nothing that the law and all that it calls make is longer than what came in: it says more and counts as full. Else prove '..UptoSaid'. A law counts once. -/
mutual
def uptoBulk {H : Type} : DataW H → Nat
  | .lit (.string bytes) => bytes.length + 1
  | .lit _ => 1
  | .nil => 1
  | .ptr d => uptoBulk d + 1
  | .slice elems spare => uptoBulkAll elems + uptoBulkAll spare + 1
  | .agg parts => uptoBulkAll parts + 1
  | .iface _ d => uptoBulk d + 1
  | .map entries => uptoBulkEntries entries + 1
  | .held _ => 1
def uptoBulkAll {H : Type} : List (DataW H) → Nat
  | [] => 0
  | d :: r => uptoBulk d + uptoBulkAll r
def uptoBulkEntries {H : Type} : List (Lit × DataW H) → Nat
  | [] => 0
  | x :: r => uptoBulkEntry x + uptoBulkEntries r
def uptoBulkEntry {H : Type} : Lit × DataW H → Nat
  | (.string bytes, d) => bytes.length + uptoBulk d + 1
  | (_, d) => uptoBulk d + 1
 end
def uptoSmall : (H : Type) → List (DataW H) → Bool := fun _ ds => decide (uptoBulkAll ds ≤ 1048576)
def OpenSpec.upto (s : _root_.Go.ChangeSpec) : _root_.Go.OpenSpec := { _root_.Go.OpenSpec.ofChange s with cond := some uptoSmall }

/-- 'laws.FnExactTreeOk', WHERE WHAT IT READS IS OF BULK AT MOST 1048576: true; the input reads as it did. -/
def fnExactTreeOkUptoRow : OpenClaim := { program := "yticbjpcfpfnccaa", sum := "7e2193022562c8beb4d39ce411a2e2299e1c00a8506a61d3e3ef05ce348fc8aa", func := "loop.example/codicil/laws.FnExactTreeOk", spec := "fnExactTreeOk", unfollowed := true, recurses := true, loops := true, apart := false, narrowed := true }
def FnExactTreeOkUptoSaid : Prop := fnExactTreeOkUptoRow.holds Try.pinned (OpenSpec.upto fnExactTreeOkSpec)

/-- 'laws.FnExactTreeFind', WHERE WHAT IT READS IS OF BULK AT MOST 1048576: true; the input reads as it did. -/
def fnExactTreeFindUptoRow : OpenClaim := { program := "yticbjpcfpfnccaa", sum := "7e2193022562c8beb4d39ce411a2e2299e1c00a8506a61d3e3ef05ce348fc8aa", func := "loop.example/codicil/laws.FnExactTreeFind", spec := "fnExactTreeFind", unfollowed := true, recurses := true, loops := true, apart := false, narrowed := true }
def FnExactTreeFindUptoSaid : Prop := fnExactTreeFindUptoRow.holds Try.pinned (OpenSpec.upto fnExactTreeFindSpec)

/-- 'laws.FnExactTreeOver', WHERE WHAT IT READS IS OF BULK AT MOST 1048576: true; the input reads as it did. -/
def fnExactTreeOverUptoRow : OpenClaim := { program := "yticbjpcfpfnccaa", sum := "7e2193022562c8beb4d39ce411a2e2299e1c00a8506a61d3e3ef05ce348fc8aa", func := "loop.example/codicil/laws.FnExactTreeOver", spec := "fnExactTreeOver", unfollowed := true, recurses := true, loops := true, apart := false, narrowed := true }
def FnExactTreeOverUptoSaid : Prop := fnExactTreeOverUptoRow.holds Try.pinned (OpenSpec.upto fnExactTreeOverSpec)

/-- 'laws.FnExactTreeSame', WHERE WHAT IT READS IS OF BULK AT MOST 1048576: true; the input reads as it did. -/
def fnExactTreeSameUptoRow : OpenClaim := { program := "yticbjpcfpfnccaa", sum := "7e2193022562c8beb4d39ce411a2e2299e1c00a8506a61d3e3ef05ce348fc8aa", func := "loop.example/codicil/laws.FnExactTreeSame", spec := "fnExactTreeSame", unfollowed := true, recurses := true, loops := true, apart := false, narrowed := true }
def FnExactTreeSameUptoSaid : Prop := fnExactTreeSameUptoRow.holds Try.pinned (OpenSpec.upto fnExactTreeSameSpec)

/-- 'laws.FnTreeSame', WHERE WHAT IT READS IS OF BULK AT MOST 1048576: true; the input reads as it did. -/
def fnTreeSameUptoRow : OpenClaim := { program := "yticbjpcfpfnccaa", sum := "7e2193022562c8beb4d39ce411a2e2299e1c00a8506a61d3e3ef05ce348fc8aa", func := "loop.example/codicil/laws.FnTreeSame", spec := "fnTreeSame", unfollowed := true, recurses := true, apart := false, narrowed := true }
def FnTreeSameUptoSaid : Prop := fnTreeSameUptoRow.holds Try.pinned (OpenSpec.upto fnTreeSameSpec)

end Rows
end Go.Proofs.Yticbjpcfpfnccaa
