/-
  NARROWER THAN 'FOR EVERY INPUT', by the rows' own cells (each row's printed sentence says how): FnExactTreeFresh: loops · FnExactTreeFind: loops · FnExactTreeIds: loops · FnExactMergeFits: loops.
  DERIVED. THE GIVEN ROWS OF THIS SEAT. 4 by the template 'for every input the law returns true; each argument reads behind the call as it read before'; 0 by the template 'total and deterministic' (their statements: YtojkpeacgfdpjaaTotals.lean).
  GIVEN WITH THE SEED: the statements are not yours to turn. If you find one false, say at which input.
  Laid BY PROGRAM, IN A SANDBOX (cutbox-rows.mjs): the forced cells as the released guide's own fill.sh prints them over the translation 37356da5d2ebfa43… (all of the seat's roots in one cut). By AI agents, Wed Nov 11 2026. No macro, syntax, notation, axiom, sorry.
-/
import Derived.Test.YtojkpeacgfdpjaaChecked
import GoSem.Claim
import GoSem.ClaimJoined
import GoSem.ClaimMapViews
import Derived.JoinedTies
import Derived.KernelRfl
namespace Go.Proofs.Ytojkpeacgfdpjaa
/- THE CELL 'sum', in the pinned program and in every row, IS THE sha256 OF THE DUMP (.gsa) THAT YtojkpeacgfdpjaaProg.lean LOADS. Nothing in Lean hashes anything: it is a label: what it is worth is what the hold of that sum in a sandbox is worth. -/
noncomputable def Try.pinned : Pinned := { name := "ytojkpeacgfdpjaa", sum := "37356da5d2ebfa434217f76f547ae2319c392853ea90a112c9a9861908140c99", checked := Try.checked }
namespace Rows
def none {H : Type} : Left H := { results := [], args := [] }

/-- 'laws.FnExactTreeFresh': WHATEVER THE INPUT: true; the input reads as it did. -/
def fnExactTreeFreshSpec : ChangeSpec := { name := "fnExactTreeFresh", fn := fun _ => fun
  | [d] => { results := [.lit (.bool true)], args := [d] }
  | _ => none }
def fnExactTreeFreshRow : OpenClaim := { program := "ytojkpeacgfdpjaa", sum := "37356da5d2ebfa434217f76f547ae2319c392853ea90a112c9a9861908140c99", func := "loop.example/codicil/laws.FnExactTreeFresh", spec := "fnExactTreeFresh", unfollowed := true, recurses := true, loops := true, apart := false }
def FnExactTreeFreshSaid : Prop := fnExactTreeFreshRow.holds Try.pinned (OpenSpec.ofChange fnExactTreeFreshSpec)

/-- ITS FALSE NEIGHBOUR: 'it returns false'. Refute it at one input. -/
def fnExactTreeFreshWrong : ChangeSpec := { name := "fnExactTreeFresh", fn := fun _ => fun
  | [d] => { results := [.lit (.bool false)], args := [d] }
  | _ => none }
def FnExactTreeFreshWrongFalsely : Prop := fnExactTreeFreshRow.holds Try.pinned (OpenSpec.ofChange fnExactTreeFreshWrong)

/-- 'laws.FnExactTreeFind': WHATEVER THE INPUT: true; the input reads as it did. -/
def fnExactTreeFindSpec : ChangeSpec := { name := "fnExactTreeFind", fn := fun _ => fun
  | [d1, d2] => { results := [.lit (.bool true)], args := [d1, d2] }
  | _ => none }
def fnExactTreeFindRow : OpenClaim := { program := "ytojkpeacgfdpjaa", sum := "37356da5d2ebfa434217f76f547ae2319c392853ea90a112c9a9861908140c99", func := "loop.example/codicil/laws.FnExactTreeFind", spec := "fnExactTreeFind", unfollowed := true, recurses := true, loops := true, apart := false }
def FnExactTreeFindSaid : Prop := fnExactTreeFindRow.holds Try.pinned (OpenSpec.ofChange fnExactTreeFindSpec)

/-- ITS FALSE NEIGHBOUR: 'it returns false'. Refute it at one input. -/
def fnExactTreeFindWrong : ChangeSpec := { name := "fnExactTreeFind", fn := fun _ => fun
  | [d1, d2] => { results := [.lit (.bool false)], args := [d1, d2] }
  | _ => none }
def FnExactTreeFindWrongFalsely : Prop := fnExactTreeFindRow.holds Try.pinned (OpenSpec.ofChange fnExactTreeFindWrong)

/-- 'laws.FnExactTreeIds': WHATEVER THE INPUT: true; the input reads as it did. -/
def fnExactTreeIdsSpec : ChangeSpec := { name := "fnExactTreeIds", fn := fun _ => fun
  | [d] => { results := [.lit (.bool true)], args := [d] }
  | _ => none }
def fnExactTreeIdsRow : OpenClaim := { program := "ytojkpeacgfdpjaa", sum := "37356da5d2ebfa434217f76f547ae2319c392853ea90a112c9a9861908140c99", func := "loop.example/codicil/laws.FnExactTreeIds", spec := "fnExactTreeIds", unfollowed := true, recurses := true, loops := true, apart := false }
def FnExactTreeIdsSaid : Prop := fnExactTreeIdsRow.holds Try.pinned (OpenSpec.ofChange fnExactTreeIdsSpec)

/-- ITS FALSE NEIGHBOUR: 'it returns false'. Refute it at one input. -/
def fnExactTreeIdsWrong : ChangeSpec := { name := "fnExactTreeIds", fn := fun _ => fun
  | [d] => { results := [.lit (.bool false)], args := [d] }
  | _ => none }
def FnExactTreeIdsWrongFalsely : Prop := fnExactTreeIdsRow.holds Try.pinned (OpenSpec.ofChange fnExactTreeIdsWrong)

/-- 'laws.FnExactMergeFits': WHATEVER THE INPUT: true; the input reads as it did. -/
def fnExactMergeFitsSpec : ChangeSpec := { name := "fnExactMergeFits", fn := fun _ => fun
  | [d1, d2, d3] => { results := [.lit (.bool true)], args := [d1, d2, d3] }
  | _ => none }
def fnExactMergeFitsRow : OpenClaim := { program := "ytojkpeacgfdpjaa", sum := "37356da5d2ebfa434217f76f547ae2319c392853ea90a112c9a9861908140c99", func := "loop.example/codicil/laws.FnExactMergeFits", spec := "fnExactMergeFits", unfollowed := true, recurses := true, loops := true, apart := false }
def FnExactMergeFitsSaid : Prop := fnExactMergeFitsRow.holds Try.pinned (OpenSpec.ofChange fnExactMergeFitsSpec)

/-- ITS FALSE NEIGHBOUR: 'it returns false'. Refute it at one input. -/
def fnExactMergeFitsWrong : ChangeSpec := { name := "fnExactMergeFits", fn := fun _ => fun
  | [d1, d2, d3] => { results := [.lit (.bool false)], args := [d1, d2, d3] }
  | _ => none }
def FnExactMergeFitsWrongFalsely : Prop := fnExactMergeFitsRow.holds Try.pinned (OpenSpec.ofChange fnExactMergeFitsWrong)

/- THE SECOND FORM. 'bulk': how many values and letters a reading holds, each counted each time it is reached (what is shared counts as often as it is met; a slice's spare places count too). A statement '..UptoSaid' is the law's where the arguments, and the package variables that the reading takes, are together of bulk at most 1048576: NARROWER than '..Said'. Prove '..Said' where nothing that the law and all that it calls make is longer than what came in: it says more and counts as full. Else prove '..UptoSaid'. A law counts once. -/
mutual
def uptoBulk {H : Type} : DataW H → Nat
  | .lit (.string bytes) => bytes.length + 1
  | .lit _ => 1
  | .nil => 1
  | .ptr d => uptoBulk d + 1
  | .slice elems spare => uptoBulkAll elems + uptoBulkAll spare + 1
  | .agg parts => uptoBulkAll parts + 1
  | .iface _ d => uptoBulk d + 1
  | .map entries => uptoBulkEntries entries + 1
  | .held _ => 1
def uptoBulkAll {H : Type} : List (DataW H) → Nat
  | [] => 0
  | d :: r => uptoBulk d + uptoBulkAll r
def uptoBulkEntries {H : Type} : List (Lit × DataW H) → Nat
  | [] => 0
  | x :: r => uptoBulkEntry x + uptoBulkEntries r
def uptoBulkEntry {H : Type} : Lit × DataW H → Nat
  | (.string bytes, d) => bytes.length + uptoBulk d + 1
  | (_, d) => uptoBulk d + 1
 end
def uptoSmall : (H : Type) → List (DataW H) → Bool := fun _ ds => decide (uptoBulkAll ds ≤ 1048576)
def OpenSpec.upto (s : _root_.Go.ChangeSpec) : _root_.Go.OpenSpec := { _root_.Go.OpenSpec.ofChange s with cond := some uptoSmall }

/-- 'laws.FnExactTreeFresh', WHERE WHAT IT READS IS OF BULK AT MOST 1048576: true; the input reads as it did. -/
def fnExactTreeFreshUptoRow : OpenClaim := { program := "ytojkpeacgfdpjaa", sum := "37356da5d2ebfa434217f76f547ae2319c392853ea90a112c9a9861908140c99", func := "loop.example/codicil/laws.FnExactTreeFresh", spec := "fnExactTreeFresh", unfollowed := true, recurses := true, loops := true, apart := false, narrowed := true }
def FnExactTreeFreshUptoSaid : Prop := fnExactTreeFreshUptoRow.holds Try.pinned (OpenSpec.upto fnExactTreeFreshSpec)

/-- 'laws.FnExactTreeFind', WHERE WHAT IT READS IS OF BULK AT MOST 1048576: true; the input reads as it did. -/
def fnExactTreeFindUptoRow : OpenClaim := { program := "ytojkpeacgfdpjaa", sum := "37356da5d2ebfa434217f76f547ae2319c392853ea90a112c9a9861908140c99", func := "loop.example/codicil/laws.FnExactTreeFind", spec := "fnExactTreeFind", unfollowed := true, recurses := true, loops := true, apart := false, narrowed := true }
def FnExactTreeFindUptoSaid : Prop := fnExactTreeFindUptoRow.holds Try.pinned (OpenSpec.upto fnExactTreeFindSpec)

/-- 'laws.FnExactTreeIds', WHERE WHAT IT READS IS OF BULK AT MOST 1048576: true; the input reads as it did. -/
def fnExactTreeIdsUptoRow : OpenClaim := { program := "ytojkpeacgfdpjaa", sum := "37356da5d2ebfa434217f76f547ae2319c392853ea90a112c9a9861908140c99", func := "loop.example/codicil/laws.FnExactTreeIds", spec := "fnExactTreeIds", unfollowed := true, recurses := true, loops := true, apart := false, narrowed := true }
def FnExactTreeIdsUptoSaid : Prop := fnExactTreeIdsUptoRow.holds Try.pinned (OpenSpec.upto fnExactTreeIdsSpec)

/-- 'laws.FnExactMergeFits', WHERE WHAT IT READS IS OF BULK AT MOST 1048576: true; the input reads as it did. -/
def fnExactMergeFitsUptoRow : OpenClaim := { program := "ytojkpeacgfdpjaa", sum := "37356da5d2ebfa434217f76f547ae2319c392853ea90a112c9a9861908140c99", func := "loop.example/codicil/laws.FnExactMergeFits", spec := "fnExactMergeFits", unfollowed := true, recurses := true, loops := true, apart := false, narrowed := true }
def FnExactMergeFitsUptoSaid : Prop := fnExactMergeFitsUptoRow.holds Try.pinned (OpenSpec.upto fnExactMergeFitsSpec)

end Rows
end Go.Proofs.Ytojkpeacgfdpjaa
