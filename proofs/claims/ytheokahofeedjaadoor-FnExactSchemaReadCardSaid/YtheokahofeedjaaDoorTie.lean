/-
  DERIVED. GIVEN WITH THE SEED: THE PROGRAM's TIES (one call each: nine closed facts by the kernel) AND EACH ROW's TIE, after the 31st guide's Derived/Test/Toyas{Tie, Card}.lean. No idea stands in it: it is a product of the set-up. Laid BY PROGRAM, IN A SANDBOX (cutbox-door.mjs). By AI agents, Wed Nov 11 2026. No macro, syntax, notation, axiom, sorry.
-/
import Derived.Test.YtheokahofeedjaaDoorRows
import Derived.LaidByTextLater
import Derived.SevenTiedAt
import Derived.LaidSub
import Derived.LaidOnce
namespace Go.Proofs.YtheokahofeedjaaDoor
open Go
set_option maxRecDepth 100000
theorem seatTie1 : Tryd.prog.laidByTextLater [("loop.example/codicil/impl.errNotSo", Rows.laid_loop_example_codicil_impl_errNotSo), ("loop.example/codicil/impl.errNoRule", Rows.laid_loop_example_codicil_impl_errNoRule), ("loop.example/codicil/impl.errRules", Rows.laid_loop_example_codicil_impl_errRules), ("loop.example/codicil/impl.errRuleKind", Rows.laid_loop_example_codicil_impl_errRuleKind), ("loop.example/codicil/impl.errItems", Rows.laid_loop_example_codicil_impl_errItems)] [.sentinel, .sentinel, .sentinel, .sentinel, .sentinel] true :=
  Program.laidByTextLater_by_one 104 8 2 (by kernel_rfl) (by kernel_rfl) (by kernel_rfl) (by kernel_rfl) (by kernel_rfl) (by kernel_rfl) (fun _ _ => by kernel_rfl)
theorem noOwnUnsafe : Tryd.pinned.checked.prog.headLifts.contains "ownunsafe" = false := by kernel_rfl
theorem tie : Tryd.prog.laidByTextLater [("loop.example/codicil/impl.errNotSo", Rows.laid_loop_example_codicil_impl_errNotSo), ("loop.example/codicil/impl.errNoRule", Rows.laid_loop_example_codicil_impl_errNoRule), ("loop.example/codicil/impl.errRules", Rows.laid_loop_example_codicil_impl_errRules), ("loop.example/codicil/impl.errRuleKind", Rows.laid_loop_example_codicil_impl_errRuleKind), ("loop.example/codicil/impl.errItems", Rows.laid_loop_example_codicil_impl_errItems)] [.sentinel, .sentinel, .sentinel, .sentinel, .sentinel] true :=
  Program.laidByTextLater.sub seatTie1 ["loop.example/codicil/impl.errNotSo", "loop.example/codicil/impl.errNoRule", "loop.example/codicil/impl.errRules", "loop.example/codicil/impl.errRuleKind", "loop.example/codicil/impl.errItems"] (by kernel_rfl) (by kernel_rfl)
theorem fnSchemaText_row_tie : Rows.fnSchemaTextRow.laidByTextAt .later Tryd.pinned [.sentinel, .sentinel, .sentinel, .sentinel, .sentinel] true :=
  OpenClaim.laidByTextAt_later rfl rfl tie noOwnUnsafe
theorem fnExactSchemaRead_row_tie : Rows.fnExactSchemaReadRow.laidByTextAt .later Tryd.pinned [.sentinel, .sentinel, .sentinel, .sentinel, .sentinel] true :=
  OpenClaim.laidByTextAt_later rfl rfl tie noOwnUnsafe
theorem fnSchemaTextUpto_row_tie : Rows.fnSchemaTextUptoRow.laidByTextAt .later Tryd.pinned [.sentinel, .sentinel, .sentinel, .sentinel, .sentinel] true :=
  OpenClaim.laidByTextAt_later rfl rfl tie noOwnUnsafe
theorem fnExactSchemaReadUpto_row_tie : Rows.fnExactSchemaReadUptoRow.laidByTextAt .later Tryd.pinned [.sentinel, .sentinel, .sentinel, .sentinel, .sentinel] true :=
  OpenClaim.laidByTextAt_later rfl rfl tie noOwnUnsafe
end Go.Proofs.YtheokahofeedjaaDoor
