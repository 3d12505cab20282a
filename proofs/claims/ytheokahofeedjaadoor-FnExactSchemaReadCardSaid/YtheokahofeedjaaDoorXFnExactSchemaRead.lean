/- At every argument FnExactSchemaRead answers true, and its arguments read as they read before; the listed package-level variables hold what the program's own text lays, and nothing else is assumed beyond what the given statement assumes. -/
import Derived.Test.YtheokahofeedjaaDoorCodF
namespace Go.Proofs.YtheokahofeedjaaDoor
theorem x_FnExactSchemaRead : Rows.FnExactSchemaReadCardSaid := Go.Cod.overFnExactSchemaRead
end Go.Proofs.YtheokahofeedjaaDoor
