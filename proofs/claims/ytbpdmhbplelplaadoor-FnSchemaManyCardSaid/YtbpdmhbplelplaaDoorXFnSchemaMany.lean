/- At every argument FnSchemaMany answers true, and its arguments read as they read before; the listed package-level variables hold what the program's own text lays, and nothing else is assumed beyond what the given statement assumes. -/
import Derived.Test.YtbpdmhbplelplaaDoorCodF
namespace Go.Proofs.YtbpdmhbplelplaaDoor
theorem x_FnSchemaMany : Rows.FnSchemaManyCardSaid := Go.Cod.overFnSchemaMany
end Go.Proofs.YtbpdmhbplelplaaDoor
