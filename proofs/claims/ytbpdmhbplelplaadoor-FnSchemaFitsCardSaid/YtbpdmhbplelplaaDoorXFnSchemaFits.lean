/- At every argument FnSchemaFits answers true, and its arguments read as they read before; the listed package-level variables hold what the program's own text lays, and nothing else is assumed beyond what the given statement assumes. -/
import Derived.Test.YtbpdmhbplelplaaDoorCodG
namespace Go.Proofs.YtbpdmhbplelplaaDoor
theorem x_FnSchemaFits : Rows.FnSchemaFitsCardSaid := Go.Cod.overFnSchemaFits
end Go.Proofs.YtbpdmhbplelplaaDoor
