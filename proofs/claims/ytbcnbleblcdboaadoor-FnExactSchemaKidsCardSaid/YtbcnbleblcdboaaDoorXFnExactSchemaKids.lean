/- At every argument FnExactSchemaKids answers true, and its arguments read as they read before; the listed package-level variables hold what the program's own text lays, and nothing else is assumed beyond what the given statement assumes. -/
import Derived.Test.YtbcnbleblcdboaaDoorCodE
namespace Go.Proofs.YtbcnbleblcdboaaDoor
theorem x_FnExactSchemaKids : Rows.FnExactSchemaKidsCardSaid := Go.Cod.overFnExactSchemaKids
end Go.Proofs.YtbcnbleblcdboaaDoor
