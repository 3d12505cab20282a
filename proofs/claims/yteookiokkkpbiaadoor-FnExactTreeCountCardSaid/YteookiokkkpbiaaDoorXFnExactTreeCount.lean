/- At every argument FnExactTreeCount answers true, and its arguments read as they read before; the listed package-level variables hold what the program's own text lays, and nothing else is assumed beyond what the given statement assumes. -/
import Derived.Test.YteookiokkkpbiaaDoorCodD
namespace Go.Proofs.YteookiokkkpbiaaDoor
theorem x_FnExactTreeCount : Rows.FnExactTreeCountCardSaid := Go.Cod.overFnExactTreeCount
end Go.Proofs.YteookiokkkpbiaaDoor
