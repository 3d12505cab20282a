/- At every argument FnTreeLevel answers true, and its arguments read as they read before; nothing is assumed beyond what the given statement assumes. -/
import Derived.Test.YteookiokkkpbiaaCodD
namespace Go.Proofs.Yteookiokkkpbiaa
theorem x_FnTreeLevel : Rows.FnTreeLevelSaid := Go.Cod.overFnTreeLevel
end Go.Proofs.Yteookiokkkpbiaa
