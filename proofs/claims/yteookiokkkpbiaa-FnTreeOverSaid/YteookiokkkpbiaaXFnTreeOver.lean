/- At every argument FnTreeOver answers true, and its arguments read as they read before; nothing is assumed beyond what the given statement assumes. -/
import Derived.Test.YteookiokkkpbiaaCodD
namespace Go.Proofs.Yteookiokkkpbiaa
theorem x_FnTreeOver : Rows.FnTreeOverSaid := Go.Cod.overFnTreeOver
end Go.Proofs.Yteookiokkkpbiaa
