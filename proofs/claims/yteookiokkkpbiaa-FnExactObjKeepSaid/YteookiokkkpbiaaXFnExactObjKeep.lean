/- At every argument FnExactObjKeep answers true, and its arguments read as they read before; nothing is assumed beyond what the given statement assumes. -/
import Derived.Test.YteookiokkkpbiaaCodD
namespace Go.Proofs.Yteookiokkkpbiaa
theorem x_FnExactObjKeep : Rows.FnExactObjKeepSaid := Go.Cod.overFnExactObjKeep
end Go.Proofs.Yteookiokkkpbiaa
