/- At every argument FnTreeFind answers true, and its arguments read as they read before; nothing is assumed beyond what the given statement assumes. -/
import Derived.Test.YteookiokkkpbiaaCodD
namespace Go.Proofs.Yteookiokkkpbiaa
theorem x_FnTreeFind : Rows.FnTreeFindSaid := Go.Cod.overFnTreeFind
end Go.Proofs.Yteookiokkkpbiaa
