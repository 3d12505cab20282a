/- At every argument FnExactTreeTexts answers true, and its arguments read as they read before; the listed package-level variables hold what the program's own text lays, and nothing else is assumed beyond what the given statement assumes. -/
import Derived.Test.YteookiokkkpbiaaDoorCodD
namespace Go.Proofs.YteookiokkkpbiaaDoor
theorem x_FnExactTreeTexts : Rows.FnExactTreeTextsCardSaid := Go.Cod.overFnExactTreeTexts
end Go.Proofs.YteookiokkkpbiaaDoor
