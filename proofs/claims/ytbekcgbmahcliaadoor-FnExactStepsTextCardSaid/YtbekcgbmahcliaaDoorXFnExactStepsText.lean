/- At every argument FnExactStepsText answers true, and its arguments read as they read before; the listed package-level variables hold what the program's own text lays, and nothing else is assumed beyond what the given statement assumes. -/
import Derived.Test.YtbekcgbmahcliaaDoorCodE
namespace Go.Proofs.YtbekcgbmahcliaaDoor
theorem x_FnExactStepsText : Rows.FnExactStepsTextCardSaid := Go.Cod.overFnExactStepsText
end Go.Proofs.YtbekcgbmahcliaaDoor
