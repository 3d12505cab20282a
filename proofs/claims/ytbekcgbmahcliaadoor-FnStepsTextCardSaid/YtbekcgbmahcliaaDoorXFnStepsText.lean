/- At every argument FnStepsText answers true, and its arguments read as they read before; the listed package-level variables hold what the program's own text lays, and nothing else is assumed beyond what the given statement assumes. -/
import Derived.Test.YtbekcgbmahcliaaDoorCodF
namespace Go.Proofs.YtbekcgbmahcliaaDoor
theorem x_FnStepsText : Rows.FnStepsTextCardSaid := Go.Cod.overFnStepsText
end Go.Proofs.YtbekcgbmahcliaaDoor
