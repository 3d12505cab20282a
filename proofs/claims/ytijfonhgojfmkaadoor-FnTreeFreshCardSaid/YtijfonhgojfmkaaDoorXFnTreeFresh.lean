/- At every argument FnTreeFresh answers true, and its arguments read as they read before; the listed package-level variables hold what the program's own text lays, and nothing else is assumed beyond what the given statement assumes. -/
import Derived.Test.YtijfonhgojfmkaaDoorCodF
namespace Go.Proofs.YtijfonhgojfmkaaDoor
theorem x_FnTreeFresh : Rows.FnTreeFreshCardSaid := Go.Cod.overFnTreeFresh
end Go.Proofs.YtijfonhgojfmkaaDoor
