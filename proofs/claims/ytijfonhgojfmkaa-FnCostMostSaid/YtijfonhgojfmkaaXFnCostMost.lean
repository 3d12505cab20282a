/- At every argument FnCostMost answers true, and its arguments read as they read before; nothing is assumed beyond what the given statement assumes. -/
import Derived.Test.YtijfonhgojfmkaaCodF
namespace Go.Proofs.Ytijfonhgojfmkaa
theorem x_FnCostMost : Rows.FnCostMostSaid := Go.Cod.overFnCostMost
end Go.Proofs.Ytijfonhgojfmkaa
