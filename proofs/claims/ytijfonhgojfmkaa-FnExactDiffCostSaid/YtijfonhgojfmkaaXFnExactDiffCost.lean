/- At every argument FnExactDiffCost answers true, and its arguments read as they read before; nothing is assumed beyond what the given statement assumes. -/
import Derived.Test.YtijfonhgojfmkaaCodF
namespace Go.Proofs.Ytijfonhgojfmkaa
theorem x_FnExactDiffCost : Rows.FnExactDiffCostSaid := Go.Cod.overFnExactDiffCost
end Go.Proofs.Ytijfonhgojfmkaa
