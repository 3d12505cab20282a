/- At every argument FnCostThree answers true, and its arguments read as they read before; nothing is assumed beyond what the given statement assumes. -/
import Derived.Test.YtijfonhgojfmkaaCodF
namespace Go.Proofs.Ytijfonhgojfmkaa
theorem x_FnCostThree : Rows.FnCostThreeSaid := Go.Cod.overFnCostThree
end Go.Proofs.Ytijfonhgojfmkaa
