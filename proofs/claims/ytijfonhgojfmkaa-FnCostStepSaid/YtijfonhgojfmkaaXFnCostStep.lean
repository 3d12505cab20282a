/- At every argument FnCostStep answers true, and its arguments read as they read before; nothing is assumed beyond what the given statement assumes. -/
import Derived.Test.YtijfonhgojfmkaaCodG
namespace Go.Proofs.Ytijfonhgojfmkaa
theorem x_FnCostStep : Rows.FnCostStepSaid := Go.Cod.overFnCostStep
end Go.Proofs.Ytijfonhgojfmkaa
