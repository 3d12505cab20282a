/- At every argument FnCostTurn answers true, and its arguments read as they read before; nothing is assumed beyond what the given statement assumes. -/
import Derived.Test.YtijfonhgojfmkaaCodF
namespace Go.Proofs.Ytijfonhgojfmkaa
theorem x_FnCostTurn : Rows.FnCostTurnSaid := Go.Cod.overFnCostTurn
end Go.Proofs.Ytijfonhgojfmkaa
