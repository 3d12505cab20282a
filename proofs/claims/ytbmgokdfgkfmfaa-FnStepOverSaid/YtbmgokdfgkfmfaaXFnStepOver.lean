/- At every argument FnStepOver answers true, and its arguments read as they read before; nothing is assumed beyond what the given statement assumes. -/
import Derived.Test.YtbmgokdfgkfmfaaCodG
namespace Go.Proofs.Ytbmgokdfgkfmfaa
theorem x_FnStepOver : Rows.FnStepOverSaid := Go.Cod.overFnStepOver
end Go.Proofs.Ytbmgokdfgkfmfaa
