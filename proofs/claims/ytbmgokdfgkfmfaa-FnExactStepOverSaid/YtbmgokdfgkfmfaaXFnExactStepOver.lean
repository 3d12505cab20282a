/- At every argument FnExactStepOver answers true, and its arguments read as they read before; nothing is assumed beyond what the given statement assumes. -/
import Derived.Test.YtbmgokdfgkfmfaaCodG
namespace Go.Proofs.Ytbmgokdfgkfmfaa
theorem x_FnExactStepOver : Rows.FnExactStepOverSaid := Go.Cod.overFnExactStepOver
end Go.Proofs.Ytbmgokdfgkfmfaa
