/- At every argument FnExactStepsMeet answers true, and its arguments read as they read before; nothing is assumed beyond what the given statement assumes. -/
import Derived.Test.YtbmgokdfgkfmfaaCodF
namespace Go.Proofs.Ytbmgokdfgkfmfaa
theorem x_FnExactStepsMeet : Rows.FnExactStepsMeetSaid := Go.Cod.overFnExactStepsMeet
end Go.Proofs.Ytbmgokdfgkfmfaa
