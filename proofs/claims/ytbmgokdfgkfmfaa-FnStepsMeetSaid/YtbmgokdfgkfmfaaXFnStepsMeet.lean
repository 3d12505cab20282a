/- At every argument FnStepsMeet answers true, and its arguments read as they read before; nothing is assumed beyond what the given statement assumes. -/
import Derived.Test.YtbmgokdfgkfmfaaCodG
namespace Go.Proofs.Ytbmgokdfgkfmfaa
theorem x_FnStepsMeet : Rows.FnStepsMeetSaid := Go.Cod.overFnStepsMeet
end Go.Proofs.Ytbmgokdfgkfmfaa
