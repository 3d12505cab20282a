/- At every argument FnExactStepBack answers true, and its arguments read as they read before; nothing is assumed beyond what the given statement assumes. -/
import Derived.Test.YtpbomdlknkakgaaCodF
namespace Go.Proofs.Ytpbomdlknkakgaa
theorem x_FnExactStepBack : Rows.FnExactStepBackSaid := Go.Cod.overFnExactStepBack
end Go.Proofs.Ytpbomdlknkakgaa
