/- At every argument FnExactStepsBack answers true, and its arguments read as they read before; nothing is assumed beyond what the given statement assumes. -/
import Derived.Test.YtpbomdlknkakgaaCodG
namespace Go.Proofs.Ytpbomdlknkakgaa
theorem x_FnExactStepsBack : Rows.FnExactStepsBackSaid := Go.Cod.overFnExactStepsBack
end Go.Proofs.Ytpbomdlknkakgaa
