/- At every argument FnStepBack answers true, and its arguments read as they read before; nothing is assumed beyond what the given statement assumes. -/
import Derived.Test.YtpbomdlknkakgaaCodG
namespace Go.Proofs.Ytpbomdlknkakgaa
theorem x_FnStepBack : Rows.FnStepBackSaid := Go.Cod.overFnStepBack
end Go.Proofs.Ytpbomdlknkakgaa
