/- At every argument FnStepsBack answers true, and its arguments read as they read before; nothing is assumed beyond what the given statement assumes. -/
import Derived.Test.YtpbomdlknkakgaaCodG
namespace Go.Proofs.Ytpbomdlknkakgaa
theorem x_FnStepsBack : Rows.FnStepsBackSaid := Go.Cod.overFnStepsBack
end Go.Proofs.Ytpbomdlknkakgaa
