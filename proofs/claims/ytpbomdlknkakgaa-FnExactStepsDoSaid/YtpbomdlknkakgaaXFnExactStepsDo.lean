/- At every argument FnExactStepsDo answers true, and its arguments read as they read before; nothing is assumed beyond what the given statement assumes. -/
import Derived.Test.YtpbomdlknkakgaaCodF
namespace Go.Proofs.Ytpbomdlknkakgaa
theorem x_FnExactStepsDo : Rows.FnExactStepsDoSaid := Go.Cod.overFnExactStepsDo
end Go.Proofs.Ytpbomdlknkakgaa
