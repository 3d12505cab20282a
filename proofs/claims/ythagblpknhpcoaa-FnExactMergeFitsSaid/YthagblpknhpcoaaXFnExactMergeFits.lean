/- At every argument FnExactMergeFits answers true, and its arguments read as they read before; nothing is assumed beyond what the given statement assumes. -/
import Derived.Test.YthagblpknhpcoaaCodE
namespace Go.Proofs.Ythagblpknhpcoaa
theorem x_FnExactMergeFits : Rows.FnExactMergeFitsSaid := Go.Cod.overFnExactMergeFits
end Go.Proofs.Ythagblpknhpcoaa
