/- At every argument FnStepsDo answers true, and its arguments read as they read before; nothing is assumed beyond what the given statement assumes. -/
import Derived.Test.YthcbmohjmgpkiaaCodG
namespace Go.Proofs.Ythcbmohjmgpkiaa
theorem x_FnStepsDo : Rows.FnStepsDoSaid := Go.Cod.overFnStepsDo
end Go.Proofs.Ythcbmohjmgpkiaa
