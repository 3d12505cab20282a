/- At every argument FnStepTurn answers true, and its arguments read as they read before; nothing is assumed beyond what the given statement assumes. -/
import Derived.Test.YthcbmohjmgpkiaaCodG
namespace Go.Proofs.Ythcbmohjmgpkiaa
theorem x_FnStepTurn : Rows.FnStepTurnSaid := Go.Cod.overFnStepTurn
end Go.Proofs.Ythcbmohjmgpkiaa
