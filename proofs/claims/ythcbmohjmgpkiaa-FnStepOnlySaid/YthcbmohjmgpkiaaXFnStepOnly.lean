/- At every argument FnStepOnly answers true, and its arguments read as they read before; nothing is assumed beyond what the given statement assumes. -/
import Derived.Test.YthcbmohjmgpkiaaCodG
namespace Go.Proofs.Ythcbmohjmgpkiaa
theorem x_FnStepOnly : Rows.FnStepOnlySaid := Go.Cod.overFnStepOnly
end Go.Proofs.Ythcbmohjmgpkiaa
