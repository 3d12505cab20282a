/- At every argument FnExactStepDo answers true, and its arguments read as they read before; nothing is assumed beyond what the given statement assumes. -/
import Derived.Test.YthcbmohjmgpkiaaCodF
namespace Go.Proofs.Ythcbmohjmgpkiaa
theorem x_FnExactStepDo : Rows.FnExactStepDoSaid := Go.Cod.overFnExactStepDo
end Go.Proofs.Ythcbmohjmgpkiaa
