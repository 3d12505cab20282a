/- At every argument FnTreeCount answers true, and its arguments read as they read before; the listed package-level variables hold what the program's own text lays, and nothing else is assumed beyond what the given statement assumes. -/
import Derived.Test.YthcbmohjmgpkiaaDoorCodF
namespace Go.Proofs.YthcbmohjmgpkiaaDoor
theorem x_FnTreeCount : Rows.FnTreeCountCardSaid := Go.Cod.overFnTreeCount
end Go.Proofs.YthcbmohjmgpkiaaDoor
