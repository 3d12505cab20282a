/- At every argument FnHashSum answers true, and its arguments read as they read before; the listed package-level variables hold what the program's own text lays, and nothing else is assumed beyond what the given statement assumes. -/
import Derived.Test.YtdpipckbbliclaaDoorCodE
namespace Go.Proofs.YtdpipckbbliclaaDoor
theorem x_FnHashSum : Rows.FnHashSumCardSaid := Go.Cod.overFnHashSum
end Go.Proofs.YtdpipckbbliclaaDoor
