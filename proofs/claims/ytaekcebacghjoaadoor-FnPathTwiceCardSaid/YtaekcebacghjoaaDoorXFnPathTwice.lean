/- At every argument FnPathTwice answers true, and its arguments read as they read before; the listed package-level variables hold what the program's own text lays, and nothing else is assumed beyond what the given statement assumes. -/
import Derived.Test.YtaekcebacghjoaaDoorCodF
namespace Go.Proofs.YtaekcebacghjoaaDoor
theorem x_FnPathTwice : Rows.FnPathTwiceCardSaid := Go.Cod.overFnPathTwice
end Go.Proofs.YtaekcebacghjoaaDoor
