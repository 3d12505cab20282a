/- At every argument FnExactPathOf answers true, and its arguments read as they read before; the listed package-level variables hold what the program's own text lays, and nothing else is assumed beyond what the given statement assumes. -/
import Derived.Test.YtaekcebacghjoaaDoorCodD
namespace Go.Proofs.YtaekcebacghjoaaDoor
theorem x_FnExactPathOf : Rows.FnExactPathOfCardSaid := Go.Cod.overFnExactPathOf
end Go.Proofs.YtaekcebacghjoaaDoor
