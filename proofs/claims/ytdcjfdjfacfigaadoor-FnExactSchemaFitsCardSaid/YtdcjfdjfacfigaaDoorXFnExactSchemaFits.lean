/- At every argument FnExactSchemaFits answers true, and its arguments read as they read before; the listed package-level variables hold what the program's own text lays, and nothing else is assumed beyond what the given statement assumes. -/
import Derived.Test.YtdcjfdjfacfigaaDoorCodE
namespace Go.Proofs.YtdcjfdjfacfigaaDoor
theorem x_FnExactSchemaFits : Rows.FnExactSchemaFitsCardSaid := Go.Cod.overFnExactSchemaFits
end Go.Proofs.YtdcjfdjfacfigaaDoor
