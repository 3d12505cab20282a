/- At every argument FnExactSchemaWrite answers true, and its arguments read as they read before; the listed package-level variables hold what the program's own text lays, and nothing else is assumed beyond what the given statement assumes. -/
import Derived.Test.YtnhdaclpfhnbeaaDoorCodE
namespace Go.Proofs.YtnhdaclpfhnbeaaDoor
theorem x_FnExactSchemaWrite : Rows.FnExactSchemaWriteCardSaid := Go.Cod.overFnExactSchemaWrite
end Go.Proofs.YtnhdaclpfhnbeaaDoor
