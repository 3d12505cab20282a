/- At every argument FnExactTreeLevel answers true, and its arguments read as they read before; nothing is assumed beyond what the given statement assumes. -/
import Derived.Test.YticbjpcfpfnccabCodC
namespace Go.Proofs.Yticbjpcfpfnccab
theorem x_FnExactTreeLevel : Rows.FnExactTreeLevelSaid := Go.Cod.overFnExactTreeLevel
end Go.Proofs.Yticbjpcfpfnccab
