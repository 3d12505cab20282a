/- At every tree the function TreeOk of the program answers as its model does; nothing is assumed beyond what the given statement assumes. -/
import Derived.Test.YticbjpcfpfnccaaCodC
namespace Go.Proofs.Yticbjpcfpfnccaa
theorem treeOk_exact : Rows.FnExactTreeOkSaid := Go.Cod.over
end Go.Proofs.Yticbjpcfpfnccaa
