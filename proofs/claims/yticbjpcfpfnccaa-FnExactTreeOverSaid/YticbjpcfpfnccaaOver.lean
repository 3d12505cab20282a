/- At every argument the function TreeOver of the program answers as its model does; nothing is assumed beyond what the given statement assumes. -/
import Derived.Test.YticbjpcfpfnccaaCodC
namespace Go.Proofs.Yticbjpcfpfnccaa
theorem treeOver_exact : Rows.FnExactTreeOverSaid := Go.Cod.overFnExactTreeOver
end Go.Proofs.Yticbjpcfpfnccaa
