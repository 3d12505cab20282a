/- At every argument FnExactTreeIds answers true, and its arguments read as they read before; nothing is assumed beyond what the given statement assumes. -/
import Derived.Test.YtojkpeacgfdpjaaCodD
namespace Go.Proofs.Ytojkpeacgfdpjaa
theorem x_FnExactTreeIds : Rows.FnExactTreeIdsSaid := Go.Cod.overFnExactTreeIds
end Go.Proofs.Ytojkpeacgfdpjaa
