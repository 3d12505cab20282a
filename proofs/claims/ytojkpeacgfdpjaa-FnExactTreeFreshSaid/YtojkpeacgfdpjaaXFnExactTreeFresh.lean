/- At every argument FnExactTreeFresh answers true, and its arguments read as they read before; nothing is assumed beyond what the given statement assumes. -/
import Derived.Test.YtojkpeacgfdpjaaCodD
namespace Go.Proofs.Ytojkpeacgfdpjaa
theorem x_FnExactTreeFresh : Rows.FnExactTreeFreshSaid := Go.Cod.overFnExactTreeFresh
end Go.Proofs.Ytojkpeacgfdpjaa
