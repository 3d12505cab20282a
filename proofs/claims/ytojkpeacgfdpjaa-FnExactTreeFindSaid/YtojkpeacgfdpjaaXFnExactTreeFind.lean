/- At every argument FnExactTreeFind answers true, and its arguments read as they read before; nothing is assumed beyond what the given statement assumes. -/
import Derived.Test.YtojkpeacgfdpjaaCodD
namespace Go.Proofs.Ytojkpeacgfdpjaa
theorem x_FnExactTreeFind : Rows.FnExactTreeFindSaid := Go.Cod.overFnExactTreeFind
end Go.Proofs.Ytojkpeacgfdpjaa
