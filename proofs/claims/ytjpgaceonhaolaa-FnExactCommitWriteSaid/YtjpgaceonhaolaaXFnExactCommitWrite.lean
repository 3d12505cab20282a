/- At every argument FnExactCommitWrite answers true, and its arguments read as they read before; nothing is assumed beyond what the given statement assumes. -/
import Derived.Test.YtjpgaceonhaolaaCodE
namespace Go.Proofs.Ytjpgaceonhaolaa
theorem x_FnExactCommitWrite : Rows.FnExactCommitWriteSaid := Go.Cod.overFnExactCommitWrite
end Go.Proofs.Ytjpgaceonhaolaa
