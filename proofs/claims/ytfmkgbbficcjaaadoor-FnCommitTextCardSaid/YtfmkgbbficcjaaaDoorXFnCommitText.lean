/- At every argument FnCommitText answers true, and its arguments read as they read before; the listed package-level variables hold what the program's own text lays, and nothing else is assumed beyond what the given statement assumes. -/
import Derived.Test.YtfmkgbbficcjaaaDoorCodE
namespace Go.Proofs.YtfmkgbbficcjaaaDoor
theorem x_FnCommitText : Rows.FnCommitTextCardSaid := Go.Cod.overFnCommitText
end Go.Proofs.YtfmkgbbficcjaaaDoor
