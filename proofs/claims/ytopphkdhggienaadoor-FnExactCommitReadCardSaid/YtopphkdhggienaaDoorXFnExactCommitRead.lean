/- At every argument FnExactCommitRead answers true, and its arguments read as they read before; the listed package-level variables hold what the program's own text lays, and nothing else is assumed beyond what the given statement assumes. -/
import Derived.Test.YtopphkdhggienaaDoorCodE
namespace Go.Proofs.YtopphkdhggienaaDoor
theorem x_FnExactCommitRead : Rows.FnExactCommitReadCardSaid := Go.Cod.overFnExactCommitRead
end Go.Proofs.YtopphkdhggienaaDoor
