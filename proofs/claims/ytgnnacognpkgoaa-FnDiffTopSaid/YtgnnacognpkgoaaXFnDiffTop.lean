/- At every argument FnDiffTop answers true, and its arguments read as they read before; nothing is assumed beyond what the given statement assumes. -/
import Derived.Test.YtgnnacognpkgoaaCodH
namespace Go.Proofs.Ytgnnacognpkgoaa
theorem x_FnDiffTop : Rows.FnDiffTopSaid := Go.Cod.overFnDiffTop
end Go.Proofs.Ytgnnacognpkgoaa
