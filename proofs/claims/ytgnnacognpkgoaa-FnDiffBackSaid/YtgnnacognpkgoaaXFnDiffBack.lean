/- At every argument FnDiffBack answers true, and its arguments read as they read before; nothing is assumed beyond what the given statement assumes. -/
import Derived.Test.YtgnnacognpkgoaaCodH
namespace Go.Proofs.Ytgnnacognpkgoaa
theorem x_FnDiffBack : Rows.FnDiffBackSaid := Go.Cod.overFnDiffBack
end Go.Proofs.Ytgnnacognpkgoaa
