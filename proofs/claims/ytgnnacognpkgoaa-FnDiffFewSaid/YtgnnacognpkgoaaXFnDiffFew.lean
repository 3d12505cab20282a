/- At every argument FnDiffFew answers true, and its arguments read as they read before; nothing is assumed beyond what the given statement assumes. -/
import Derived.Test.YtgnnacognpkgoaaCodG
namespace Go.Proofs.Ytgnnacognpkgoaa
theorem x_FnDiffFew : Rows.FnDiffFewSaid := Go.Cod.overFnDiffFew
end Go.Proofs.Ytgnnacognpkgoaa
