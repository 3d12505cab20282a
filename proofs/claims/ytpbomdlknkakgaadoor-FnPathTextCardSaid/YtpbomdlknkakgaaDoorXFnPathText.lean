/- At every argument FnPathText answers true, and its arguments read as they read before; the listed package-level variables hold what the program's own text lays, and nothing else is assumed beyond what the given statement assumes. -/
import Derived.Test.YtpbomdlknkakgaaDoorCodF
namespace Go.Proofs.YtpbomdlknkakgaaDoor
theorem x_FnPathText : Rows.FnPathTextCardSaid := Go.Cod.overFnPathText
end Go.Proofs.YtpbomdlknkakgaaDoor
