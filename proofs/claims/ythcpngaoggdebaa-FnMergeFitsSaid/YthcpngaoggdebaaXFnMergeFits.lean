/- At every argument FnMergeFits answers true, and its arguments read as they read before; nothing is assumed beyond what the given statement assumes. -/
import Derived.Test.YthcpngaoggdebaaCodG
namespace Go.Proofs.Ythcpngaoggdebaa
theorem x_FnMergeFits : Rows.FnMergeFitsSaid := Go.Cod.overFnMergeFits
end Go.Proofs.Ythcpngaoggdebaa
