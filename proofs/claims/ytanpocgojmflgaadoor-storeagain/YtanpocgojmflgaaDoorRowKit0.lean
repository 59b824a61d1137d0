/- What every row of this program wants. -/
import Derived.Test.YtanpocgojmflgaaDoorProg
import Derived.ProofKit
import Derived.OpenShut
namespace Go.Proofs.YtanpocgojmflgaaDoor
open Go.ChangeShapes Go.WideShapes Go.ChangeAt Go.RowKit
theorem laid_out : laidOutB Tryd.prog = true := by kernel_rfl
end Go.Proofs.YtanpocgojmflgaaDoor
