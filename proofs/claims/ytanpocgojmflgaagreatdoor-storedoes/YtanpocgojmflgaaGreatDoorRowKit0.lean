/- What every row of this program wants. -/
import Derived.Test.YtanpocgojmflgaaGreatDoorProg
import Derived.ProofKit
import Derived.OpenShut
namespace Go.Proofs.YtanpocgojmflgaaGreatDoor
open Go.ChangeShapes Go.WideShapes Go.ChangeAt Go.RowKit
theorem laid_out : laidOutB Tryz.prog = true := by kernel_rfl
end Go.Proofs.YtanpocgojmflgaaGreatDoor
