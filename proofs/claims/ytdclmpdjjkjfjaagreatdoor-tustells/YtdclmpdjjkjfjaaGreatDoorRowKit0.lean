/- What every row of this program wants. -/
import Derived.Test.YtdclmpdjjkjfjaaGreatDoorProg
import Derived.ProofKit
import Derived.OpenShut
namespace Go.Proofs.YtdclmpdjjkjfjaaGreatDoor
open Go.ChangeShapes Go.WideShapes Go.ChangeAt Go.RowKit
theorem laid_out : laidOutB Tryz.prog = true := by kernel_rfl
end Go.Proofs.YtdclmpdjjkjfjaaGreatDoor
