/- What every row of this program wants. -/
import Derived.Test.YtankilclhknbkaaDoorProg
import Derived.ProofKit
import Derived.OpenShut
namespace Go.Proofs.YtankilclhknbkaaDoor
open Go.ChangeShapes Go.WideShapes Go.ChangeAt Go.RowKit
theorem laid_out : laidOutB Tryd.prog = true := by kernel_rfl
end Go.Proofs.YtankilclhknbkaaDoor
