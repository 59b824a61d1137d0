/- What every row of this program wants. -/
import Derived.Test.YtjhbiipbmlpgoaaDoorProg
import Derived.ProofKit
import Derived.OpenShut
namespace Go.Proofs.YtjhbiipbmlpgoaaDoor
open Go.ChangeShapes Go.WideShapes Go.ChangeAt Go.RowKit
theorem laid_out : laidOutB Tryd.prog = true := by kernel_rfl
end Go.Proofs.YtjhbiipbmlpgoaaDoor
