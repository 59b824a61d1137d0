/- What every row of this program wants. -/
import Derived.Test.YtankilclhknbkaaProg
import Derived.ProofKit
import Derived.OpenShut
namespace Go.Proofs.Ytankilclhknbkaa
open Go.ChangeShapes Go.WideShapes Go.ChangeAt Go.RowKit
theorem laid_out : laidOutB Try.prog = true := by kernel_rfl
end Go.Proofs.Ytankilclhknbkaa
