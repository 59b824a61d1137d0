/- The document's own answer, walked: ChunksOf. -/
import Derived.Test.YthhklgjjnaeaoaaGreatDoorPk24
import Derived.Deep.DeepCutAuto
namespace Go.Proofs.YthhklgjjnaeaoaaGreatDoor
open Go.RowKit
end Go.Proofs.YthhklgjjnaeaoaaGreatDoor