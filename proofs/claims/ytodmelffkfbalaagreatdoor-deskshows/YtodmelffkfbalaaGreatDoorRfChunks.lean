import Derived.Test.YtodmelffkfbalaaGreatDoorPk26
import Derived.Deep.DeepCutAuto
namespace Go.Proofs.YtodmelffkfbalaaGreatDoor
open Go.RowKit
