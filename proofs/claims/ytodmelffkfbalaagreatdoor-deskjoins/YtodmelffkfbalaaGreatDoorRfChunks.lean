import Derived.Test.YtodmelffkfbalaaGreatDoorPk25
import Derived.Deep.DeepCutAuto
namespace Go.Proofs.YtodmelffkfbalaaGreatDoor
open Go.RowKit
