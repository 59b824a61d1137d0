/- The document's own answer for requests, walked: Requests. -/
import Derived.Test.YthhklgjjnaeaoaaGreatDoorPk42
namespace Go.Proofs.YthhklgjjnaeaoaaGreatDoor
open Go.RowKit
end Go.Proofs.YthhklgjjnaeaoaaGreatDoor