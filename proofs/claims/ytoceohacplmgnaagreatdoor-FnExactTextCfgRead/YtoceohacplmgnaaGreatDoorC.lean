/- Contracts of the size functions, third part. -/
import Derived.Test.YtoceohacplmgnaaGreatDoorB
namespace Go.Proofs.YtoceohacplmgnaaGreatDoor
open Go.RowKit

end Go.Proofs.YtoceohacplmgnaaGreatDoor
