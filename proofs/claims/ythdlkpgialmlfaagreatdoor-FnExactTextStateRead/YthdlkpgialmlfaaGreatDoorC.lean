/- Contracts of the size functions, third part. -/
import Derived.Test.YthdlkpgialmlfaaGreatDoorB
namespace Go.Proofs.YthdlkpgialmlfaaGreatDoor
open Go.RowKit

end Go.Proofs.YthdlkpgialmlfaaGreatDoor
