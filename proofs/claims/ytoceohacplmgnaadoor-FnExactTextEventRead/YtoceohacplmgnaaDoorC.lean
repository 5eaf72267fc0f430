/- Contracts of the size functions, third part. -/
import Derived.Test.YtoceohacplmgnaaDoorB
namespace Go.Proofs.YtoceohacplmgnaaDoor
open Go.RowKit

end Go.Proofs.YtoceohacplmgnaaDoor
