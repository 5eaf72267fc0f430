/- Contracts of the size functions, third part. -/
import Derived.Test.YtcdjklpnjdladaaB
namespace Go.Proofs.Ytcdjklpnjdladaa
open Go.RowKit

end Go.Proofs.Ytcdjklpnjdladaa
