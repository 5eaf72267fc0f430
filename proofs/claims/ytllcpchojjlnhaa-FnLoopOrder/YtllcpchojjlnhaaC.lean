/- Contracts of the size functions, third part. -/
import Derived.Test.YtllcpchojjlnhaaB
namespace Go.Proofs.Ytllcpchojjlnhaa
open Go.RowKit

end Go.Proofs.Ytllcpchojjlnhaa
