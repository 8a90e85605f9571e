/- The contracts that the laws' walks use, in the words of intervals of blocks. -/
import Derived.Test.YtinflgcpkeomlabBase3
import Derived.Test.YtinflgcpkeomlabKit2
namespace Go.Proofs.Ytinflgcpkeomlab
open Go.RowKit

end Go.Proofs.Ytinflgcpkeomlab
