/- Plain: cycling. -/
import Derived.Test.YtgljkffkpmkheaaSlMB
namespace Go.Proofs.Ytgljkffkpmkheaa

end Go.Proofs.Ytgljkffkpmkheaa

