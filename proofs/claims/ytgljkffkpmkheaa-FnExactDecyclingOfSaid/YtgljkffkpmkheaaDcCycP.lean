/- Plain: cycling. -/
import Derived.Test.YtgljkffkpmkheaaDcMB
namespace Go.Proofs.Ytgljkffkpmkheaa

end Go.Proofs.Ytgljkffkpmkheaa

