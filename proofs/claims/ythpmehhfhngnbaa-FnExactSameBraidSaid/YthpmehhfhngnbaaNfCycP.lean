/- Plain: cycling. -/
import Derived.Test.YthpmehhfhngnbaaNfMB
namespace Go.Proofs.Ythpmehhfhngnbaa

end Go.Proofs.Ythpmehhfhngnbaa

