/- Plain: cycling. -/
import Derived.Test.YthpmehhfhngnbaaFrMB
namespace Go.Proofs.Ythpmehhfhngnbaa

end Go.Proofs.Ythpmehhfhngnbaa

