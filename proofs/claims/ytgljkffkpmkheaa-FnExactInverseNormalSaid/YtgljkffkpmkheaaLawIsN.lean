/- The walk of the law of IsNormal. -/
import Derived.Test.YtgljkffkpmkheaaSNorm
import Derived.Test.YtgljkffkpmkheaaMC
import Derived.Deep.RegionHeld3
namespace Go.Proofs.Ytgljkffkpmkheaa
open Go.RowKit Go.ChangeShapes