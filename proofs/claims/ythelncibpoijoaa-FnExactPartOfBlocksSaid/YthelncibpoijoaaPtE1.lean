/- All rows of eight numbers, part 1 of 4: by computing. No program is spoken of. -/
import Derived.Test.YthelncibpoijoaaPtD
namespace Go.Proofs.Ythelncibpoijoaa

set_option maxRecDepth 100000 in
theorem all8_0 : chkN (tstN 8) 8 7 1 0 = true := by decide +kernel

set_option maxRecDepth 100000 in
theorem all8_1 : chkN (tstN 8) 8 7 2 2097152 = true := by decide +kernel

end Go.Proofs.Ythelncibpoijoaa
