/- All rows of eight numbers, part 3 of 4: by computing. No program is spoken of. -/
import Derived.Test.YthelncibpoijoaaPtD
namespace Go.Proofs.Ythelncibpoijoaa

set_option maxRecDepth 100000 in
theorem all8_4 : chkN (tstN 8) 8 7 16 8388608 = true := by decide +kernel

set_option maxRecDepth 100000 in
theorem all8_5 : chkN (tstN 8) 8 7 32 10485760 = true := by decide +kernel

end Go.Proofs.Ythelncibpoijoaa
