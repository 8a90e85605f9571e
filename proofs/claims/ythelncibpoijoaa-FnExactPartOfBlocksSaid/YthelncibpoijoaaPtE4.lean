/- All rows of eight numbers, part 4 of 4: by computing. No program is spoken of. -/
import Derived.Test.YthelncibpoijoaaPtD
namespace Go.Proofs.Ythelncibpoijoaa

set_option maxRecDepth 100000 in
theorem all8_6 : chkN (tstN 8) 8 7 64 12582912 = true := by decide +kernel

set_option maxRecDepth 100000 in
theorem all8_7 : chkN (tstN 8) 8 7 128 14680064 = true := by decide +kernel

end Go.Proofs.Ythelncibpoijoaa
