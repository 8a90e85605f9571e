/- All rows of eight numbers, part 2 of 4: by computing. No program is spoken of. -/
import Derived.Test.YthelncibpoijoaaPtD
namespace Go.Proofs.Ythelncibpoijoaa

set_option maxRecDepth 100000 in
theorem all8_2 : chkN (tstN 8) 8 7 4 4194304 = true := by decide +kernel

set_option maxRecDepth 100000 in
theorem all8_3 : chkN (tstN 8) 8 7 8 6291456 = true := by decide +kernel

end Go.Proofs.Ythelncibpoijoaa
