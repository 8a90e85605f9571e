/- All rows of at most seven numbers: by computing. No program is spoken of. -/
import Derived.Test.YthelncibpoijoaaPtD
namespace Go.Proofs.Ythelncibpoijoaa

set_option maxRecDepth 100000 in
theorem all_n1 : chkN (tstN 1) 1 1 0 0 = true := by decide +kernel

set_option maxRecDepth 100000 in
theorem all_n2 : chkN (tstN 2) 2 2 0 0 = true := by decide +kernel

set_option maxRecDepth 100000 in
theorem all_n3 : chkN (tstN 3) 3 3 0 0 = true := by decide +kernel

set_option maxRecDepth 100000 in
theorem all_n4 : chkN (tstN 4) 4 4 0 0 = true := by decide +kernel

set_option maxRecDepth 100000 in
theorem all_n5 : chkN (tstN 5) 5 5 0 0 = true := by decide +kernel

set_option maxRecDepth 100000 in
theorem all_n6 : chkN (tstN 6) 6 6 0 0 = true := by decide +kernel

set_option maxRecDepth 100000 in
theorem all_n7 : chkN (tstN 7) 7 7 0 0 = true := by decide +kernel

end Go.Proofs.Ythelncibpoijoaa
