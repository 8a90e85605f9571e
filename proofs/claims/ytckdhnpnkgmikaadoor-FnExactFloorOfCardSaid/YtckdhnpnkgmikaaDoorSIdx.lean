/- Handles: the model's index of a letter. -/
import Derived.Test.YtckdhnpnkgmikaaDoorIs
import Derived.Test.YtckdhnpnkgmikaaDoorHandP
import Derived.Test.YtckdhnpnkgmikaaDoorKit3
namespace Go.Proofs.YtckdhnpnkgmikaaDoor
open Go.RowKit Go.ChangeShapes

theorem l06Index_any (x : Int) (w : World) (h1 : -1000 < x) (h2 : x < 1000) :
    Calls Tryd.prog 64 #[.int .i64 x] w fun e w' => e = .returned (.int .i64 (idx x)) ∧ w = w' := by
  by_cases h : x < -x
  · have hi : idx x = -x := by unfold idx; split <;> omega
    have HI := Lib.hid hi; clear hi
    go_enter Tryd.func64, Tryd.ntmps64
    go_wp2
    go_ret
    exact ⟨ret_int HI.out.symm, rfl⟩
  · have hi : idx x = x := by unfold idx; split <;> omega
    have HI := Lib.hid hi; clear hi
    go_enter Tryd.func64, Tryd.ntmps64
    go_wp2
    go_ret
    exact ⟨ret_int HI.out.symm, rfl⟩

end Go.Proofs.YtckdhnpnkgmikaaDoor
