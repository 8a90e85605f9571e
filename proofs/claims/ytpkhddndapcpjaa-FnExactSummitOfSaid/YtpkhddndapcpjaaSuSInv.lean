/- The model: the inverse of a normal form. -/
import Derived.Test.YtpkhddndapcpjaaSuSFit
import Derived.Test.YtpkhddndapcpjaaSuSMk0
import Derived.Test.YtpkhddndapcpjaaSuKit15
import Derived.Test.YtpkhddndapcpjaaSuSTrd
import Derived.Test.YtpkhddndapcpjaaSuIRows
import Derived.Test.YtpkhddndapcpjaaSuSB
import Derived.Deep.RegionHeld3
namespace Go.Proofs.Ytpkhddndapcpjaa
open Go.RowKit Go.ChangeShapes

theorem Nl.drop {n : Nat} {l : List (List Int)} (h : Nl n l) (k : Nat) : Nl n (l.drop k) :=
 ⟨fun x hx => h.sims x (List.mem_of_mem_drop hx), wl_drop h.wl k, fun x hx => h.n1 x (List.mem_of_mem_drop hx), fun x hx => h.nh x (List.mem_of_mem_drop hx)⟩

/-- Where the model's loop has come to. -/
structure AtInv (w wx : World) (m : Nat) (p : Int) (a : Option Addr) (n cap : Nat) (q : Int) (ao : Option Addr) (no co : Nat) (kf : List (List Int)) : Prop where
 box : At3 wx w.heap.size (.int .i64 m) (.int .i64 p) (.slice a n cap)
 res : At3 wx (w.heap.size + 1) (.int .i64 0) (.int .i64 0) (.slice none 0 0)
 out : At3 wx (w.heap.size + 1 + 1) (.int .i64 m) (.int .i64 q) (.slice ao no co)
 own : OwnA (w.heap.size + 1 + 1 + 1) wx ao no co kf
 bel : Below w.heap.size w wx
 size : w.heap.size + 1 + 1 + 1 ≤ wx.heap.size

theorem AtInv.drew {w wx : World} {m : Nat} {p : Int} {a : Option Addr} {n cap : Nat} {q : Int} {ao : Option Addr} {no co : Nat} {kf : List (List Int)} (h : AtInv w wx m p a n cap q ao no co kf) : AtInv w wx.drew m p a n cap q ao no co kf :=
 ⟨h.box, h.res, h.out, h.own, h.bel.drew, h.size⟩

end Go.Proofs.Ytpkhddndapcpjaa

