/- The program: is it a normal form? Continued. -/
import Derived.Test.YteffndmifogicaaNfIWgh
import Derived.Test.YteffndmifogicaaNfMC
import Derived.Deep.RegionHeld3
import Derived.Deep.LoopGhost
import Derived.Deep.DeepCutAuto
import Derived.IntWalk
namespace Go.Proofs.Yteffndmifogicaa
open Go.RowKit Go.ChangeShapes

/-- Where the program's loop over the factors has come to. -/
structure AtFac (w wr : World) (m : Nat) (p : Int) (a : Option Addr) (n cap : Nat) : Prop where
 box : At3 wr w.heap.size (.int .i64 m) (.int .i64 p) (.slice a n cap)
 bel : Below w.heap.size w wr

theorem AtFac.below {w wr W : World} {m : Nat} {p : Int} {a : Option Addr} {n cap : Nat} (h : AtFac w wr m p a n cap) (hb : Below wr.heap.size wr W) : AtFac w W m p a n cap := ⟨h.box.below hb, below_go h.bel hb h.bel.size⟩
theorem AtFac.alloc {w wr : World} {m : Nat} {p : Int} {a : Option Addr} {n cap : Nat} (h : AtFac w wr m p a n cap) (o : Obj) : AtFac w (wr.alloc o) m p a n cap := h.below ((Below.refl _ _).alloc (Nat.le_refl _) o)
theorem AtFac.drew {w wr : World} {m : Nat} {p : Int} {a : Option Addr} {n cap : Nat} (h : AtFac w wr m p a n cap) : AtFac w wr.drew m p a n cap := h.below (Below.refl _ _).drew

end Go.Proofs.Yteffndmifogicaa

