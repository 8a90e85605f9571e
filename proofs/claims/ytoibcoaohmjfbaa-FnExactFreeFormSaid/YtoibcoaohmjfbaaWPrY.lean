/- Pairs are taken away: the program, over numbers. -/
import Derived.Test.YtoibcoaohmjfbaaWPr
namespace Go.Proofs.Ytoibcoaohmjfbaa
open Go.RowKit Go.Shelf Go.ChangeShapes

theorem withoutPairs_ys {gf : Nat} {lb : Array Value} {zs : List Sm} {ys : List Int} (w : World) (hs : SeqI w.heap.size gf lb zs w) (hlen : zs.length ≤ 1048576) (hz : zs.map (·.1) = ys) (q : Nat) (hq : q = (joinF [] ys).length) :
    Calls Try.prog 76 #[.func (.func gf) #[] lb] w (MadeInts w q (joinF [] ys)) := by
  subst hz; subst hq
  exact withoutPairs_any w hs hlen

end Go.Proofs.Ytoibcoaohmjfbaa
