/- Crossings of pairs of strands: the exported function of the model. -/
import Derived.Test.YtmlejlediflaaaaSCro
namespace Go.Proofs.Ytmlejlediflaaaa
open Go.RowKit Go.ChangeShapes Go.Great

theorem blk_kept {w w1 : World} {g : Nat} {t : TypeId} {l : List Int} {v : Value} (h : Blk w g t l) (hg : w.grownBy w1 v.ownBlock) (hn : v.ownBlock ≠ some g) : Blk w1 g t l :=
  h.heap (hg.block g h.lt (fun e => hn e.symm))

end Go.Proofs.Ytmlejlediflaaaa
