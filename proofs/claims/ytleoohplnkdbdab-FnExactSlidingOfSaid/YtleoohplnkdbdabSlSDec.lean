/- The model: decycling. -/
import Derived.Test.YtleoohplnkdbdabSlIDec
import Derived.Test.YtleoohplnkdbdabSlSCyc
namespace Go.Proofs.Ytleoohplnkdbdab
open Go.RowKit Go.ChangeShapes

theorem OwnAV.one (w : World) (r : List Int) (h : r.length = 8) : OwnAV w.heap.size (w.alloc (.cells #[.int .u8 (at8 r 0), .int .u8 (at8 r 1), .int .u8 (at8 r 2), .int .u8 (at8 r 3), .int .u8 (at8 r 4), .int .u8 (at8 r 5), .int .u8 (at8 r 6), .int .u8 (at8 r 7)] 54)) (.slice (some ⟨w.heap.size, 0, none⟩) 1 1) 1 [r] := by
 have := World.ownsRow_lit (base := w.heap.size) (size := 8) (e := 54) w #[.int .u8 (at8 r 0), .int .u8 (at8 r 1), .int .u8 (at8 r 2), .int .u8 (at8 r 3), .int .u8 (at8 r 4), .int .u8 (at8 r 5), .int .u8 (at8 r 6), .int .u8 (at8 r 7)] 1 (Nat.le_refl _) (by unfold maxLen; omega) rfl
 exact ⟨(fun x hx => by simp at hx; rw [hx]; exact h), this⟩

end Go.Proofs.Ytleoohplnkdbdab

