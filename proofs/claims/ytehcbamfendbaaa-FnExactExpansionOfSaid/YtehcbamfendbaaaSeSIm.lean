/- What a letter puts for a generator: the model. -/
import Derived.Test.YtehcbamfendbaaaSeActP
import Derived.Test.YtehcbamfendbaaaSeIs2
import Derived.Test.YtehcbamfendbaaaSeQA
import Derived.RangeFuncBox
namespace Go.Proofs.Ytehcbamfendbaaa
open Go.RowKit Go.ChangeShapes

/-- A slice of numbers that is written out. -/
theorem own_lit (w : World) (xs : List Int) (hx : xs.length ≤ maxLen) : Own w.heap.size (w.alloc (.cells (xs.map (Value.int .i64)).toArray 2)) (some ⟨w.heap.size, 0, none⟩) xs.length xs.length xs := by
 refine ⟨by simp, .inr ⟨w.heap.size, _, _, rfl, Nat.le_refl _, World.alloc_heap_new w _, Nat.le_refl _, hx, by simp, ?_⟩⟩
 exact List.take_of_length_le (by simp)

end Go.Proofs.Ytehcbamfendbaaa

