/- Where the strands end: the program's answer. -/
import Derived.Test.YtmlejlediflaaaaEnds
import Derived.Test.YtmlejlediflaaaaCross
namespace Go.Proofs.Ytmlejlediflaaaa
open Go.RowKit Go.ChangeShapes

theorem idx_cnt (x : Int) : x * cnt x = idxN x := by
  rw [idx_eq]
  unfold idxN
  split <;> omega

/-- A row of eight numbers, cut to its first k. -/
theorem slice_order (g k : Nat) (h : k ≤ 8) (w : World) :
    Sem.run Try.prog (Instr.sliceAt 117 (.pointer (some ⟨g, 0, none⟩)) none (some (.int .i64 (k : Int))) none) w = .ok (.slice (some ⟨g, 0, none⟩) k 8) w := by
  have hl : Try.prog.arrayLen 117 = 8 := by kernel_rfl
  have hz : (sizeOf (Try.prog.elem 117)).run Try.prog w = .ok 1 w := by kernel_rfl
  have ht : Try.prog.underlying 117 = some (.array (Try.prog.arrayLen 117) (Try.prog.elem 117)) := by kernel_rfl
  refine (run_sliceAt_array_h w _ _ ht .i64 k (by omega) (by rw [hl]; omega)).trans ?_
  rw [hz, hl]
  simp [slicedAt, Result.andThen, Addr.add]

end Go.Proofs.Ytmlejlediflaaaa
