/- Is a braid pure: the model's answer. -/
import Derived.Test.YtmlejlediflaaaaEnds
import Derived.Test.YtmlejlediflaaaaQA
import Derived.Test.YtmlejlediflaaaaPureP
import Derived.Test.YtmlejlediflaaaaIIs
import Derived.Deep.RegionHeld3
namespace Go.Proofs.Ytmlejlediflaaaa
open Go.RowKit Go.ChangeShapes

/-- Two arrays of eight bytes are compared. -/
theorem equal8b (l m : List Int) (hl : l.length = 8) (hm : m.length = 8) (w : World) :
    Sem.run Try.prog (Op.equalIn 10000 91 (arr8 .u8 l) (arr8 .u8 m)) w = .ok (decide (l = m)) w := by
  obtain ⟨i0, hi, hz0, hz1, hz2⟩ := info_parts infoByte
  have hu : Try.prog.underlying 91 = some (.array 8 5) := by kernel_rfl
  have hc : Try.prog.cellsOf 5 = 1 := by kernel_rfl
  refine (run_equalIn_array w 9999 (cells8 .u8 l) (cells8 .u8 m) hu hi).trans ?_
  rw [hc, eqItems8 9998 l m w _ (fun j hj => List.mem_range.1 hj), all8_eq l m hl hm]

end Go.Proofs.Ytmlejlediflaaaa
