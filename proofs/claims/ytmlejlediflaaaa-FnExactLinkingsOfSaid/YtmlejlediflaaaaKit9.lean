/- A whole array out of its block and into it, as operations of a region that does not draw. No function of the program is spoken of. -/
import Derived.Test.YtmlejlediflaaaaKit8
import Derived.Deep.MidRow
import Derived.Laws.CopyOwn
namespace Go.Proofs.Ytmlejlediflaaaa
open Go.RowKit
variable {P : Program}

theorem wpList_load_blk {ops : Array Oper} {rest : List Oper} {op : Oper} {a : Act} {w : World} {Q : Exit → Act → World → Prop} (hgd : op.guard = none) (ty : TypeId) (x : Operand) (ho : op.op = .load ty x)
    (g : Nat) {t : TypeId} {l : List Int} (hx : a.eval x = .pointer (some ⟨g, 0, none⟩)) (h : Blk w g t l) (d : TypeDesc) (hu : P.underlying ty = some d) (hd : d.isRow = true) (hi : (P.info? ty).map (·.size) = some l.length)
    (k : wpList P ops Q rest (a.put op.dst (.agg (cells l))) w) : wpList P ops Q (op :: rest) a w := by
  refine wpList_load_mid hgd ty x ho g 0 hx (l.map (Value.int .i64)) d ?_ hu hd (by rw [List.length_map]; exact hi) k
  intro j v hj
  have hlt : j < l.length := by
    have := (List.getElem?_eq_some_iff.1 hj).1
    simpa using this
  rw [Nat.zero_add, h.cell j hlt]
  rw [List.getElem?_map, List.getElem?_eq_getElem hlt] at hj
  simp only [Option.map_some, Option.some.injEq] at hj
  rw [← hj]
  simp [at8, List.getD, hlt]

theorem wpList_store_blk {ops : Array Oper} {rest : List Oper} {op : Oper} {a : Act} {w : World} {Q : Exit → Act → World → Prop} (hgd : op.guard = none) (ty : TypeId) (x y : Operand) (ho : op.op = .store ty x y)
    (g : Nat) {t : TypeId} {l m : List Int} (hx : a.eval x = .pointer (some ⟨g, 0, none⟩)) (hy : a.eval y = .agg (cells m)) (h : Blk w g t l) (hm : m.length = l.length) (hi : (P.info? ty).map (·.size) = some l.length)
    (k : Blk (w.setRow g (cells m)) g t m → wpList P ops Q rest (a.put op.dst undef) (w.setRow g (cells m))) : wpList P ops Q (op :: rest) a w := by
  have ht : w.there g 0 (cells m).size := by
    intro j hj
    rw [cells_size, hm] at hj
    rw [Nat.zero_add, h.cell j hj]
    exact ⟨rfl, h.free j⟩
  have hi2 : (P.info? ty).map (·.size) = some (cells m).size := by rw [cells_size, hm]; exact hi
  have e := (h.storeAt m hm ty hi).symm.trans (run_storeAt_mid w g 0 ty (cells m) ht hi2 (cells_one m))
  simp only [Result.ok.injEq, true_and] at e
  refine wpList_store_mid hgd ty x y ho g 0 (cells m) hx hy ht hi2 (cells_one m) ?_
  rw [← e]
  exact k (h.fill m hm ty hi).2

end Go.Proofs.Ytmlejlediflaaaa
