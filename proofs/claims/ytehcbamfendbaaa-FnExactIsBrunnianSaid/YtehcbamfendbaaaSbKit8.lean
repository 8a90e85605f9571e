/- Predicates on memory, continued: a local array of many numbers, held as one block. No function of the program is spoken of. -/
import Derived.Test.YtehcbamfendbaaaSbQA
import Derived.Deep.WholeRow
namespace Go.Proofs.Ytehcbamfendbaaa
open Go.RowKit

/-- The cells of a list of numbers. -/
def cells (l : List Int) : Array Value := (l.map (Value.int .i64)).toArray

/-- The block g is an array of the type t that holds the numbers l. -/
def Blk (w : World) (g : Nat) (t : TypeId) (l : List Int) : Prop := w.heap[g]? = some (.cells (cells l) t (0, 0))

theorem cells_size (l : List Int) : (cells l).size = l.length := by simp [cells]

theorem cells_one (l : List Int) : (cells l).all (·.oneCell') = true := by
 rw [Array.all_eq_true_iff_forall_mem]
 intro v hv
 simp only [cells, List.mem_toArray, List.mem_map] at hv
 obtain ⟨x, _, rfl⟩ := hv
 rfl

theorem Blk.lt {w : World} {g : Nat} {t : TypeId} {l : List Int} (h : Blk w g t l) : g < w.heap.size := (Array.getElem?_eq_some_iff.1 h).1

theorem Blk.cell {w : World} {g : Nat} {t : TypeId} {l : List Int} (h : Blk w g t l) (j : Nat) (hj : j < l.length) : w.cell? ⟨g, j, none⟩ = some (.int .i64 (at8 l j)) := by
 rw [cell_of_row w g j _ t _ h]
 simp [cells, at8, List.getD, hj]

theorem Blk.free {w : World} {g : Nat} {t : TypeId} {l : List Int} (h : Blk w g t l) (j : Nat) : w.frozen? ⟨g, j, none⟩ = false := by
 unfold Blk at h
 simp [World.frozen?, h]

theorem Blk.heap {w w' : World} {g : Nat} {t : TypeId} {l : List Int} (h : Blk w g t l) (hb : w'.heap[g]? = w.heap[g]?) : Blk w' g t l := hb.trans h

theorem Blk.below {w w' : World} {g : Nat} {t : TypeId} {l : List Int} (h : Blk w g t l) (b : Below w.heap.size w w') : Blk w' g t l := h.heap (b.block g h.lt)
theorem Blk.alloc {w : World} {g : Nat} {t : TypeId} {l : List Int} (h : Blk w g t l) (o : Obj) : Blk (w.alloc o) g t l := h.below ((Below.refl _ _).alloc (Nat.le_refl _) o)
theorem Blk.drew {w : World} {g : Nat} {t : TypeId} {l : List Int} (h : Blk w g t l) : Blk w.drew g t l := h
theorem Blk.setCell {w : World} {g : Nat} {t : TypeId} {l : List Int} (h : Blk w g t l) {p : Addr} (hp : p.block ≠ g) (x : Value) : Blk (w.setCell p x) g t l := h.heap (Below.heap_setCell _ _ _ _ (fun e => hp e.symm))
theorem Blk.place (w : World) (l : List Int) (t : TypeId) (g : Nat) (hg : w.heap.size = g) : Blk (w.alloc (.cells (cells l) t)) g t l := by
 subst hg
 exact heap_alloc_last w _

/-- A store of one number. -/
theorem Blk.store {w : World} {g : Nat} {t : TypeId} {l : List Int} (h : Blk w g t l) (i : Nat) (x : Int) : Blk (w.setCell ⟨g, i, none⟩ (.int .i64 x)) g t (l.set i x) := by
 unfold Blk at h ⊢
 simp only [World.setCell, Array.getElem?_modify, if_true, h, Option.map_some]
 simp [cells]

/-- The same, as a walk leaves it. -/
theorem Blk.loadCells {P : Program} {w : World} {g : Nat} {t : TypeId} {l : List Int} (h : Blk w g t l) (n : Nat) (hn : l.length = n) :
  (loadCellsFrom ⟨g, 0, none⟩ 0 n #[]).run P w = .ok (cells l) w := by
 subst hn
 have := run_loadCells_list (P := P) w ⟨g, 0, none⟩ (l.map (Value.int .i64)) (fun j v hv => by
  have hadd : (⟨g, 0, none⟩ : Addr).add j = ⟨g, j, none⟩ := by unfold Addr.add; split <;> simp_all
  rw [hadd, cell_of_row w g j _ t _ h]
  simpa [cells] using hv)
 rw [List.length_map] at this
 exact this

theorem Blk.storeCells {P : Program} {w : World} {g : Nat} {t : TypeId} {l : List Int} (h : Blk w g t l) (m : List Int) (hm : m.length = l.length) :
  (storeCells ⟨g, 0, none⟩ (cells m).toList 0).run P w = .ok () (w.setRow g (cells m)) ∧ Blk (w.setRow g (cells m)) g t m := by
 have := run_storeCells_from (P := P) g t (cells m).toList 0 (cells l) w h (by simp [cells, hm]) (fun v hv => (Array.all_eq_true_iff_forall_mem.1 (cells_one m)) v (by simpa using hv))
 refine ⟨by simpa using this, ?_⟩
 unfold Blk at h ⊢
 simp only [World.setRow, Array.getElem?_modify, if_true, h, Option.map_some]

/-- The whole array out of its block, and into it. -/
theorem Blk.load {P : Program} {w : World} {g : Nat} {t : TypeId} {l : List Int} (h : Blk w g t l) (ty : TypeId) (d : TypeDesc) (hu : P.underlying ty = some d) (hd : (match d with | .struct _ | .array _ _ => true | _ => false) = true) (hi : (P.info? ty).map (·.size) = some l.length) :
  (loadVar ty ⟨g, 0, none⟩).run P w = .ok (.agg (cells l)) w :=
 run_loadVar_row w g t ty (cells l) (0, 0) d h hu hd (by rw [cells_size]; exact hi)

theorem Blk.fill {P : Program} {w : World} {g : Nat} {t : TypeId} {l : List Int} (h : Blk w g t l) (m : List Int) (hm : m.length = l.length) (ty : TypeId) (hi : (P.info? ty).map (·.size) = some l.length) :
  (storeVar ty ⟨g, 0, none⟩ (.agg (cells m))).run P w = .ok () (w.setRow g (cells m)) ∧ Blk (w.setRow g (cells m)) g t m := by
 refine ⟨run_storeVar_row w g t ty (cells l) (cells m) h (by rw [cells_size, hm]; exact hi) (by rw [cells_size, cells_size, hm]) (cells_one m), ?_⟩
 unfold Blk at h ⊢
 simp only [World.setRow, Array.getElem?_modify, if_true, h, Option.map_some]

theorem Blk.storeAt {P : Program} {w : World} {g : Nat} {t : TypeId} {l : List Int} (h : Blk w g t l) (m : List Int) (hm : m.length = l.length) (ty : TypeId) (hi : (P.info? ty).map (·.size) = some l.length) :
  (Instr.storeAt ty (.pointer (some ⟨g, 0, none⟩)) (.agg (cells m))).run P w = .ok () (w.setRow g (cells m)) := by
 simp only [Instr.storeAt, Instr.sureAddr, Sem.run_bind, Sem.run_pure, Result.andThen]
 exact (h.fill m hm ty hi).1

end Go.Proofs.Ytehcbamfendbaaa

