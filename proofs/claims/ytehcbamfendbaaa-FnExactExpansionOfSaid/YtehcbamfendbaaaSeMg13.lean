/- Merged texts. -/
import Derived.Test.YtehcbamfendbaaaSeQA
import Derived.Deep.WholeRow
import Derived.Deep.MidRow
import Derived.Laws.CopyOwn
import Derived.Test.YtehcbamfendbaaaSeTable

/- Predicates on memory, continued: a local array of many numbers, held as one block. No function of the program is spoken of. -/
namespace Go.Proofs.Ytehcbamfendbaaa
open Go.RowKit

/-- The cells of a list of numbers. -/
def cells (l : List Int) : Array Value := (l.map (Value.int .i64)).toArray

/-- The block g is an array of the type t that holds the numbers l. -/
def Blk (w : World) (g : Nat) (t : TypeId) (l : List Int) : Prop := w.heap[g]? = some (.cells (cells l) t (0, 0))

theorem cells_size (l : List Int) : (cells l).size = l.length := by simp [cells]

theorem cells_one (l : List Int) : (cells l).all (·.oneCell') = true := by
 rw [Array.all_eq_true_iff_forall_mem]
 intro v hv
 simp only [cells, List.mem_toArray, List.mem_map] at hv
 obtain ⟨x, _, rfl⟩ := hv
 rfl

theorem Blk.lt {w : World} {g : Nat} {t : TypeId} {l : List Int} (h : Blk w g t l) : g < w.heap.size := (Array.getElem?_eq_some_iff.1 h).1

theorem Blk.cell {w : World} {g : Nat} {t : TypeId} {l : List Int} (h : Blk w g t l) (j : Nat) (hj : j < l.length) : w.cell? ⟨g, j, none⟩ = some (.int .i64 (at8 l j)) := by
 rw [cell_of_row w g j _ t _ h]
 simp [cells, at8, List.getD, hj]

theorem Blk.free {w : World} {g : Nat} {t : TypeId} {l : List Int} (h : Blk w g t l) (j : Nat) : w.frozen? ⟨g, j, none⟩ = false := by
 unfold Blk at h
 simp [World.frozen?, h]

theorem Blk.heap {w w' : World} {g : Nat} {t : TypeId} {l : List Int} (h : Blk w g t l) (hb : w'.heap[g]? = w.heap[g]?) : Blk w' g t l := hb.trans h

theorem Blk.below {w w' : World} {g : Nat} {t : TypeId} {l : List Int} (h : Blk w g t l) (b : Below w.heap.size w w') : Blk w' g t l := h.heap (b.block g h.lt)
theorem Blk.alloc {w : World} {g : Nat} {t : TypeId} {l : List Int} (h : Blk w g t l) (o : Obj) : Blk (w.alloc o) g t l := h.below ((Below.refl _ _).alloc (Nat.le_refl _) o)
theorem Blk.drew {w : World} {g : Nat} {t : TypeId} {l : List Int} (h : Blk w g t l) : Blk w.drew g t l := h
theorem Blk.setCell {w : World} {g : Nat} {t : TypeId} {l : List Int} (h : Blk w g t l) {p : Addr} (hp : p.block ≠ g) (x : Value) : Blk (w.setCell p x) g t l := h.heap (Below.heap_setCell _ _ _ _ (fun e => hp e.symm))
theorem Blk.place (w : World) (l : List Int) (t : TypeId) (g : Nat) (hg : w.heap.size = g) : Blk (w.alloc (.cells (cells l) t)) g t l := by
 subst hg
 exact heap_alloc_last w _

/-- A store of one number. -/
theorem Blk.store {w : World} {g : Nat} {t : TypeId} {l : List Int} (h : Blk w g t l) (i : Nat) (x : Int) : Blk (w.setCell ⟨g, i, none⟩ (.int .i64 x)) g t (l.set i x) := by
 unfold Blk at h ⊢
 simp only [World.setCell, Array.getElem?_modify, if_true, h, Option.map_some]
 simp [cells]

/-- The same, as a walk leaves it. -/
theorem Blk.loadCells {P : Program} {w : World} {g : Nat} {t : TypeId} {l : List Int} (h : Blk w g t l) (n : Nat) (hn : l.length = n) :
  (loadCellsFrom ⟨g, 0, none⟩ 0 n #[]).run P w = .ok (cells l) w := by
 subst hn
 have := run_loadCells_list (P := P) w ⟨g, 0, none⟩ (l.map (Value.int .i64)) (fun j v hv => by
  have hadd : (⟨g, 0, none⟩ : Addr).add j = ⟨g, j, none⟩ := by unfold Addr.add; split <;> simp_all
  rw [hadd, cell_of_row w g j _ t _ h]
  simpa [cells] using hv)
 rw [List.length_map] at this
 exact this

theorem Blk.storeCells {P : Program} {w : World} {g : Nat} {t : TypeId} {l : List Int} (h : Blk w g t l) (m : List Int) (hm : m.length = l.length) :
  (storeCells ⟨g, 0, none⟩ (cells m).toList 0).run P w = .ok () (w.setRow g (cells m)) ∧ Blk (w.setRow g (cells m)) g t m := by
 have := run_storeCells_from (P := P) g t (cells m).toList 0 (cells l) w h (by simp [cells, hm]) (fun v hv => (Array.all_eq_true_iff_forall_mem.1 (cells_one m)) v (by simpa using hv))
 refine ⟨by simpa using this, ?_⟩
 unfold Blk at h ⊢
 simp only [World.setRow, Array.getElem?_modify, if_true, h, Option.map_some]

/-- The whole array out of its block, and into it. -/
theorem Blk.load {P : Program} {w : World} {g : Nat} {t : TypeId} {l : List Int} (h : Blk w g t l) (ty : TypeId) (d : TypeDesc) (hu : P.underlying ty = some d) (hd : (match d with | .struct _ | .array _ _ => true | _ => false) = true) (hi : (P.info? ty).map (·.size) = some l.length) :
  (loadVar ty ⟨g, 0, none⟩).run P w = .ok (.agg (cells l)) w :=
 run_loadVar_row w g t ty (cells l) (0, 0) d h hu hd (by rw [cells_size]; exact hi)

theorem Blk.fill {P : Program} {w : World} {g : Nat} {t : TypeId} {l : List Int} (h : Blk w g t l) (m : List Int) (hm : m.length = l.length) (ty : TypeId) (hi : (P.info? ty).map (·.size) = some l.length) :
  (storeVar ty ⟨g, 0, none⟩ (.agg (cells m))).run P w = .ok () (w.setRow g (cells m)) ∧ Blk (w.setRow g (cells m)) g t m := by
 refine ⟨run_storeVar_row w g t ty (cells l) (cells m) h (by rw [cells_size, hm]; exact hi) (by rw [cells_size, cells_size, hm]) (cells_one m), ?_⟩
 unfold Blk at h ⊢
 simp only [World.setRow, Array.getElem?_modify, if_true, h, Option.map_some]

theorem Blk.storeAt {P : Program} {w : World} {g : Nat} {t : TypeId} {l : List Int} (h : Blk w g t l) (m : List Int) (hm : m.length = l.length) (ty : TypeId) (hi : (P.info? ty).map (·.size) = some l.length) :
  (Instr.storeAt ty (.pointer (some ⟨g, 0, none⟩)) (.agg (cells m))).run P w = .ok () (w.setRow g (cells m)) := by
 simp only [Instr.storeAt, Instr.sureAddr, Sem.run_bind, Sem.run_pure, Result.andThen]
 exact (h.fill m hm ty hi).1

end Go.Proofs.Ytehcbamfendbaaa

/- Merged texts. -/

/- A whole array out of its block and into it, as operations of a region that does not draw. No function of the program is spoken of. -/
namespace Go.Proofs.Ytehcbamfendbaaa
open Go.RowKit
variable {P : Program}

theorem wpList_load_blk {ops : Array Oper} {rest : List Oper} {op : Oper} {a : Act} {w : World} {Q : Exit → Act → World → Prop} (hgd : op.guard = none) (ty : TypeId) (x : Operand) (ho : op.op = .load ty x)
  (g : Nat) {t : TypeId} {l : List Int} (hx : a.eval x = .pointer (some ⟨g, 0, none⟩)) (h : Blk w g t l) (d : TypeDesc) (hu : P.underlying ty = some d) (hd : d.isRow = true) (hi : (P.info? ty).map (·.size) = some l.length)
  (k : wpList P ops Q rest (a.put op.dst (.agg (cells l))) w) : wpList P ops Q (op :: rest) a w := by
 refine wpList_load_mid hgd ty x ho g 0 hx (l.map (Value.int .i64)) d ?_ hu hd (by rw [List.length_map]; exact hi) k
 intro j v hj
 have hlt : j < l.length := by
  have := (List.getElem?_eq_some_iff.1 hj).1
  simpa using this
 rw [Nat.zero_add, h.cell j hlt]
 rw [List.getElem?_map, List.getElem?_eq_getElem hlt] at hj
 simp only [Option.map_some, Option.some.injEq] at hj
 rw [← hj]
 simp [at8, List.getD, hlt]

theorem wpList_store_blk {ops : Array Oper} {rest : List Oper} {op : Oper} {a : Act} {w : World} {Q : Exit → Act → World → Prop} (hgd : op.guard = none) (ty : TypeId) (x y : Operand) (ho : op.op = .store ty x y)
  (g : Nat) {t : TypeId} {l m : List Int} (hx : a.eval x = .pointer (some ⟨g, 0, none⟩)) (hy : a.eval y = .agg (cells m)) (h : Blk w g t l) (hm : m.length = l.length) (hi : (P.info? ty).map (·.size) = some l.length)
  (k : Blk (w.setRow g (cells m)) g t m → wpList P ops Q rest (a.put op.dst undef) (w.setRow g (cells m))) : wpList P ops Q (op :: rest) a w := by
 have ht : w.there g 0 (cells m).size := by
  intro j hj
  rw [cells_size, hm] at hj
  rw [Nat.zero_add, h.cell j hj]
  exact ⟨rfl, h.free j⟩
 have hi2 : (P.info? ty).map (·.size) = some (cells m).size := by rw [cells_size, hm]; exact hi
 have e := (h.storeAt m hm ty hi).symm.trans (run_storeAt_mid w g 0 ty (cells m) ht hi2 (cells_one m))
 simp only [Result.ok.injEq, true_and] at e
 refine wpList_store_mid hgd ty x y ho g 0 (cells m) hx hy ht hi2 (cells_one m) ?_
 rw [← e]
 exact k (h.fill m hm ty hi).2

end Go.Proofs.Ytehcbamfendbaaa

/- The program's table of parities. -/
namespace Go.Proofs.Ytehcbamfendbaaa
open Go.RowKit Go.ChangeShapes

/-- The parities of the first k numbers. -/
def evens (l : List Int) (k : Nat) : List Int := (l.take k).map (· % 2) ++ l.drop k

theorem evens_len (l : List Int) (k : Nat) : (evens l k).length = l.length := by
 simp [evens]
 omega

theorem and_one (v : Int) : bits .and .i64 v 1 = v % 2 := by
 have h : ((BitVec.ofInt 64 v) &&& (BitVec.ofInt 64 1)).toNat = (v % 2).toNat := by
  rw [BitVec.toNat_and, BitVec.toNat_ofInt, show (BitVec.ofInt 64 1).toNat = 1 by decide, Nat.and_one_is_mod]
  omega
 show IntKind.i64.wrap (((BitVec.ofInt 64 v) &&& (BitVec.ofInt 64 1)).toNat : Int) = _
 rw [h]
 rw [IntWalk.i64_in _ (by omega)]
 omega

theorem evens_at (l : List Int) (k : Nat) (h : k < l.length) : at8 (evens l k) k = at8 l k := by
 unfold evens at8
 simp [List.getD, List.getElem?_append, h, Nat.min_eq_left (Nat.le_of_lt h)]

theorem evens_step (l : List Int) (k : Nat) (h : k < l.length) : (evens l k).set k (at8 l k % 2) = evens l (k + 1) := by
 unfold evens at8
 rw [List.set_append, if_neg (by simp; omega), take_snoc l k h]
 simp only [List.length_map, List.length_take, Nat.min_eq_left (Nat.le_of_lt h), Nat.sub_self, List.map_append, List.map_cons, List.map_nil, List.append_assoc, List.cons_append, List.nil_append]
 rw [List.drop_eq_getElem_cons h]
 rfl

/-- The parities of all. -/
theorem evens_all (l : List Int) : evens l l.length = l.map (· % 2) := by simp [evens]

set_option maxRecDepth 100000 in
set_option maxHeartbeats 4000000 in
theorem parities_any (l : List Int) (hl : l.length = 64) (w : World) :
  Calls Try.prog 136 #[.agg (cells l)] w fun e w' => e = .returned (.agg (cells (evens l 64))) ∧ Below w.heap.size w w' := by
 go_enter Try.func136, Try.ntmps136
 have R0 := Lib.hid ((Blk.place w l 70 w.heap.size rfl).alloc (.cells (cells (List.replicate 64 0)) 70))
 have R1 := Lib.hid (Blk.place (w.alloc (.cells (cells l) 70)) (List.replicate 64 0) 70 (w.heap.size + 1) (by simp))
 have BB := Lib.hid (below2 w (.cells (cells l) 70) (.cells (cells (List.replicate 64 0)) 70))
 go_wp2
 go_loopw [5] (fun i wr => ∃ k : Nat, k ≤ 8 ∧ i = .int .i64 k ∧ Blk wr w.heap.size 70 (evens l (8 * k)) ∧ Blk wr (w.heap.size + 1) 70 (List.replicate 64 0) ∧ Below w.heap.size w wr) (fun i _ => 8 - (intOf i).toNat)
 case atStart => exact ⟨0, Nat.zero_le _, rfl, R0.out, R1.out, BB.out⟩
 case round =>
  obtain ⟨k, hk, rfl, r0, r1, bb⟩ := hrel
  clear R0 R1 BB
  have R0 := Lib.hid r0
  have R1 := Lib.hid r1
  have BB := Lib.hid bb
  clear r0 r1 bb
  by_cases hlt : k < 8
  ·go_wp2
   go_loopw [8] (fun i wr => ∃ j : Nat, j ≤ 8 ∧ i = .int .i64 j ∧ Blk wr w.heap.size 70 (evens l (8 * k + j)) ∧ Blk wr (w.heap.size + 1) 70 (List.replicate 64 0) ∧ Below w.heap.size w wr) (fun i _ => 8 - (intOf i).toNat)
   case atStart => exact ⟨0, Nat.zero_le _, rfl, R0.out, R1.out, BB.out⟩
   case round =>
    obtain ⟨j, hj, rfl, r0, r1, bb⟩ := hrel
    clear R0 R1 BB
    have R0 := Lib.hid r0
    have R1 := Lib.hid r1
    have BB := Lib.hid bb
    clear r0 r1 bb
    by_cases hlt2 : j < 8
    ·have f1 := R0.out.free (k * 8 + j)
     have c1 := R0.out.cell (k * 8 + j) (by rw [evens_len]; omega)
     have z1 := R0.out.lt
     have st := evens_step l (k * 8 + j) (by omega)
     rw [show 8 * k + j = k * 8 + j by omega, evens_at l (k * 8 + j) (by omega)] at c1
     rw [show 8 * k + j = k * 8 + j by omega] at R0
     obtain ⟨v, hv⟩ : ∃ v, v = at8 l (k * 8 + j) := ⟨_, rfl⟩
     rw [← hv] at c1 st
     have AO := Lib.hid (and_one v)
     have ST := Lib.hid st
     clear hv st
     go_wp2
     go_region
     go_wp2
     rw [AO.out]
     go_round
     case rel =>
      refine ⟨j + 1, by omega, by go_num, ?_, R1.out.setCell (p := ⟨w.heap.size, k * 8 + j, none⟩) (by simp) _, (BB.out.setCell (p := ⟨w.heap.size, k * 8 + j, none⟩) (Nat.le_refl _) _).drew⟩
      rw [show 8 * k + (j + 1) = k * 8 + j + 1 by omega, ← ST.out]
      exact R0.out.store (k * 8 + j) (v % 2)
     case measure => simp [intOf]; omega
    ·have hj8 : j = 8 := by omega
     subst hj8
     go_wp2
     go_round
     case rel => exact ⟨k + 1, by omega, by go_num, R0.out, R1.out, BB.out⟩
     case measure => simp [intOf]; omega
  ·have hk8 : k = 8 := by omega
   subst hk8
   have r0 : Blk wr w.heap.size 70 (evens l 64) := R0.out
   rename (∀ (a : Act) (w : World), Code.wp _ _ _ a w → _) => tl
   have TL := Lib.hid tl
   clear tl
   go_wp2
   refine TL.out _ _ ?_
   refine wp_seq ?_
   refine wp_region_lit ?_
   refine wpList_load_blk rfl 70 _ rfl w.heap.size rfl r0 (.array 8 54) (by kernel_rfl) rfl (by rw [evens_len, hl]; kernel_rfl) ?_
   refine wpList_store_blk rfl 70 _ _ rfl (w.heap.size + 1) rfl rfl R1.out (by rw [evens_len, hl]; rfl) (by kernel_rfl) ?_
   intro hblk
   have HB := Lib.hid hblk
   clear hblk r0
   go_wp2
   have hld := HB.out.load (P := Try.prog) 70 (.array 8 54) (by kernel_rfl) rfl (by rw [evens_len, hl]; kernel_rfl)
   refine bodyPost_ret (v := .agg (cells (evens l 64))) ?_ rfl ⟨rfl, below_setRow BB.out (by omega) _⟩
   simp only [results, Try.results136]
   simp [asAddr, Act.put, hld]

end Go.Proofs.Ytehcbamfendbaaa
