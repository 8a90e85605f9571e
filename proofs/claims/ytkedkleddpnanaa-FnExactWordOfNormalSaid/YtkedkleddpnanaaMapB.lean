/- A map of arrays by arrays: ranging over it, at the operations. -/
import Derived.Test.YtkedkleddpnanaaMapA
import Derived.Test.YtkedkleddpnanaaSort
import Derived.Maps.RangeWalk
import Derived.Deep.WholeRow
namespace Go.Proofs.Ytkedkleddpnanaa
open Go.RowKit Go.ChangeShapes
open Go.ChangeMaps (setBlock)

/-- The block r ranges over the map b; the entries seen have come. -/
def IterA (w : World) (r b : Nat) (L : List (List Int × List Int)) (seen : Array Nat) : Prop := w.heap[r]? = some (.mapIter (some b) L.length seen L.length)

theorem IterA.lt {w : World} {r b : Nat} {L : List (List Int × List Int)} {seen : Array Nat} (h : IterA w r b L seen) : r < w.heap.size := (Array.getElem?_eq_some_iff.1 h).1
theorem IterA.heap {w w' : World} {r b : Nat} {L : List (List Int × List Int)} {seen : Array Nat} (h : IterA w r b L seen) (hb : w'.heap[r]? = w.heap[r]?) : IterA w' r b L seen := hb.trans h
theorem IterA.below {w w' : World} {r b : Nat} {L : List (List Int × List Int)} {seen : Array Nat} (h : IterA w r b L seen) (k : Below w.heap.size w w') : IterA w' r b L seen := h.heap (k.block r h.lt)
theorem IterA.alloc {w : World} {r b : Nat} {L : List (List Int × List Int)} {seen : Array Nat} (h : IterA w r b L seen) (o : Obj) : IterA (w.alloc o) r b L seen := h.below ((Below.refl _ _).alloc (Nat.le_refl _) o)

theorem setBlock_same {w : World} {b : Nat} (o : Obj) (hb : b < w.heap.size) : (setBlock w b o).heap[b]? = some o := by simp [setBlock, hb]
theorem setBlock_other {w : World} {b g : Nat} (o : Obj) (h : g ≠ b) : (setBlock w b o).heap[g]? = w.heap[g]? := by
  simp only [setBlock]
  rw [Array.getElem?_setIfInBounds_ne (by omega)]
theorem setBlock_size (w : World) (b : Nat) (o : Obj) : (setBlock w b o).heap.size = w.heap.size := by simp [setBlock]
theorem setBlock_wrote (w : World) (b : Nat) (o : Obj) : Wrote b (b + 1) w (setBlock w b o) := ⟨rfl, rfl, rfl, by rw [setBlock_size]; exact Nat.le_refl _, fun k _ hd => setBlock_other o (by omega)⟩

theorem run_range_a {w : World} {b : Nat} {L : List (List Int × List Int)} (h : MapA w b L) :
    (Instr.range 106 (.map (some b))).run Try.prog w = .ok (.pointer (some ⟨w.heap.size, 0, none⟩)) (w.alloc (.mapIter (some b) L.length #[] L.length)) := by
  have hu : ∀ w, (underlying 106).run Try.prog w = .ok (.map 26 26) w := fun _ => by kernel_rfl
  have h' : w.heap[b]? = some (.map (entsF 0 L).toArray L.length) := h
  simp [Instr.range, hu, MapKept.run_getObj_map h', Result.andThen]

theorem mem_ents {L : List (List Int × List Int)} {e : MapEntry} (he : e ∈ (entsF 0 L).toArray.toList) : ∃ i x, L[i]? = some x ∧ e = ent x i := by
  obtain ⟨j, hj⟩ := List.getElem?_of_mem he
  rw [List.toList_toArray, entsF_get] at hj
  cases hx : L[j]? with
  | none => rw [hx] at hj; cases hj
  | some x =>
    rw [hx] at hj
    simp only [Option.map_some, Option.some.injEq, Nat.zero_add] at hj
    exact ⟨j, x, hx, hj.symm⟩

theorem ents_mem {L : List (List Int × List Int)} {i : Nat} {x : List Int × List Int} (h : L[i]? = some x) : ent x i ∈ (entsF 0 L).toArray.toList := by
  rw [List.toList_toArray]
  refine List.mem_of_getElem? (i := i) ?_
  rw [entsF_get, h]
  simp

theorem ents_born (L : List (List Int × List Int)) (i : Nat) : ((entsF i L).map (·.born)).Nodup ∧ ∀ y ∈ (entsF i L).map (·.born), i ≤ y := by
  induction L generalizing i with
  | nil => simp [entsF]
  | cons x L ih =>
    obtain ⟨h1, h2⟩ := ih (i + 1)
    refine ⟨?_, fun y hy => ?_⟩
    · simp only [entsF, List.map_cons, List.nodup_cons]
      refine ⟨fun hm => ?_, h1⟩
      have := h2 _ hm
      simp [ent] at this
      omega
    · simp only [entsF, List.map_cons, List.mem_cons] at hy
      rcases hy with rfl | hy
      · exact Nat.le_refl _
      · have := h2 y hy; omega

/-- Words of their own, so that no walk turns them. -/
def AllSeen (L : List (List Int × List Int)) (seen : Array Nat) : Prop := ∀ i, i < L.length → seen.contains i = true
def NotSeen (seen : Array Nat) (i : Nat) : Prop := seen.contains i = false
def EntAt (L : List (List Int × List Int)) (i : Nat) (k v : List Int) : Prop := L[i]? = some (k, v)
def EntryIs (w : World) (r : Nat) (k v : List Int) : Prop := (Instr.entry (.pointer (some ⟨r, 0, none⟩))).run Try.prog w = .ok (.tuple #[arr8 .u8 k, arr8 .u8 v]) w
def LessLeft (w' w : World) (b r : Nat) : Prop := w'.rangeLeft b r < w.rangeLeft b r

theorem wpList_range_a {w : World} {ops : Array Oper} {rest : List Oper} {o : Oper} {a : Act} {Q : Exit → Act → World → Prop} (hg : o.guard = none) (m : Operand) (hop : o.op = Op.range 106 m) (b : Nat) (L : List (List Int × List Int))
    (hm : a.eval m = .map (some b)) (h : MapA w b L)
    (hK : IterA (w.alloc (.mapIter (some b) L.length #[] L.length)) w.heap.size b L #[] → wpList Try.prog ops Q rest (a.put o.dst (.pointer (some ⟨w.heap.size, 0, none⟩))) (w.alloc (.mapIter (some b) L.length #[] L.length))) :
    wpList Try.prog ops Q (o :: rest) a w := by
  refine wpList_plain hg fun K' hK' => ?_
  have hrun := run_range_a h
  unfold Oper.wp
  simp only [execOp, hop, hm, hrun, Result.andThen, Sem.run_bind, Sem.run_pure]
  exact hK' _ _ (hK (by unfold IterA; exact heap_alloc_last w _))

theorem wpList_next_a {w : World} {ops : Array Oper} {rest : List Oper} {o : Oper} {a : Act} {Q : Exit → Act → World → Prop} (hg : o.guard = none) (it : Operand) (hop : o.op = Op.next it false) (r b : Nat) (L : List (List Int × List Int)) (seen : Array Nat)
    (hit : a.eval it = .pointer (some ⟨r, 0, none⟩)) (hm : MapA w b L) (hi : IterA w r b L seen) (hrb : r ≠ b)
    (hDone : AllSeen L seen → wpList Try.prog ops Q rest (a.put o.dst (.tuple #[.bool false])) w)
    (hMore : ∀ (i : Nat) (x1 x2 : List Int) (w' : World), EntAt L i x1 x2 → NotSeen seen i → IterA w' r b L (seen.push i) → MapA w' b L → Wrote r (r + 1) w w' → LessLeft w' w b r → EntryIs w' r x1 x2 →
      wpList Try.prog ops Q rest (a.put o.dst (.tuple #[.bool true, arr8 .u8 x1, arr8 .u8 x2])) w') :
    wpList Try.prog ops Q (o :: rest) a w := by
  have hb : w.heap[b]? = some (.map (entsF 0 L).toArray L.length) := hm
  have hr : w.heap[r]? = some (.mapIter (some b) L.length seen L.length) := hi
  have hold : ∀ x ∈ (entsF 0 L).toArray.toList, x.born < L.length := fun e he => by
    obtain ⟨i, x, h1, rfl⟩ := mem_ents he
    exact (List.getElem?_eq_some_iff.1 h1).1
  refine wpList_plain hg fun K' hK' => ?_
  unfold Oper.wp
  rcases run_next_at (P := Try.prog) w o.type r b L.length L.length seen (entsF 0 L).toArray L.length hr hb hold (Nat.le_refl _) with ⟨h0, hrun⟩ | ⟨e, he, w1, hw1, hrun⟩
  · simp only [execOp, hop, hit, hrun, Result.andThen, Sem.run_bind, Sem.run_pure]
    refine hK' _ _ (hDone fun i hi' => ?_)
    have := all_seen _ _ h0 _ (ents_mem (List.getElem?_eq_getElem hi'))
    exact this
  · obtain ⟨hme, hse⟩ := mem_left he
    obtain ⟨i, x, h1, rfl⟩ := mem_ents hme
    have hw1h : w1.heap = w.heap := by rcases hw1 with rfl | rfl <;> rfl
    have hw1w : Wrote r (r + 1) w w1 := by
      rcases hw1 with rfl | rfl
      · exact wrote_refl _ _ _
      · exact ⟨rfl, rfl, rfl, Nat.le_refl _, fun _ _ _ => rfl⟩
    have hlt : r < w1.heap.size := by rw [hw1h]; exact hi.lt
    have hit' : IterA (setBlock w1 r (.mapIter (some b) L.length (seen.push i) L.length)) r b L (seen.push i) := setBlock_same _ hlt
    have hmp' : MapA (setBlock w1 r (.mapIter (some b) L.length (seen.push i) L.length)) b L := by
      unfold MapA
      rw [setBlock_other _ (fun e => hrb e.symm), hw1h]
      exact hb
    simp only [execOp, hop, hit, hrun, Result.andThen, Sem.run_bind, Sem.run_pure]
    refine hK' _ _ (hMore i x.1 x.2 _ h1 hse hit' hmp' (hw1w.trans (setBlock_wrote _ _ _)) ?_ ?_)
    · have e1 : (setBlock w1 r (.mapIter (some b) L.length (seen.push i) L.length)).rangeLeft b r = (leftOf (entsF 0 L).toArray (seen.push i)).size := by
        unfold World.rangeLeft
        rw [show (setBlock w1 r (.mapIter (some b) L.length (seen.push i) L.length)).heap[b]? = _ from hmp', show (setBlock w1 r (.mapIter (some b) L.length (seen.push i) L.length)).heap[r]? = _ from hit']
      have e2 : w.rangeLeft b r = (leftOf (entsF 0 L).toArray seen).size := by
        unfold World.rangeLeft
        rw [hb, hr]
      have hrl : (setBlock w1 r (.mapIter (some b) L.length (seen.push i) L.length)).rangeLeft b r < w.rangeLeft b r := by
        rw [e1, e2]
        exact left_shrinks (entsF 0 L).toArray seen (ent x i) he
      exact hrl
    · exact run_entry_at _ r b L.length seen (entsF 0 L).toArray L.length (ent x i) hit' hmp' hme (by rw [List.toList_toArray]; exact (ents_born L 0).1)

end Go.Proofs.Ytkedkleddpnanaa
