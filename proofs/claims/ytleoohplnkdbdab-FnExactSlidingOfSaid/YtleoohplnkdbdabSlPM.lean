/- Merged texts. -/
import Derived.Test.YtleoohplnkdbdabSlIIs
import Derived.Maps.RangeRun
import Derived.Carry
import Derived.Test.YtleoohplnkdbdabSlSort
import Derived.Maps.RangeWalk
import Derived.Deep.WholeRow
import Derived.Test.YtleoohplnkdbdabSlIBeg
import Derived.Test.YtleoohplnkdbdabSlPB
import Derived.Test.YtleoohplnkdbdabSlExch
import Derived.Test.YtleoohplnkdbdabSlIRows
import Derived.Deep.RegionHeld3
import Derived.Deep.DeepCutAuto
import Derived.Test.YtleoohplnkdbdabSlQA
import Derived.BigQuiet
import Derived.IntWalk
import Derived.Test.YtleoohplnkdbdabSlSB
import Derived.Test.YtleoohplnkdbdabSlExd
import Derived.Test.YtleoohplnkdbdabSlSIs

/- A map of arrays of eight bytes by such arrays, its entries written out: the operations on it. -/
namespace Go.Proofs.Ytleoohplnkdbdab
open Go.RowKit Go.ChangeShapes
open Go.ChangeMaps (setBlock)

/-- Entry number i. -/
def ent (x : List Int × List Int) (i : Nat) : MapEntry := { key := arr8 .u8 x.1, val := arr8 .u8 x.2, born := i }

def entsF : Nat → List (List Int × List Int) → List MapEntry
 | _, [] => []
 | i, x :: L => ent x i :: entsF (i + 1) L

/-- The block b is a map with these entries. -/
def MapA (w : World) (b : Nat) (L : List (List Int × List Int)) : Prop := w.heap[b]? = some (.map (entsF 0 L).toArray L.length)

/-- All keys are rows of eight. -/
def Keys8 (L : List (List Int × List Int)) : Prop := ∀ x ∈ L, x.1.length = 8

theorem MapA.lt {w : World} {b : Nat} {L : List (List Int × List Int)} (h : MapA w b L) : b < w.heap.size := (Array.getElem?_eq_some_iff.1 h).1
theorem MapA.heap {w w' : World} {b : Nat} {L : List (List Int × List Int)} (h : MapA w b L) (hb : w'.heap[b]? = w.heap[b]?) : MapA w' b L := hb.trans h
theorem MapA.below {w w' : World} {b : Nat} {L : List (List Int × List Int)} (h : MapA w b L) (k : Below w.heap.size w w') : MapA w' b L := h.heap (k.block b h.lt)
theorem MapA.alloc {w : World} {b : Nat} {L : List (List Int × List Int)} (h : MapA w b L) (o : Obj) : MapA (w.alloc o) b L := h.below ((Below.refl _ _).alloc (Nat.le_refl _) o)
theorem MapA.drew {w : World} {b : Nat} {L : List (List Int × List Int)} (h : MapA w b L) : MapA w.drew b L := h
theorem MapA.setCell {w : World} {b : Nat} {L : List (List Int × List Int)} (h : MapA w b L) {p : Addr} (hp : p.block ≠ b) (x : Value) : MapA (w.setCell p x) b L := h.heap (Below.heap_setCell _ _ _ _ (fun e => hp e.symm))

theorem check_byte (e : Bool) (d : Nat) (v : Int) (w : World) : (Instr.checkKey e (d + 1) 5 (.int .u8 v)).run Try.prog w = .ok () w := by
 have he : ∀ w, (underlying 5).run Try.prog w = .ok (.int .u8) w := fun _ => by kernel_rfl
 simp [Instr.checkKey, he]

theorem check8_at (e : Bool) (d : Nat) (k : List Int) (w : World) : (Instr.checkKey e (d + 2) 54 (.agg (cells8 .u8 k))).run Try.prog w = .ok () w := by
 have hu : ∀ w, (underlying 54).run Try.prog w = .ok (.array 8 5) w := fun _ => by kernel_rfl
 have hz : ∀ w, (sizeOf 5).run Try.prog w = .ok 1 w := fun _ => by kernel_rfl
 rw [Instr.checkKey]
 simp only [Sem.run_bind, hu, Result.andThen_ok, Std.Legacy.Range.forIn_eq_forIn_range', Std.Legacy.Range.size, Nat.sub_zero, Nat.add_one_sub_one, Nat.div_one]
 have hl : ∀ i ∈ List.range' 0 8 1, i < 8 := fun i hi => by simpa using (List.mem_range'_1.1 hi).2
 generalize List.range' 0 8 1 = l at hl ⊢
 induction l with
 | nil => simp
 | cons i l ih =>
  have h1 := part8 k i (hl i (by simp)) w
  simp only [List.forIn_cons, Sem.run_bind, h1, check_byte, Result.andThen_ok, hz, Sem.run_pure]
  exact ih fun j hj => hl j (by simp [hj])

theorem check8 (e : Bool) (k : List Int) (w : World) : (Instr.checkKey e 10000 54 (arr8 .u8 k)).run Try.prog w = .ok () w := check8_at e 9998 k w

/-- Where a key stands. -/
def findL (k : List Int) : List (List Int × List Int) → Nat → Option (Nat × Value)
 | [], _ => none
 | x :: L, i => if k = x.1 then some (i, arr8 .u8 x.2) else findL k L (i + 1)

theorem run_asking (k : List Int) (hk : k.length = 8) (L : List (List Int × List Int)) (hL : Keys8 L) (i j : Nat) (w : World) : (Instr.findAsking 54 (arr8 .u8 k) (entsF j L) i).run Try.prog w = .ok (findL k L i) w := by
 induction L generalizing i j with
 | nil => simp [entsF, Instr.findAsking, findL]
 | cons x L ih =>
  have h1 : (Op.equal 54 (arr8 .u8 k) (arr8 .u8 x.1)).run Try.prog w = .ok (decide (k = x.1)) w := equal8 k x.1 hk (hL x (by simp)) w
  simp only [entsF, ent, Instr.findAsking, Sem.run_bind, h1, Result.andThen_ok, findL, decide_eq_true_eq]
  split
  ·simp
  ·exact ih (fun y hy => hL y (by simp [hy])) (i + 1) (j + 1)

theorem run_find (k : List Int) (hk : k.length = 8) (L : List (List Int × List Int)) (hL : Keys8 L) (w : World) : (Instr.findKey 54 (arr8 .u8 k) (entsF 0 L)).run Try.prog w = .ok (findL k L 0) w := by
 have hu : ∀ w, (underlying 54).run Try.prog w = .ok (.array 8 5) w := fun _ => by kernel_rfl
 unfold Instr.findKey
 simp only [Sem.run_bind, hu, Result.andThen_ok]
 cases L with
 | nil => simp [entsF, Instr.findNow, findL]
 | cons x L =>
  have h1 := run_asking k hk (x :: L) hL 0 0 w
  simp only [entsF, ent, Instr.findNow, Instr.sameNow] at h1 ⊢
  exact h1

theorem same_bits (k : List Int) : Instr.sameBits 10000 (arr8 .u8 k) (arr8 .u8 k) = true := by
 rw [show (10000 : Nat) = 9999 + 1 from rfl]
 simp [Instr.sameBits]

theorem run_stays (k : List Int) (w : World) : (Instr.keyThatStays (arr8 .u8 k) (arr8 .u8 k)).run Try.prog w = .ok (arr8 .u8 k) w := by
 unfold Instr.keyThatStays
 rw [if_pos (same_bits k)]
 simp

theorem entsF_snoc (L : List (List Int × List Int)) (x : List Int × List Int) (i : Nat) : entsF i (L ++ [x]) = entsF i L ++ [ent x (i + L.length)] := by
 induction L generalizing i with
 | nil => simp [entsF]
 | cons y L ih =>
  simp only [List.cons_append, entsF, ih, List.length_cons]
  rw [show i + 1 + L.length = i + (L.length + 1) by omega]

theorem entsF_get (L : List (List Int × List Int)) (i j : Nat) : (entsF i L)[j]? = (L[j]?).map fun x => ent x (i + j) := by
 induction L generalizing i j with
 | nil => simp [entsF]
 | cons y L ih =>
  cases j with
  | zero => simp [entsF]
  | succ j =>
   simp only [entsF, List.getElem?_cons_succ, ih]
   rw [show i + 1 + j = i + (j + 1) by omega]

/-- A new key. -/
theorem run_update_new {w : World} {b : Nat} {L : List (List Int × List Int)} (h : MapA w b L) (hL : Keys8 L) (k v : List Int) (hk : k.length = 8) (hn : findL k L 0 = none) :
  (Instr.mapUpdate 111 (.map (some b)) (arr8 .u8 k) (arr8 .u8 v)).run Try.prog w = .ok () (setBlock w b (.map (entsF 0 (L ++ [(k, v)])).toArray (L ++ [(k, v)]).length)) := by
 have hu : ∀ w, (underlying 111).run Try.prog w = .ok (.map 54 54) w := fun _ => by kernel_rfl
 have h' : w.heap[b]? = some (.map (entsF 0 L).toArray L.length) := h
 have hf := run_find k hk L hL w
 rw [hn] at hf
 simp only [Instr.mapUpdate, Sem.run_bind, hu, Result.andThen_ok, MapKept.run_getObj_map h', check8, hf, MapKept.run_setObj_map _ h']
 rw [entsF_snoc]
 simp [setBlock, ent]

theorem findL_some {k : List Int} {L : List (List Int × List Int)} {i j : Nat} {u : Value} (h : findL k L i = some (j, u)) : ∃ m x, j = i + m ∧ L[m]? = some x ∧ x.1 = k ∧ u = arr8 .u8 x.2 := by
 induction L generalizing i with
 | nil => simp [findL] at h
 | cons y L ih =>
  unfold findL at h
  by_cases e : k = y.1
  ·rw [if_pos e] at h
   cases h
   exact ⟨0, y, rfl, rfl, e.symm, rfl⟩
  ·rw [if_neg e] at h
   obtain ⟨m, x, h1, h2, h3, h4⟩ := ih h
   exact ⟨m + 1, x, by omega, by simpa using h2, h3, h4⟩

/-- A key that is there. -/
theorem run_update_old {w : World} {b : Nat} {L : List (List Int × List Int)} (h : MapA w b L) (hL : Keys8 L) (k v : List Int) (hk : k.length = 8) (m : Nat) (u : Value) (hn : findL k L 0 = some (m, u)) :
  (Instr.mapUpdate 111 (.map (some b)) (arr8 .u8 k) (arr8 .u8 v)).run Try.prog w = .ok () (setBlock w b (.map (entsF 0 (L.set m (k, v))).toArray (L.set m (k, v)).length)) := by
 have hu : ∀ w, (underlying 111).run Try.prog w = .ok (.map 54 54) w := fun _ => by kernel_rfl
 have h' : w.heap[b]? = some (.map (entsF 0 L).toArray L.length) := h
 have hf := run_find k hk L hL w
 rw [hn] at hf
 obtain ⟨m', x, e1, e2, e3, e4⟩ := findL_some hn
 obtain rfl : m = m' := by omega
 have hg : (((entsF 0 L).toArray[m]?).map (·.key)).getD (arr8 .u8 k) = arr8 .u8 k := by
  simp [entsF_get, e2, ent, e3]
 simp only [Instr.mapUpdate, Sem.run_bind, hu, Result.andThen_ok, MapKept.run_getObj_map h', check8, hf, hg, run_stays, MapKept.run_setObj_map _ h']
 have hm : m < L.length := (List.getElem?_eq_some_iff.1 e2).1
 have he : (entsF 0 L).toArray.modify m (fun e => { e with key := arr8 .u8 k, val := arr8 .u8 v }) = (entsF 0 (L.set m (k, v))).toArray := by
  apply Array.ext'
  refine List.ext_getElem? fun j => ?_
  simp only [Array.toList_modify, List.getElem?_modify, entsF_get, List.getElem?_set, Nat.zero_add]
  by_cases e : m = j
  ·subst e
   simp [ent, hm]
  ·simp [e]
 rw [he, List.length_set]
 rfl

end Go.Proofs.Ytleoohplnkdbdab

/- A map of arrays by arrays: ranging over it, at the operations. -/
namespace Go.Proofs.Ytleoohplnkdbdab
open Go.RowKit Go.ChangeShapes
open Go.ChangeMaps (setBlock)

/-- The block r ranges over the map b; the entries seen have come. -/
def IterA (w : World) (r b : Nat) (L : List (List Int × List Int)) (seen : Array Nat) : Prop := w.heap[r]? = some (.mapIter (some b) L.length seen L.length)

theorem IterA.lt {w : World} {r b : Nat} {L : List (List Int × List Int)} {seen : Array Nat} (h : IterA w r b L seen) : r < w.heap.size := (Array.getElem?_eq_some_iff.1 h).1
theorem IterA.heap {w w' : World} {r b : Nat} {L : List (List Int × List Int)} {seen : Array Nat} (h : IterA w r b L seen) (hb : w'.heap[r]? = w.heap[r]?) : IterA w' r b L seen := hb.trans h
theorem IterA.below {w w' : World} {r b : Nat} {L : List (List Int × List Int)} {seen : Array Nat} (h : IterA w r b L seen) (k : Below w.heap.size w w') : IterA w' r b L seen := h.heap (k.block r h.lt)
theorem IterA.alloc {w : World} {r b : Nat} {L : List (List Int × List Int)} {seen : Array Nat} (h : IterA w r b L seen) (o : Obj) : IterA (w.alloc o) r b L seen := h.below ((Below.refl _ _).alloc (Nat.le_refl _) o)

theorem setBlock_same {w : World} {b : Nat} (o : Obj) (hb : b < w.heap.size) : (setBlock w b o).heap[b]? = some o := by simp [setBlock, hb]
theorem setBlock_other {w : World} {b g : Nat} (o : Obj) (h : g ≠ b) : (setBlock w b o).heap[g]? = w.heap[g]? := by
 simp only [setBlock]
 rw [Array.getElem?_setIfInBounds_ne (by omega)]
theorem setBlock_size (w : World) (b : Nat) (o : Obj) : (setBlock w b o).heap.size = w.heap.size := by simp [setBlock]
theorem setBlock_wrote (w : World) (b : Nat) (o : Obj) : Wrote b (b + 1) w (setBlock w b o) := ⟨rfl, rfl, rfl, by rw [setBlock_size]; exact Nat.le_refl _, fun k _ hd => setBlock_other o (by omega)⟩

theorem run_range_a {w : World} {b : Nat} {L : List (List Int × List Int)} (h : MapA w b L) :
  (Instr.range 111 (.map (some b))).run Try.prog w = .ok (.pointer (some ⟨w.heap.size, 0, none⟩)) (w.alloc (.mapIter (some b) L.length #[] L.length)) := by
 have hu : ∀ w, (underlying 111).run Try.prog w = .ok (.map 54 54) w := fun _ => by kernel_rfl
 have h' : w.heap[b]? = some (.map (entsF 0 L).toArray L.length) := h
 simp [Instr.range, hu, MapKept.run_getObj_map h', Result.andThen]

theorem mem_ents {L : List (List Int × List Int)} {e : MapEntry} (he : e ∈ (entsF 0 L).toArray.toList) : ∃ i x, L[i]? = some x ∧ e = ent x i := by
 obtain ⟨j, hj⟩ := List.getElem?_of_mem he
 rw [List.toList_toArray, entsF_get] at hj
 cases hx : L[j]? with
 | none => rw [hx] at hj; cases hj
 | some x =>
  rw [hx] at hj
  simp only [Option.map_some, Option.some.injEq, Nat.zero_add] at hj
  exact ⟨j, x, hx, hj.symm⟩

theorem ents_mem {L : List (List Int × List Int)} {i : Nat} {x : List Int × List Int} (h : L[i]? = some x) : ent x i ∈ (entsF 0 L).toArray.toList := by
 rw [List.toList_toArray]
 refine List.mem_of_getElem? (i := i) ?_
 rw [entsF_get, h]
 simp

theorem ents_born (L : List (List Int × List Int)) (i : Nat) : ((entsF i L).map (·.born)).Nodup ∧ ∀ y ∈ (entsF i L).map (·.born), i ≤ y := by
 induction L generalizing i with
 | nil => simp [entsF]
 | cons x L ih =>
  obtain ⟨h1, h2⟩ := ih (i + 1)
  refine ⟨?_, fun y hy => ?_⟩
  ·simp only [entsF, List.map_cons, List.nodup_cons]
   refine ⟨fun hm => ?_, h1⟩
   have := h2 _ hm
   simp [ent] at this
   omega
  ·simp only [entsF, List.map_cons, List.mem_cons] at hy
   rcases hy with rfl | hy
   ·exact Nat.le_refl _
   ·have := h2 y hy; omega

/-- Words of their own, so that no walk turns them. -/
def AllSeen (L : List (List Int × List Int)) (seen : Array Nat) : Prop := ∀ i, i < L.length → seen.contains i = true
def NotSeen (seen : Array Nat) (i : Nat) : Prop := seen.contains i = false
def EntAt (L : List (List Int × List Int)) (i : Nat) (k v : List Int) : Prop := L[i]? = some (k, v)
def EntryIs (w : World) (r : Nat) (k v : List Int) : Prop := (Instr.entry (.pointer (some ⟨r, 0, none⟩))).run Try.prog w = .ok (.tuple #[arr8 .u8 k, arr8 .u8 v]) w
def LessLeft (w' w : World) (b r : Nat) : Prop := w'.rangeLeft b r < w.rangeLeft b r

theorem wpList_range_a {w : World} {ops : Array Oper} {rest : List Oper} {o : Oper} {a : Act} {Q : Exit → Act → World → Prop} (hg : o.guard = none) (m : Operand) (hop : o.op = Op.range 111 m) (b : Nat) (L : List (List Int × List Int))
  (hm : a.eval m = .map (some b)) (h : MapA w b L)
  (hK : IterA (w.alloc (.mapIter (some b) L.length #[] L.length)) w.heap.size b L #[] → wpList Try.prog ops Q rest (a.put o.dst (.pointer (some ⟨w.heap.size, 0, none⟩))) (w.alloc (.mapIter (some b) L.length #[] L.length))) :
  wpList Try.prog ops Q (o :: rest) a w := by
 refine wpList_plain hg fun K' hK' => ?_
 have hrun := run_range_a h
 unfold Oper.wp
 simp only [execOp, hop, hm, hrun, Result.andThen, Sem.run_bind, Sem.run_pure]
 exact hK' _ _ (hK (by unfold IterA; exact heap_alloc_last w _))

theorem wpList_next_a {w : World} {ops : Array Oper} {rest : List Oper} {o : Oper} {a : Act} {Q : Exit → Act → World → Prop} (hg : o.guard = none) (it : Operand) (hop : o.op = Op.next it false) (r b : Nat) (L : List (List Int × List Int)) (seen : Array Nat)
  (hit : a.eval it = .pointer (some ⟨r, 0, none⟩)) (hm : MapA w b L) (hi : IterA w r b L seen) (hrb : r ≠ b)
  (hDone : AllSeen L seen → wpList Try.prog ops Q rest (a.put o.dst (.tuple #[.bool false])) w)
  (hMore : ∀ (i : Nat) (x1 x2 : List Int) (w' : World), EntAt L i x1 x2 → NotSeen seen i → IterA w' r b L (seen.push i) → MapA w' b L → Wrote r (r + 1) w w' → LessLeft w' w b r → EntryIs w' r x1 x2 →
   wpList Try.prog ops Q rest (a.put o.dst (.tuple #[.bool true, arr8 .u8 x1, arr8 .u8 x2])) w') :
  wpList Try.prog ops Q (o :: rest) a w := by
 have hb : w.heap[b]? = some (.map (entsF 0 L).toArray L.length) := hm
 have hr : w.heap[r]? = some (.mapIter (some b) L.length seen L.length) := hi
 have hold : ∀ x ∈ (entsF 0 L).toArray.toList, x.born < L.length := fun e he => by
  obtain ⟨i, x, h1, rfl⟩ := mem_ents he
  exact (List.getElem?_eq_some_iff.1 h1).1
 refine wpList_plain hg fun K' hK' => ?_
 unfold Oper.wp
 rcases run_next_at (P := Try.prog) w o.type r b L.length L.length seen (entsF 0 L).toArray L.length hr hb hold (Nat.le_refl _) with ⟨h0, hrun⟩ | ⟨e, he, w1, hw1, hrun⟩
 ·simp only [execOp, hop, hit, hrun, Result.andThen, Sem.run_bind, Sem.run_pure]
  refine hK' _ _ (hDone fun i hi' => ?_)
  have := all_seen _ _ h0 _ (ents_mem (List.getElem?_eq_getElem hi'))
  exact this
 ·obtain ⟨hme, hse⟩ := mem_left he
  obtain ⟨i, x, h1, rfl⟩ := mem_ents hme
  have hw1h : w1.heap = w.heap := by rcases hw1 with rfl | rfl <;> rfl
  have hw1w : Wrote r (r + 1) w w1 := by
   rcases hw1 with rfl | rfl
   ·exact wrote_refl _ _ _
   ·exact ⟨rfl, rfl, rfl, Nat.le_refl _, fun _ _ _ => rfl⟩
  have hlt : r < w1.heap.size := by rw [hw1h]; exact hi.lt
  have hit' : IterA (setBlock w1 r (.mapIter (some b) L.length (seen.push i) L.length)) r b L (seen.push i) := setBlock_same _ hlt
  have hmp' : MapA (setBlock w1 r (.mapIter (some b) L.length (seen.push i) L.length)) b L := by
   unfold MapA
   rw [setBlock_other _ (fun e => hrb e.symm), hw1h]
   exact hb
  simp only [execOp, hop, hit, hrun, Result.andThen, Sem.run_bind, Sem.run_pure]
  refine hK' _ _ (hMore i x.1 x.2 _ h1 hse hit' hmp' (hw1w.trans (setBlock_wrote _ _ _)) ?_ ?_)
  ·have e1 : (setBlock w1 r (.mapIter (some b) L.length (seen.push i) L.length)).rangeLeft b r = (leftOf (entsF 0 L).toArray (seen.push i)).size := by
    unfold World.rangeLeft
    rw [show (setBlock w1 r (.mapIter (some b) L.length (seen.push i) L.length)).heap[b]? = _ from hmp', show (setBlock w1 r (.mapIter (some b) L.length (seen.push i) L.length)).heap[r]? = _ from hit']
   have e2 : w.rangeLeft b r = (leftOf (entsF 0 L).toArray seen).size := by
    unfold World.rangeLeft
    rw [hb, hr]
   have hrl : (setBlock w1 r (.mapIter (some b) L.length (seen.push i) L.length)).rangeLeft b r < w.rangeLeft b r := by
    rw [e1, e2]
    exact left_shrinks (entsF 0 L).toArray seen (ent x i) he
   exact hrl
  ·exact run_entry_at _ r b L.length seen (entsF 0 L).toArray L.length (ent x i) hit' hmp' hme (by rw [List.toList_toArray]; exact (ents_born L 0).1)

end Go.Proofs.Ytleoohplnkdbdab

/- The least common letter of the rows of a map: the program. -/
namespace Go.Proofs.Ytleoohplnkdbdab
open Go.RowKit Go.ChangeShapes

/-- The rows of a map. -/
def valsL (L : List (List Int × List Int)) : List (List Int) := L.map (·.2)

/-- Entry i begins with the letter k + 1 (or there is none). -/
def begAt (L : List (List Int × List Int)) (k i : Nat) : Bool := match L[i]? with
 | some x => decide (at8 x.2 (k + 1) < at8 x.2 k)
 | none => true

/-- All entries that have come begin with it. -/
def seenB (L : List (List Int × List Int)) (k : Nat) (seen : Array Nat) : Bool := seen.toList.all (begAt L k)

theorem seenB_push (L : List (List Int × List Int)) (k : Nat) (seen : Array Nat) (i : Nat) (x : List Int × List Int) (h : L[i]? = some x) : seenB L k (seen.push i) = (seenB L k seen && decide (at8 x.2 (k + 1) < at8 x.2 k)) := by
 simp [seenB, begAt, h]

theorem seenB_all (L : List (List Int × List Int)) (k : Nat) (seen : Array Nat) (hs : ∀ i, i < L.length → seen.contains i = true) : seenB L k seen = allBeg (valsL L) k := by
 rw [Bool.eq_iff_iff]
 simp only [seenB, allBeg, valsL, List.all_eq_true, List.mem_map, decide_eq_true_eq]
 constructor
 ·rintro h v ⟨x, hx, rfl⟩
  obtain ⟨i, hi⟩ := List.getElem?_of_mem hx
  have hlt := (List.getElem?_eq_some_iff.1 hi).1
  have hm : i ∈ seen.toList := by simpa using hs i hlt
  have := h i hm
  unfold begAt at this
  rw [hi] at this
  simpa using this
 ·intro h i _
  unfold begAt
  cases hx : L[i]? with
  | none => rfl
  | some x =>
   have := h x.2 ⟨x, List.mem_of_getElem? hx, rfl⟩
   simpa using this

theorem rangeLeft_same {w w' : World} {b r : Nat} (hb : w'.heap[b]? = w.heap[b]?) (hr : w'.heap[r]? = w.heap[r]?) : w'.rangeLeft b r = w.rangeLeft b r := by
 unfold World.rangeLeft
 rw [hb, hr]

theorem rangeLeft_alloc {w : World} {b r : Nat} {o : Obj} (hb : b < w.heap.size) (hr : r < w.heap.size) : (w.alloc o).rangeLeft b r = w.rangeLeft b r :=
 rangeLeft_same (((Below.refl _ _).alloc (Nat.le_refl _) o).block b hb) (((Below.refl _ _).alloc (Nat.le_refl _) o).block r hr)

/-- The least common letter, or 0. -/
def letC (vs : List (List Int)) (n : Nat) : Int := match common vs (n - 1) 0 with
 | some k => (k : Int) + 1
 | none => 0

set_option maxRecDepth 100000 in
set_option maxHeartbeats 1000000 in
theorem commonLetter_any (n : Nat) (h1 : 1 ≤ n) (h8 : n ≤ 8) (b : Nat) (L : List (List Int × List Int)) (hv : ∀ x ∈ L, x.2.length = 8) (w : World) (hm : MapA w b L) :
  Calls Try.prog 129 #[.map (some b), .int .i64 n] w fun e w' => e = .returned (.int .i64 (letC (valsL L) n)) ∧ Below w.heap.size w w' := by
 have HV := Lib.hid hv
 have HM := Lib.hid hm
 have zb0 := hm.lt
 clear hv hm
 go_enter Try.func129, Try.ntmps129
 go_wp2
 go_loopw [5] (fun i wr => ∃ k : Nat, k + 1 ≤ n ∧ i = .int .i64 ((k : Int) + 1) ∧ (∀ j, j < k → allBeg (valsL L) j = false) ∧ Below w.heap.size w wr) (fun i _ => n - (intOf i).toNat)
 case atStart => exact ⟨0, h1, rfl, fun j hj => absurd hj (Nat.not_lt_zero _), Below.refl _ _⟩
 case round =>
  obtain ⟨k, hk, rfl, hno, hbb⟩ := hrel
  have HNO := Lib.hid hno
  have BB := Lib.hid hbb
  clear hno hbb
  have zz := BB.out.size
  by_cases hlt : k + 1 < n
  ·have MW := Lib.hid (HM.out.heap (BB.out.block b zb0))
   have hd : decide ((k : Int) + 1 < (n : Int)) = true := by simp; omega
   go_wp2_with (at_range; refine wpList_range_a rfl _ rfl b L rfl MW.out ?_; intro hit)
   have IT := Lib.hid hit
   clear hit
   obtain ⟨r, hr⟩ : ∃ r, r = wr.heap.size := ⟨_, rfl⟩
   have M0 := Lib.hid (MW.out.alloc (.mapIter (some b) L.length #[] L.length))
   have B0 := Lib.hid (BB.out.alloc zz (.mapIter (some b) L.length #[] L.length))
   obtain ⟨wi0, hwi⟩ : ∃ W, W = wr.alloc (.mapIter (some b) L.length #[] L.length) := ⟨_, rfl⟩
   rw [← hwi] at IT M0 B0 ⊢
   rw [← hr] at IT ⊢
   have zr : w.heap.size ≤ r := by omega
   clear hwi hr
   go_frame
   go_loopw [6] (fun c wi => ∃ seen : Array Nat, c = .bool (seenB L k seen) ∧ IterA wi r b L seen ∧ MapA wi b L ∧ Below w.heap.size w wi) (fun _ wi => wi.rangeLeft b r)
   case atStart => exact ⟨#[], rfl, IT.out, M0.out, B0.out⟩
   case round =>
    obtain ⟨seen, rfl, hi, hm, hb⟩ := hrel
    clear IT M0 B0 BB MW
    have IT := Lib.hid hi
    have MW := Lib.hid hm
    have BB := Lib.hid hb
    clear hi hm hb zz
    have zz := BB.out.size
    go_wp2_with (at_next; refine wpList_next_a rfl _ rfl r b L seen rfl MW.out IT.out (by omega) ?_ ?_)
    ·intro hall
     have HA := Lib.hid (seenB_all L k seen hall)
     clear hall
     rw [HA.out]
     by_cases hc : allBeg (valsL L) k = true
     ·have HL : Hid (letC (valsL L) n = (k : Int) + 1) := Lib.hid (by
       unfold letC
       rw [common_eq (Nat.zero_le k) (by omega) hc (fun j _ hj => HNO.out j hj)])
      rw [hc]
      clear hc
      go_wp2
      go_ret
      exact ⟨ret_int HL.out.symm, BB.out⟩
     ·have hc0 : allBeg (valsL L) k = false := by simpa using hc
      have HC := Lib.hid hc0
      rw [hc0]
      clear hc hc0
      go_wp2
      go_roundw
      case rel =>
       exact ⟨k + 1, by omega, by go_num, fun j hj => by
        by_cases e : j = k
        ·rw [e]; exact HC.out
        ·exact HNO.out j (by omega), BB.out⟩
      case measure => simp [intOf]; omega
    ·intro i x1 x2 w' hx hns hi' hm' hwr hlt' hen
     have hlx : x2.length = 8 := HV.out (x1, x2) (List.mem_of_getElem? hx)
     have HLX := Lib.hid hlx
     have HLT : Hid (w'.rangeLeft b r < wr.rangeLeft b r) := Lib.hid hlt'
     have IT2 := Lib.hid hi'
     have MW2 := Lib.hid hm'
     have B2 := Lib.hid (below_write BB.out hwr zr zz)
     have KB := Lib.hid (fun W => beginsWith_any k (by omega) x2 HLX.out W)
     have HPU := Lib.hid (seenB_push L k seen i (x1, x2) hx)
     have hen2 : (Instr.entry (.pointer (some ⟨r, 0, none⟩))).run Try.prog w' = .ok (.tuple #[arr8 .u8 x1, arr8 .u8 x2]) w' := hen
     clear hx hns hi' hm' hwr hlt' hlx hen
     have zw := B2.out.size
     by_cases hsb : seenB L k seen = true
     ·have HSB := Lib.hid hsb
      rw [hsb]
      clear hsb
      have I3 := Lib.hid (IT2.out.alloc (.cells #[.int .u8 (at8 x2 0), .int .u8 (at8 x2 1), .int .u8 (at8 x2 2), .int .u8 (at8 x2 3), .int .u8 (at8 x2 4), .int .u8 (at8 x2 5), .int .u8 (at8 x2 6), .int .u8 (at8 x2 7)] 54))
      have M3 := Lib.hid (MW2.out.alloc (.cells #[.int .u8 (at8 x2 0), .int .u8 (at8 x2 1), .int .u8 (at8 x2 2), .int .u8 (at8 x2 3), .int .u8 (at8 x2 4), .int .u8 (at8 x2 5), .int .u8 (at8 x2 6), .int .u8 (at8 x2 7)] 54))
      have B3 := Lib.hid (B2.out.alloc zw (.cells #[.int .u8 (at8 x2 0), .int .u8 (at8 x2 1), .int .u8 (at8 x2 2), .int .u8 (at8 x2 3), .int .u8 (at8 x2 4), .int .u8 (at8 x2 5), .int .u8 (at8 x2 6), .int .u8 (at8 x2 7)] 54))
      have R3 := Lib.hid (Row8.place w' .u8 x2 54 w'.heap.size rfl HLX.out)
      go_wp2_with fail
      refine (KB.out _).mono ?_
      rintro e w4 ⟨rfl, hb4⟩
      clear hen2
      go_wp2
      go_roundw
      case rel =>
       exact ⟨seen.push i, by rw [HPU.out, HSB.out, Bool.true_and], I3.out.below hb4, M3.out.below hb4, below_go B3.out hb4 B3.out.size⟩
      case measure =>
       rw [rangeLeft_same (hb4.block b M3.out.lt) (hb4.block r I3.out.lt), rangeLeft_alloc MW2.out.lt IT2.out.lt]
       exact HLT.out
     ·have hsb0 : seenB L k seen = false := by simpa using hsb
      have HSB := Lib.hid hsb0
      rw [hsb0]
      clear hsb hsb0
      have I3 := Lib.hid (IT2.out.alloc (.cells #[.int .u8 (at8 x2 0), .int .u8 (at8 x2 1), .int .u8 (at8 x2 2), .int .u8 (at8 x2 3), .int .u8 (at8 x2 4), .int .u8 (at8 x2 5), .int .u8 (at8 x2 6), .int .u8 (at8 x2 7)] 54))
      have M3 := Lib.hid (MW2.out.alloc (.cells #[.int .u8 (at8 x2 0), .int .u8 (at8 x2 1), .int .u8 (at8 x2 2), .int .u8 (at8 x2 3), .int .u8 (at8 x2 4), .int .u8 (at8 x2 5), .int .u8 (at8 x2 6), .int .u8 (at8 x2 7)] 54))
      have B3 := Lib.hid (B2.out.alloc zw (.cells #[.int .u8 (at8 x2 0), .int .u8 (at8 x2 1), .int .u8 (at8 x2 2), .int .u8 (at8 x2 3), .int .u8 (at8 x2 4), .int .u8 (at8 x2 5), .int .u8 (at8 x2 6), .int .u8 (at8 x2 7)] 54))
      go_wp2
      go_roundw
      case rel =>
       exact ⟨seen.push i, by rw [HPU.out, HSB.out, Bool.false_and], I3.out, M3.out, B3.out⟩
      case measure =>
       rw [rangeLeft_alloc MW2.out.lt IT2.out.lt]
       exact HLT.out
  ·have HL : Hid (letC (valsL L) n = 0) := Lib.hid (by
    unfold letC
    rw [common_no (fun j _ hj => HNO.out j (by omega))])
   go_wp2
   go_ret
   exact ⟨ret_int HL.out.symm, BB.out⟩

end Go.Proofs.Ytleoohplnkdbdab

/- A map of arrays whose rows are written while it is ranged over: lemmas. -/
namespace Go.Proofs.Ytleoohplnkdbdab
open Go.RowKit Go.ChangeShapes
open Go.ChangeMaps (setBlock)

/-- The list behind the entries that have come. -/
def updL (n k : Nat) (L : List (List Int × List Int)) (seen : Array Nat) : List (List Int × List Int) := L.mapIdx fun i x => if seen.contains i = true then (x.1, thenR n (exR n k) x.2) else x

/-- No key stands twice. -/
def KeysApart (L : List (List Int × List Int)) : Prop := ∀ (i j : Nat) (x y : List Int × List Int), L[i]? = some x → L[j]? = some y → x.1 = y.1 → i = j

theorem updL_len (n k : Nat) (L : List (List Int × List Int)) (seen : Array Nat) : (updL n k L seen).length = L.length := by simp [updL]

theorem updL_get (n k : Nat) (L : List (List Int × List Int)) (seen : Array Nat) (i : Nat) : (updL n k L seen)[i]? = (L[i]?).map fun x => if seen.contains i = true then (x.1, thenR n (exR n k) x.2) else x := by
 unfold updL
 rw [List.getElem?_mapIdx]

theorem updL_keys (n k : Nat) (L : List (List Int × List Int)) (seen : Array Nat) (i : Nat) (x : List Int × List Int) (h : (updL n k L seen)[i]? = some x) : ∃ y, L[i]? = some y ∧ x.1 = y.1 := by
 rw [updL_get] at h
 cases hy : L[i]? with
 | none => rw [hy] at h; cases h
 | some y =>
  rw [hy] at h
  simp only [Option.map_some, Option.some.injEq] at h
  refine ⟨y, rfl, ?_⟩
  rw [← h]
  split <;> rfl

theorem updL_none (n k : Nat) (L : List (List Int × List Int)) : updL n k L #[] = L := by
 refine List.ext_getElem? fun i => ?_
 rw [updL_get]
 cases L[i]? <;> simp

theorem updL_push (n k : Nat) (L : List (List Int × List Int)) (seen : Array Nat) (i : Nat) (x1 x2 : List Int) (h : (updL n k L seen)[i]? = some (x1, x2)) (hs : seen.contains i = false) :
  (updL n k L seen).set i (x1, thenR n (exR n k) x2) = updL n k L (seen.push i) := by
 have hL : L[i]? = some (x1, x2) := by
  rw [updL_get] at h
  cases hy : L[i]? with
  | none => rw [hy] at h; cases h
  | some y =>
   rw [hy] at h
   simp only [Option.map_some, Option.some.injEq, hs, Bool.false_eq_true, if_false] at h
   rw [h]
 have hlt := (List.getElem?_eq_some_iff.1 hL).1
 refine List.ext_getElem? fun j => ?_
 rw [List.getElem?_set, updL_get, updL_get]
 by_cases e : i = j
 ·subst e
  rw [if_pos rfl, if_pos (by rw [updL_len]; exact hlt), hL]
  simp
 ·rw [if_neg e]
  have : (seen.push i).contains j = seen.contains j := by
   rw [Bool.eq_iff_iff]
   simp
   omega
  rw [this]

theorem updL_all (n k : Nat) (L : List (List Int × List Int)) (seen : Array Nat) (h : ∀ i, i < L.length → seen.contains i = true) : updL n k L seen = L.map fun x => (x.1, thenR n (exR n k) x.2) := by
 refine List.ext_getElem? fun i => ?_
 rw [updL_get, List.getElem?_map]
 cases hy : L[i]? with
 | none => rfl
 | some y => rw [Option.map_some, Option.map_some, if_pos (h i (List.getElem?_eq_some_iff.1 hy).1)]

theorem findL_at (L : List (List Int × List Int)) (i : Nat) (x1 x2 : List Int) (h : L[i]? = some (x1, x2)) (ha : KeysApart L) (j : Nat) : findL x1 L j = some (j + i, arr8 .u8 x2) := by
 induction L generalizing i j with
 | nil => simp at h
 | cons y L ih =>
  unfold findL
  cases i with
  | zero =>
   simp at h
   rw [h, if_pos rfl]
   rfl
  | succ i =>
   rw [if_neg (fun e => by
    have := ha (i + 1) 0 (x1, x2) y h rfl e
    omega)]
   rw [ih i (by simpa using h) (fun a c x z hx hz e => by
    have := ha (a + 1) (c + 1) x z (by simpa using hx) (by simpa using hz) e
    omega) (j + 1)]
   rw [show j + 1 + i = j + (i + 1) by omega]

theorem left_len (L : List (List Int × List Int)) (s : Array Nat) (j : Nat) : ((entsF j L).filter fun e => !s.contains e.born).length = ((List.range' j L.length).filter fun i => !s.contains i).length := by
 induction L generalizing j with
 | nil => rfl
 | cons x L ih =>
  simp only [entsF, List.length_cons, List.range'_succ, List.filter_cons]
  have e : (ent x j).born = j := rfl
  rw [e]
  split
  ·simp only [List.length_cons, ih (j + 1)]
  ·exact ih (j + 1)

theorem size_filter (p : MapEntry → Bool) (l : List MapEntry) : (l.toArray.filter p).size = (l.filter p).length := by
 simp

theorem left_same (A B : List (List Int × List Int)) (s : Array Nat) (h : A.length = B.length) : (leftOf (entsF 0 A).toArray s).size = (leftOf (entsF 0 B).toArray s).size := by
 unfold leftOf
 have e := fun L => left_len L s 0
 have ea := e A
 have eb := e B
 rw [h] at ea
 rw [size_filter, size_filter]
 exact ea.trans eb.symm

theorem rangeLeft_eq {w : World} {b r : Nat} {L : List (List Int × List Int)} {seen : Array Nat} (hm : MapA w b L) (hi : IterA w r b L seen) : w.rangeLeft b r = (leftOf (entsF 0 L).toArray seen).size := by
 unfold World.rangeLeft
 rw [show w.heap[b]? = _ from hm, show w.heap[r]? = _ from hi]

theorem IterA.len {w : World} {r b : Nat} {A B : List (List Int × List Int)} {seen : Array Nat} (h : IterA w r b A seen) (e : A.length = B.length) : IterA w r b B seen := by
 unfold IterA at h ⊢
 rw [← e]
 exact h

theorem Wrote.far {lo hi lo2 hi2 : Nat} {w w1 w2 : World} (h : Wrote lo hi w w1) (k : Wrote lo2 hi2 w1 w2) (hl : w.heap.size ≤ lo2) : Wrote lo hi w w2 :=
 ⟨k.os.trans h.os, k.tape.trans h.tape, k.output.trans h.output, Nat.le_trans h.size k.size, fun j hj hd => (k.block j (Nat.lt_of_lt_of_le hj h.size) (.inl (Nat.lt_of_lt_of_le hj hl))).trans (h.block j hj hd)⟩

theorem Row8.setB {w : World} {g b : Nat} {k : IntKind} {l : List Int} {o : Obj} (h : Row8 w g k l) (hg : g ≠ b) : Row8 (setBlock w b o) g k l := h.heap (by rw [setBlock_size]; exact Nat.le_refl _) (setBlock_other o hg)
theorem IterA.setB {w : World} {r b : Nat} {L : List (List Int × List Int)} {seen : Array Nat} {o : Obj} (h : IterA w r b L seen) (hr : r ≠ b) : IterA (setBlock w b o) r b L seen := h.heap (setBlock_other o hr)

end Go.Proofs.Ytleoohplnkdbdab

/- A letter is taken from all rows of a map: the program. -/
namespace Go.Proofs.Ytleoohplnkdbdab
open Go.RowKit Go.ChangeShapes
open Go.ChangeMaps (setBlock)

set_option maxRecDepth 100000 in
set_option maxHeartbeats 1000000 in
theorem take_any (n k : Nat) (h8 : n ≤ 8) (hk : k + 1 < n) (b : Nat) (L : List (List Int × List Int)) (hkeys : Keys8 L) (hap : KeysApart L) (hv : ∀ x ∈ L, x.2.length = 8) (w : World) (hm : MapA w b L) :
  Calls Try.prog 130 #[.map (some b), .int .i64 ((k : Int) + 1), .int .i64 n] w fun e w' => e = .returned (.tuple #[]) ∧ MapA w' b (L.map fun x => (x.1, thenR n (exR n k) x.2)) ∧ Wrote b (b + 1) w w' := by
 have HK := Lib.hid hkeys
 have HA := Lib.hid hap
 have HV := Lib.hid hv
 have HM := Lib.hid hm
 have zb0 := hm.lt
 clear hkeys hap hv hm
 go_enter Try.func130, Try.ntmps130
 have BB := Lib.hid (Below.refl w.heap.size w)
 go_wp2_with fail
 refine (exchange_any n k h8 hk _).mono ?_
 rintro e w2 ⟨rfl, hb⟩
 replace BB := Lib.hid (below_go BB.out hb BB.out.size)
 clear hb
 have zt0 := BB.out.size
 have RT := Lib.hid (Row8.place w2 .u8 (exR n k) 54 w2.heap.size rfl (exR_len n k h8))
 replace BB := Lib.hid (BB.out.alloc BB.out.size (.cells #[.int .u8 (at8 (exR n k) 0), .int .u8 (at8 (exR n k) 1), .int .u8 (at8 (exR n k) 2), .int .u8 (at8 (exR n k) 3), .int .u8 (at8 (exR n k) 4), .int .u8 (at8 (exR n k) 5), .int .u8 (at8 (exR n k) 6), .int .u8 (at8 (exR n k) 7)] 54))
 replace HM := Lib.hid (HM.out.heap (BB.out.block b zb0))
 have zz := BB.out.size
 go_upto_region 1 with fail
 obtain ⟨W, hW⟩ : ∃ W, W = w2.alloc (.cells #[.int .u8 (at8 (exR n k) 0), .int .u8 (at8 (exR n k) 1), .int .u8 (at8 (exR n k) 2), .int .u8 (at8 (exR n k) 3), .int .u8 (at8 (exR n k) 4), .int .u8 (at8 (exR n k) 5), .int .u8 (at8 (exR n k) 6), .int .u8 (at8 (exR n k) 7)] 54) := ⟨_, rfl⟩
 rw [← hW] at RT BB HM zz ⊢
 clear hW
 obtain ⟨gt, hgt⟩ : ∃ gt, gt = w2.heap.size := ⟨_, rfl⟩
 rw [← hgt] at RT ⊢
 have zt : w.heap.size ≤ gt := by rw [hgt]; exact zt0
 clear hgt
 go_wp2_with (at_range; refine wpList_range_a rfl _ rfl b L rfl HM.out ?_; intro hit)
 have IT := Lib.hid hit
 clear hit
 have ztw := RT.out.lt
 obtain ⟨r, hr⟩ : ∃ r, r = W.heap.size := ⟨_, rfl⟩
 replace HM := Lib.hid (HM.out.alloc (.mapIter (some b) L.length #[] L.length))
 replace RT := Lib.hid (RT.out.alloc (.mapIter (some b) L.length #[] L.length))
 replace BB := Lib.hid (BB.out.alloc zz (.mapIter (some b) L.length #[] L.length))
 have zr : w.heap.size ≤ r ∧ gt < r ∧ b < r := by omega
 obtain ⟨W1, hW1⟩ : ∃ W1, W1 = W.alloc (.mapIter (some b) L.length #[] L.length) := ⟨_, rfl⟩
 rw [← hW1] at IT HM RT BB ⊢
 rw [← hr] at IT ⊢
 clear hW1 hr zz ztw
 go_frame
 go_loopw [] (fun wr => ∃ seen : Array Nat, IterA wr r b (updL n k L seen) seen ∧ MapA wr b (updL n k L seen) ∧ Row8 wr gt .u8 (exR n k) ∧ Wrote b (b + 1) w wr) (fun wr => wr.rangeLeft b r)
 case atStart => exact ⟨#[], by rw [updL_none]; exact IT.out, by rw [updL_none]; exact HM.out, RT.out, below_wrote BB.out⟩
 case round =>
  obtain ⟨seen, hi, hm, hrt, hbb⟩ := hrel
  clear IT HM RT BB
  have IT := Lib.hid hi
  have MW := Lib.hid hm
  have RT := Lib.hid hrt
  have BB := Lib.hid hbb
  clear hi hm hrt hbb
  have zz := BB.out.size
  go_wp2_with (at_next; refine wpList_next_a rfl _ rfl r b (updL n k L seen) seen rfl MW.out IT.out (by omega) ?_ ?_)
  ·intro hall
   have HE := Lib.hid (updL_all n k L seen (fun i hi => hall i (by rw [updL_len]; exact hi)))
   clear hall
   go_wp2
   go_end0
   exact ⟨rfl, by rw [← HE.out]; exact MW.out, BB.out⟩
  ·intro i x1 x2 w' hx hns hi' hm' hwr hlt' hen
   have hen2 : (Instr.entry (.pointer (some ⟨r, 0, none⟩))).run Try.prog w' = .ok (.tuple #[arr8 .u8 x1, arr8 .u8 x2]) w' := hen
   obtain ⟨y, hy1, hy2⟩ := updL_keys n k L seen i (x1, x2) hx
   have l1 : x1.length = 8 := by rw [show x1 = y.1 from hy2]; exact HK.out y (List.mem_of_getElem? hy1)
   have l2 : x2.length = 8 := by
    have hx' := hx
    unfold EntAt at hx'
    rw [updL_get, hy1] at hx'
    simp only [Option.map_some, Option.some.injEq] at hx'
    have hyl := HV.out y (List.mem_of_getElem? hy1)
    split at hx'
    ·rw [← (Prod.mk.inj hx').2]; exact mapR_len _ _ h8
    ·rw [hx'] at hyl; exact hyl
   have hap2 : KeysApart (updL n k L seen) := fun i j x z hx hz e => by
    obtain ⟨p, hp1, hp2⟩ := updL_keys n k L seen i x hx
    obtain ⟨q, hq1, hq2⟩ := updL_keys n k L seen j z hz
    exact HA.out i j p q hp1 hq1 (by rw [← hp2, ← hq2]; exact e)
   have hks2 : Keys8 (updL n k L seen) := fun x hx => by
    obtain ⟨i, hi⟩ := List.getElem?_of_mem hx
    obtain ⟨p, hp1, hp2⟩ := updL_keys n k L seen i x hi
    rw [hp2]
    exact HK.out p (List.mem_of_getElem? hp1)
   have HF : Hid (findL x1 (updL n k L seen) 0 = some (i, arr8 .u8 x2)) := Lib.hid (by simpa using findL_at (updL n k L seen) i x1 x2 hx hap2 0)
   have HPU := Lib.hid (updL_push n k L seen i x1 x2 hx hns)
   have HKS := Lib.hid hks2
   have L1 := Lib.hid l1
   have L2 := Lib.hid l2
   have HLT : Hid (w'.rangeLeft b r < wr.rangeLeft b r) := Lib.hid hlt'
   have IT2 := Lib.hid hi'
   have MW2 := Lib.hid hm'
   have RT2 := Lib.hid (RT.out.heap hwr.size (hwr.block gt RT.out.lt (by omega)))
   have HWR := Lib.hid hwr
   clear hx hns hi' hm' hwr hlt' hen hy1 hy2 l1 l2 hap2 hks2
   go_wp2
   have zw := HWR.out.size
   have zw2 := IT2.out.lt
   have RK := Lib.hid ((Row8.place w' .u8 x1 54 w'.heap.size rfl L1.out).alloc (.cells #[.int .u8 (at8 x2 0), .int .u8 (at8 x2 1), .int .u8 (at8 x2 2), .int .u8 (at8 x2 3), .int .u8 (at8 x2 4), .int .u8 (at8 x2 5), .int .u8 (at8 x2 6), .int .u8 (at8 x2 7)] 54))
   have RL := Lib.hid (Row8.place (w'.alloc (.cells #[.int .u8 (at8 x1 0), .int .u8 (at8 x1 1), .int .u8 (at8 x1 2), .int .u8 (at8 x1 3), .int .u8 (at8 x1 4), .int .u8 (at8 x1 5), .int .u8 (at8 x1 6), .int .u8 (at8 x1 7)] 54)) .u8 x2 54 (w'.heap.size + 1) (by simp) L2.out)
   have RT3 := Lib.hid ((RT2.out.alloc (.cells #[.int .u8 (at8 x1 0), .int .u8 (at8 x1 1), .int .u8 (at8 x1 2), .int .u8 (at8 x1 3), .int .u8 (at8 x1 4), .int .u8 (at8 x1 5), .int .u8 (at8 x1 6), .int .u8 (at8 x1 7)] 54)).alloc (.cells #[.int .u8 (at8 x2 0), .int .u8 (at8 x2 1), .int .u8 (at8 x2 2), .int .u8 (at8 x2 3), .int .u8 (at8 x2 4), .int .u8 (at8 x2 5), .int .u8 (at8 x2 6), .int .u8 (at8 x2 7)] 54))
   have MX := Lib.hid ((MW2.out.alloc (.cells #[.int .u8 (at8 x1 0), .int .u8 (at8 x1 1), .int .u8 (at8 x1 2), .int .u8 (at8 x1 3), .int .u8 (at8 x1 4), .int .u8 (at8 x1 5), .int .u8 (at8 x1 6), .int .u8 (at8 x1 7)] 54)).alloc (.cells #[.int .u8 (at8 x2 0), .int .u8 (at8 x2 1), .int .u8 (at8 x2 2), .int .u8 (at8 x2 3), .int .u8 (at8 x2 4), .int .u8 (at8 x2 5), .int .u8 (at8 x2 6), .int .u8 (at8 x2 7)] 54))
   have IX := Lib.hid ((IT2.out.alloc (.cells #[.int .u8 (at8 x1 0), .int .u8 (at8 x1 1), .int .u8 (at8 x1 2), .int .u8 (at8 x1 3), .int .u8 (at8 x1 4), .int .u8 (at8 x1 5), .int .u8 (at8 x1 6), .int .u8 (at8 x1 7)] 54)).alloc (.cells #[.int .u8 (at8 x2 0), .int .u8 (at8 x2 1), .int .u8 (at8 x2 2), .int .u8 (at8 x2 3), .int .u8 (at8 x2 4), .int .u8 (at8 x2 5), .int .u8 (at8 x2 6), .int .u8 (at8 x2 7)] 54))
   have WX := Lib.hid (below2 w' (.cells #[.int .u8 (at8 x1 0), .int .u8 (at8 x1 1), .int .u8 (at8 x1 2), .int .u8 (at8 x1 3), .int .u8 (at8 x1 4), .int .u8 (at8 x1 5), .int .u8 (at8 x1 6), .int .u8 (at8 x1 7)] 54) (.cells #[.int .u8 (at8 x2 0), .int .u8 (at8 x2 1), .int .u8 (at8 x2 2), .int .u8 (at8 x2 3), .int .u8 (at8 x2 4), .int .u8 (at8 x2 5), .int .u8 (at8 x2 6), .int .u8 (at8 x2 7)] 54))
   obtain ⟨X, hX⟩ : ∃ X, X = ((w'.alloc (.cells #[.int .u8 (at8 x1 0), .int .u8 (at8 x1 1), .int .u8 (at8 x1 2), .int .u8 (at8 x1 3), .int .u8 (at8 x1 4), .int .u8 (at8 x1 5), .int .u8 (at8 x1 6), .int .u8 (at8 x1 7)] 54)).alloc (.cells #[.int .u8 (at8 x2 0), .int .u8 (at8 x2 1), .int .u8 (at8 x2 2), .int .u8 (at8 x2 3), .int .u8 (at8 x2 4), .int .u8 (at8 x2 5), .int .u8 (at8 x2 6), .int .u8 (at8 x2 7)] 54)) := ⟨_, rfl⟩
   rw [← hX] at RK RL RT3 MX IX WX ⊢
   clear hX
   clear hen2
   have zx := WX.out.size
   go_region_held3 (fun u' => (u'.cell? ⟨w'.heap.size, 0, none⟩ = some (.int .u8 (at8 x1 0)) ∧ u'.cell? ⟨w'.heap.size, 1, none⟩ = some (.int .u8 (at8 x1 1)) ∧ u'.cell? ⟨w'.heap.size, 2, none⟩ = some (.int .u8 (at8 x1 2)) ∧ u'.cell? ⟨w'.heap.size, 3, none⟩ = some (.int .u8 (at8 x1 3)) ∧ u'.cell? ⟨w'.heap.size, 4, none⟩ = some (.int .u8 (at8 x1 4)) ∧ u'.cell? ⟨w'.heap.size, 5, none⟩ = some (.int .u8 (at8 x1 5)) ∧ u'.cell? ⟨w'.heap.size, 6, none⟩ = some (.int .u8 (at8 x1 6)) ∧ u'.cell? ⟨w'.heap.size, 7, none⟩ = some (.int .u8 (at8 x1 7))) ∧ (u'.cell? ⟨gt, 0, none⟩ = some (.int .u8 (at8 (exR n k) 0)) ∧ u'.cell? ⟨gt, 1, none⟩ = some (.int .u8 (at8 (exR n k) 1)) ∧ u'.cell? ⟨gt, 2, none⟩ = some (.int .u8 (at8 (exR n k) 2)) ∧ u'.cell? ⟨gt, 3, none⟩ = some (.int .u8 (at8 (exR n k) 3)) ∧ u'.cell? ⟨gt, 4, none⟩ = some (.int .u8 (at8 (exR n k) 4)) ∧ u'.cell? ⟨gt, 5, none⟩ = some (.int .u8 (at8 (exR n k) 5)) ∧ u'.cell? ⟨gt, 6, none⟩ = some (.int .u8 (at8 (exR n k) 6)) ∧ u'.cell? ⟨gt, 7, none⟩ = some (.int .u8 (at8 (exR n k) 7))) ∧ (u'.cell? ⟨w'.heap.size + 1, 0, none⟩ = some (.int .u8 (at8 x2 0)) ∧ u'.cell? ⟨w'.heap.size + 1, 1, none⟩ = some (.int .u8 (at8 x2 1)) ∧ u'.cell? ⟨w'.heap.size + 1, 2, none⟩ = some (.int .u8 (at8 x2 2)) ∧ u'.cell? ⟨w'.heap.size + 1, 3, none⟩ = some (.int .u8 (at8 x2 3)) ∧ u'.cell? ⟨w'.heap.size + 1, 4, none⟩ = some (.int .u8 (at8 x2 4)) ∧ u'.cell? ⟨w'.heap.size + 1, 5, none⟩ = some (.int .u8 (at8 x2 5)) ∧ u'.cell? ⟨w'.heap.size + 1, 6, none⟩ = some (.int .u8 (at8 x2 6)) ∧ u'.cell? ⟨w'.heap.size + 1, 7, none⟩ = some (.int .u8 (at8 x2 7)))) (first | with_reducible exact ⟨(RK.out.drew).flat, (RT3.out.drew).flat, (RL.out.drew).flat⟩ | with_reducible exact ⟨(RK.out.drew.below hb4).flat, (RT3.out.drew.below hb4).flat, (RL.out.drew.below hb4).flat⟩ | with_reducible exact ⟨((RK.out.drew.below hb4).setB (by omega)).flat, ((RT3.out.drew.below hb4).setB (by omega)).flat, ((RL.out.drew.below hb4).setB (by omega)).flat⟩)
    (first
     | (go_at_call 109; refine (then_any n h8 (exR n k) x2 (exR_len n k h8) L2.out (exR_sim n k h8 hk).wide _).mono ?_; rintro e w4 ⟨rfl, hb4⟩; have hup := run_update_old (MX.out.drew.below hb4) HKS.out x1 (thenR n (exR n k) x2) L1.out i _ HF.out))
   clear hup
   have W4 := Lib.hid ((((BB.out.far HWR.out (by omega)).drawn WX.out).trans (below_wrote (Below.refl X.heap.size X).drew)).trans (below_wrote hb4))
   have M4 := Lib.hid (MX.out.drew.below hb4)
   have I4 := Lib.hid (IterA.below (w := X.drew) IX.out hb4)
   have T4 := Lib.hid (RT3.out.drew.below hb4)
   clear hb4
   have M5 : Hid (MapA (setBlock w4 b (.map (entsF 0 ((updL n k L seen).set i (x1, thenR n (exR n k) x2))).toArray (updL n k L seen).length)) b (updL n k L (seen.push i))) := Lib.hid (by
    unfold MapA
    rw [setBlock_same _ M4.out.lt, ← HPU.out, List.length_set])
   have I5 : Hid (IterA (setBlock w4 b (.map (entsF 0 ((updL n k L seen).set i (x1, thenR n (exR n k) x2))).toArray (updL n k L seen).length)) r b (updL n k L (seen.push i)) (seen.push i)) := Lib.hid ((I4.out.setB (by omega)).len (by rw [updL_len, updL_len]))
   go_roundw
   case rel =>
    have zg : gt ≠ b := by omega
    exact ⟨_, _, _, _, _, _, _, _, _, _, _, _, _, ⟨seen.push i, I5.out, M5.out, T4.out.setB zg, W4.out.trans (setBlock_wrote _ _ _)⟩, rfl⟩
   case measure =>
    rw [rangeLeft_eq M5.out I5.out]
    have e := HLT.out
    rw [rangeLeft_eq MW2.out IT2.out, left_same (updL n k L seen) (updL n k L (seen.push i)) _ (by rw [updL_len, updL_len])] at e
    exact e

end Go.Proofs.Ytleoohplnkdbdab

/- Common letters are taken as long as there are any: the program. -/
namespace Go.Proofs.Ytleoohplnkdbdab
open Go.RowKit Go.ChangeShapes

/-- How long a slice is. -/
def lenOf (v : Value) : Nat := match v with
 | .slice _ n _ => n
 | _ => 0

theorem OwnV.lenOf {B : Nat} {w : World} {v : Value} {n : Nat} {xs : List Int} (h : OwnV B w v n xs) : lenOf v = n := by
 obtain ⟨a, cap, rfl, _⟩ := h.form
 rfl

theorem OwnV.wrote {B lo hi : Nat} {w w1 : World} {v : Value} {n : Nat} {xs : List Int} (h : OwnV B w v n xs) (k : Wrote lo hi w w1) (hB : hi ≤ B) : OwnV B w1 v n xs := by
 refine ⟨h.1, ?_⟩
 rcases h.2 with h2 | ⟨g, c, cur, hv, hg, hh, r⟩
 ·exact .inl h2
 ·exact .inr ⟨g, c, cur, hv, hg, by rw [k.block g (Array.getElem?_eq_some_iff.1 hh).1 (.inr (Nat.le_trans hB hg))]; exact hh, r⟩

/-- Behind an append to what is the call's own. -/
theorem wrote_appended {B lo hi : Nat} {w wr w1 : World} {v : Value} {n : Nat} {xs : List Int} {o : Obj} (h : Wrote lo hi w wr) (hB : w.heap.size ≤ B) (ho : OwnV B wr v n xs) (hg : (wr.alloc o).grownBy w1 v.ownBlock) : Wrote lo hi w w1 := by
 have ha : Wrote lo hi w (wr.alloc o) := h.trans (below_wrote ((Below.refl _ _).alloc (Nat.le_refl _) o))
 refine ⟨hg.os.trans ha.os, hg.tape.trans ha.tape, hg.output.trans ha.output, Nat.le_trans ha.size hg.size, fun j hj hd => (hg.block j (Nat.lt_of_lt_of_le hj ha.size) fun e => ?_).trans (ha.block j hj hd)⟩
 have := (World.ownsRow.lt ho j e.symm).1
 omega

theorem MapA.appended {B : Nat} {w w1 : World} {b : Nat} {L : List (List Int × List Int)} {v : Value} {n : Nat} {xs : List Int} {o : Obj} (h : MapA w b L) (hB : b < B) (ho : OwnV B w v n xs) (hg : (w.alloc o).grownBy w1 v.ownBlock) : MapA w1 b L := by
 refine (h.alloc o).heap (hg.block b (h.alloc o).lt fun e => ?_)
 have := (World.ownsRow.lt ho b e.symm).1
 omega

/-- What holds of the map while letters are taken. -/
structure Rests (n b : Nat) (L : List (List Int × List Int)) (vs : List (List Int)) (got : List Int) : Prop where
 keys : Keys8 L
 apart : KeysApart L
 sims : ∀ u ∈ valsL L, Sim n u
 have0 : L ≠ []
 rest : takeR n vs = got ++ takeR n (valsL L)
 room : ∀ u us, valsL L = u :: us → got.length + far u ≤ 196

theorem Rests.step {n b k : Nat} {L : List (List Int × List Int)} {vs : List (List Int)} {got : List Int} (h : Rests n b L vs got) (hc : common (valsL L) (n - 1) 0 = some k) : Rests n b (L.map fun x => (x.1, thenR n (exR n k) x.2)) vs (got ++ [(k : Int) + 1]) := by
 have hvals : valsL (L.map fun x => (x.1, thenR n (exR n k) x.2)) = strip n k (valsL L) := by simp [valsL, strip]
 obtain ⟨_, h2, h3, _⟩ := common_some hc
 refine ⟨fun x hx => ?_, fun i j x y hx hy e => ?_, fun u hu => ?_, ?_, ?_, ?_⟩
 ·obtain ⟨y, hy, rfl⟩ := List.mem_map.1 hx
  exact h.keys y hy
 ·rw [List.getElem?_map] at hx hy
  cases hi : L[i]? with
  | none => rw [hi] at hx; cases hx
  | some p =>
   cases hj : L[j]? with
   | none => rw [hj] at hy; cases hy
   | some q =>
    rw [hi] at hx
    rw [hj] at hy
    simp only [Option.map_some, Option.some.injEq] at hx hy
    exact h.apart i j p q hi hj (by rw [← hx, ← hy] at e; exact e)
 ·rw [hvals] at hu
  obtain ⟨x, hx, rfl⟩ := List.mem_map.1 hu
  have hx := h.sims x hx
  exact thenR_sim (exR_sim n k hx.hi (by omega)) hx
 ·simp
  exact h.have0
 ·rw [hvals]
  cases hv : valsL L with
  | nil =>
   have : L = [] := by simpa [valsL] using hv
   exact absurd this h.have0
  | cons u us =>
   rw [h.rest, hv, takeR_some (by rw [← hv]; exact h.sims) (by rw [← hv]; exact hc)]
   simp
 ·intro u us hu
  rw [hvals] at hu
  cases hv : valsL L with
  | nil => rw [hv] at hu; cases hu
  | cons v us' =>
   rw [hv] at hu
   simp only [strip, List.map_cons, List.cons.injEq] at hu
   rw [← hu.1, List.length_append, List.length_singleton]
   have hvs := h.sims v (by rw [hv]; simp)
   have hd : at8 v (k + 1) < at8 v k := by
    have := h3
    rw [hv] at this
    simp [allBeg] at this
    exact this.1
   have := far_less hvs (show k + 1 < n by omega) hd
   have := h.room v us' hv
   omega

set_option maxRecDepth 100000 in
set_option maxHeartbeats 1000000 in
theorem takeAll_any (n : Nat) (h1 : 1 ≤ n) (h8 : n ≤ 8) (b : Nat) (L : List (List Int × List Int)) (w : World) (hm : MapA w b L) (hR : Rests n b L (valsL L) []) :
  Calls Try.prog 121 #[.map (some b), .int .i64 n] w fun e w' => ∃ a m cap, e = .returned (.slice a m cap) ∧ m ≤ 196 ∧ Own w.heap.size w' a m cap (takeR n (valsL L)) ∧ Wrote b (b + 1) w w' := by
 obtain ⟨i0, hi, hz0, hz1, hz2⟩ := info_parts infoInt
 have HM := Lib.hid hm
 have RR := Lib.hid hR
 have zb0 := hm.lt
 clear hm hR
 go_enter Try.func121, Try.ntmps121
 go_wp2_with fail
 refine (commonLetter_any n h1 h8 b L (fun x hx => (RR.out.sims x.2 (List.mem_map.2 ⟨x, hx, rfl⟩)).len) _ HM.out).mono ?_
 rintro e w0 ⟨rfl, hb⟩
 have M0 := Lib.hid (HM.out.below hb)
 have W0 := Lib.hid (below_wrote (lo := b) (hi := b + 1) hb)
 have O0 : Hid (OwnV w.heap.size w0 (.slice none 0 0) 0 []) := Lib.hid (OwnV.nil _ _)
 clear hb
 go_wp2
 go_loopw [5, 6] (fun v i wr => ∃ (got : List Int) (L' : List (List Int × List Int)), Rests n b L' (valsL L) got ∧ i = .int .i64 (letC (valsL L') n) ∧ OwnV w.heap.size wr v got.length got ∧ MapA wr b L' ∧ Wrote b (b + 1) w wr) (fun v _ _ => 200 - lenOf v)
 case atStart => exact ⟨[], L, RR.out, rfl, O0.out, M0.out, W0.out⟩
 case round =>
  obtain ⟨got, L', hR, rfl, ho, hm, hw⟩ := hrel
  clear M0 W0 O0
  have RS := Lib.hid hR
  have HO := Lib.hid ho
  have MW := Lib.hid hm
  have WW := Lib.hid hw
  clear hR ho hm hw
  have zz := WW.out.size
  cases hc : common (valsL L') (n - 1) 0 with
  | none =>
   have hl : letC (valsL L') n = 0 := by unfold letC; rw [hc]
   have HT : Hid (takeR n (valsL L) = got) := Lib.hid (by rw [RS.out.rest, takeR_none hc, List.append_nil])
   rw [hl]
   clear hl hc
   go_wp2
   go_ret
   obtain ⟨a, cap, rfl, ho'⟩ := HO.out.form
   have hg : got.length ≤ 196 := by
    cases hv : valsL L' with
    | nil =>
     have : L' = [] := by simpa [valsL] using hv
     exact absurd this RS.out.have0
    | cons u us =>
     have := RS.out.room u us hv
     omega
   exact ⟨a, _, cap, rfl, hg, by rw [HT.out]; exact ho', WW.out⟩
  | some k =>
   obtain ⟨_, hk2, _, _⟩ := common_some hc
   have hl : letC (valsL L') n = (k : Int) + 1 := by unfold letC; rw [hc]
   have RN := Lib.hid (RS.out.step hc)
   have hg : got.length ≤ 195 := by
    cases hv : valsL L' with
    | nil =>
     have : L' = [] := by simpa [valsL] using hv
     exact absurd this RS.out.have0
    | cons u us =>
     have := RS.out.room u us hv
     have h2 := RN.out.room (thenR n (exR n k) u) (strip n k us) (by
      have e : valsL (L'.map fun x => (x.1, thenR n (exR n k) x.2)) = strip n k (valsL L') := by simp [valsL, strip]
      rw [e, hv]
      rfl)
     rw [List.length_append, List.length_singleton] at h2
     omega
   rw [hl]
   clear hl hc
   have tne : (((k : Int) + 1) != 0) = true := by rw [bne_iff_ne]; omega
   have KT := Lib.hid (fun W hM => take_any n k h8 (by omega) b L' RS.out.keys RS.out.apart (fun x hx => (RS.out.sims x.2 (List.mem_map.2 ⟨x, hx, rfl⟩)).len) W hM)
   go_wp2_with fail
   refine (KT.out _ MW.out).mono ?_
   rintro e w1 ⟨rfl, hm1, hw1⟩
   clear tne
   have M1 := Lib.hid hm1
   have W1 := Lib.hid (WW.out.trans hw1)
   have HO2 := Lib.hid (HO.out.wrote hw1 (by omega))
   clear hm1 hw1
   have z1 := W1.out.size
   go_wp2_with (at_builtin; refine wpList_append_own _ rfl _ _ 22 rfl w.heap.size 2 i0 (.int .i64 0) 1 8 Try.underlying22 hi hz0 hz1 hz2 rfl (by decide) _ _ _ rfl (World.ownsRow.alloc HO2.out _) ⟨w1.heap.size, 0, none⟩ 1 1 [.int .i64 ((k : Int) + 1)] rfl rfl (one_new w1 ((k : Int) + 1) _) (one_cell _) (by unfold maxLen; omega) (by omega) (by simp; omega) ?_)
   intro v' w2 hown' hgrow _
   have HO3 := Lib.hid (OwnV.appended hown')
   have M3 := Lib.hid (M1.out.appended (B := w.heap.size) zb0 HO2.out hgrow)
   have W3 := Lib.hid (wrote_appended W1.out (Nat.le_refl _) HO2.out hgrow)
   clear hown' hgrow
   go_wp2_with fail
   refine (commonLetter_any n h1 h8 b (L'.map fun x => (x.1, thenR n (exR n k) x.2)) (fun x hx => (RN.out.sims x.2 (List.mem_map.2 ⟨x, hx, rfl⟩)).len) _ M3.out).mono ?_
   rintro e w3 ⟨rfl, hb3⟩
   go_wp2
   go_roundw
   case rel =>
    exact ⟨got ++ [(k : Int) + 1], _, RN.out, rfl, by rw [List.length_append]; exact HO3.out.drawn hb3, M3.out.below hb3, W3.out.drawn hb3⟩
   case measure =>
    have e1 := HO.out.lenOf
    have e2 := HO3.out.lenOf
    rw [e1, e2]
    omega

end Go.Proofs.Ytleoohplnkdbdab

/- The word of a simple braid: the model. -/
namespace Go.Proofs.Ytleoohplnkdbdab
open Go.RowKit Go.ChangeShapes

theorem OwnV.low {B g : Nat} {w : World} {v : Value} {n : Nat} {xs : List Int} (h : OwnV B w v n xs) (hg : g < B) : some g ≠ v.ownBlock := fun e => by
 have := (World.ownsRow.lt h g e.symm).1
 omega

theorem OwnV.drew {B : Nat} {w : World} {v : Value} {n : Nat} {xs : List Int} (h : OwnV B w v n xs) : OwnV B w.drew v n xs := h

/-- A call's block is not what was one's own before. -/
theorem OwnV.apart {B g : Nat} {w0 : World} {v : Value} {n : Nat} {xs : List Int} (h : OwnV B w0 v n xs) (hg : w0.heap.size ≤ g) : some g ≠ v.ownBlock := fun e => by
 have := (World.ownsRow.lt h g e.symm).2
 omega

end Go.Proofs.Ytleoohplnkdbdab

/- The meet of two simple braids: the model. -/
namespace Go.Proofs.Ytleoohplnkdbdab
open Go.RowKit Go.ChangeShapes

/-- How far the row in a block is from ascending. -/
def farAt (w : World) (g : Nat) : Nat :=
 let c := fun j => intOf ((w.cell? ⟨g, j, none⟩).getD (.int .u8 0))
 (196 - (c 1 + 2 * c 2 + 3 * c 3 + 4 * c 4 + 5 * c 5 + 6 * c 6 + 7 * c 7)).toNat

theorem exsR_snoc (n k : Nat) (xs : List Int) : exsR n (xs ++ [(k : Int) + 1]) = thenR n (exsR n xs) (exR n k) := by
 unfold exsR
 rw [List.foldl_append, List.foldl_cons, List.foldl_nil]
 congr 2
 omega

theorem farAt_row {w : World} {g : Nat} {u : List Int} (h : Row8 w g .u8 u) : farAt w g = far u := by
 unfold farAt far wgt
 simp only [h.cell 1 (by omega), h.cell 2 (by omega), h.cell 3 (by omega), h.cell 4 (by omega), h.cell 5 (by omega), h.cell 6 (by omega), h.cell 7 (by omega), Option.getD_some, intOf]

set_option maxRecDepth 100000 in
set_option maxHeartbeats 1000000 in
theorem l02Meet_any (n : Nat) (a b : List Int) (sa : Sim n a) (sb : Sim n b) (w : World) :
  Calls Try.prog 102 #[arr8 .u8 a, arr8 .u8 b, .int .i64 n] w (RetArr .u8 w (exsR n (takeR n [a, b]))) := by
 have h8 := sa.hi
 have SA := Lib.hid sa
 have SB := Lib.hid sb
 have h1 := sa.lo
 clear sa sb
 go_enter Try.func102, Try.ntmps102
 have RA := Lib.hid (((Row8.place w .u8 a 54 w.heap.size rfl SA.out.len).alloc (.cells #[.int .u8 (at8 b 0), .int .u8 (at8 b 1), .int .u8 (at8 b 2), .int .u8 (at8 b 3), .int .u8 (at8 b 4), .int .u8 (at8 b 5), .int .u8 (at8 b 6), .int .u8 (at8 b 7)] 54)).alloc (.cells #[.int .u8 0, .int .u8 0, .int .u8 0, .int .u8 0, .int .u8 0, .int .u8 0, .int .u8 0, .int .u8 0] 54))
 have RB := Lib.hid ((Row8.place (w.alloc (.cells #[.int .u8 (at8 a 0), .int .u8 (at8 a 1), .int .u8 (at8 a 2), .int .u8 (at8 a 3), .int .u8 (at8 a 4), .int .u8 (at8 a 5), .int .u8 (at8 a 6), .int .u8 (at8 a 7)] 54)) .u8 b 54 (w.heap.size + 1) (by simp) SB.out.len).alloc (.cells #[.int .u8 0, .int .u8 0, .int .u8 0, .int .u8 0, .int .u8 0, .int .u8 0, .int .u8 0, .int .u8 0] 54))
 have RZ := Lib.hid (Row8.zeros ((w.alloc (.cells #[.int .u8 (at8 a 0), .int .u8 (at8 a 1), .int .u8 (at8 a 2), .int .u8 (at8 a 3), .int .u8 (at8 a 4), .int .u8 (at8 a 5), .int .u8 (at8 a 6), .int .u8 (at8 a 7)] 54)).alloc (.cells #[.int .u8 (at8 b 0), .int .u8 (at8 b 1), .int .u8 (at8 b 2), .int .u8 (at8 b 3), .int .u8 (at8 b 4), .int .u8 (at8 b 5), .int .u8 (at8 b 6), .int .u8 (at8 b 7)] 54)) .u8 54 (w.heap.size + 1 + 1) (by simp))
 have BB := Lib.hid (below3 w (.cells #[.int .u8 (at8 a 0), .int .u8 (at8 a 1), .int .u8 (at8 a 2), .int .u8 (at8 a 3), .int .u8 (at8 a 4), .int .u8 (at8 a 5), .int .u8 (at8 a 6), .int .u8 (at8 a 7)] 54) (.cells #[.int .u8 (at8 b 0), .int .u8 (at8 b 1), .int .u8 (at8 b 2), .int .u8 (at8 b 3), .int .u8 (at8 b 4), .int .u8 (at8 b 5), .int .u8 (at8 b 6), .int .u8 (at8 b 7)] 54) (.cells #[.int .u8 0, .int .u8 0, .int .u8 0, .int .u8 0, .int .u8 0, .int .u8 0, .int .u8 0, .int .u8 0] 54))
 go_wp2_with fail
 refine (l02Same_any n h8 _).mono ?_
 rintro e w2 ⟨rfl, hb⟩
 replace RA := Lib.hid (RA.out.below hb)
 replace RB := Lib.hid (RB.out.below hb)
 replace RZ := Lib.hid (RZ.out.below hb)
 replace BB := Lib.hid (below_go BB.out hb BB.out.size)
 clear hb
 have zh := RZ.out.lt
 have RO := Lib.hid (Row8.place w2 .u8 (sameR n) 54 w2.heap.size rfl (mapR_len _ _ h8))
 replace RA := Lib.hid (RA.out.alloc (.cells #[.int .u8 (at8 (sameR n) 0), .int .u8 (at8 (sameR n) 1), .int .u8 (at8 (sameR n) 2), .int .u8 (at8 (sameR n) 3), .int .u8 (at8 (sameR n) 4), .int .u8 (at8 (sameR n) 5), .int .u8 (at8 (sameR n) 6), .int .u8 (at8 (sameR n) 7)] 54))
 replace RB := Lib.hid (RB.out.alloc (.cells #[.int .u8 (at8 (sameR n) 0), .int .u8 (at8 (sameR n) 1), .int .u8 (at8 (sameR n) 2), .int .u8 (at8 (sameR n) 3), .int .u8 (at8 (sameR n) 4), .int .u8 (at8 (sameR n) 5), .int .u8 (at8 (sameR n) 6), .int .u8 (at8 (sameR n) 7)] 54))
 replace RZ := Lib.hid (RZ.out.alloc (.cells #[.int .u8 (at8 (sameR n) 0), .int .u8 (at8 (sameR n) 1), .int .u8 (at8 (sameR n) 2), .int .u8 (at8 (sameR n) 3), .int .u8 (at8 (sameR n) 4), .int .u8 (at8 (sameR n) 5), .int .u8 (at8 (sameR n) 6), .int .u8 (at8 (sameR n) 7)] 54))
 replace BB := Lib.hid (BB.out.alloc BB.out.size (.cells #[.int .u8 (at8 (sameR n) 0), .int .u8 (at8 (sameR n) 1), .int .u8 (at8 (sameR n) 2), .int .u8 (at8 (sameR n) 3), .int .u8 (at8 (sameR n) 4), .int .u8 (at8 (sameR n) 5), .int .u8 (at8 (sameR n) 6), .int .u8 (at8 (sameR n) 7)] 54))

 go_upto_region 2 with fail
 obtain ⟨W, hW⟩ : ∃ W, W = w2.alloc (.cells #[.int .u8 (at8 (sameR n) 0), .int .u8 (at8 (sameR n) 1), .int .u8 (at8 (sameR n) 2), .int .u8 (at8 (sameR n) 3), .int .u8 (at8 (sameR n) 4), .int .u8 (at8 (sameR n) 5), .int .u8 (at8 (sameR n) 6), .int .u8 (at8 (sameR n) 7)] 54) := ⟨_, rfl⟩
 rw [← hW] at RA RB RZ RO BB ⊢
 clear hW
 obtain ⟨gh, hgh⟩ : ∃ gh, gh = w2.heap.size := ⟨_, rfl⟩
 rw [← hgh] at RO zh ⊢
 clear hgh
 go_wp2
 go_loopw [8] (fun i wr => ∃ (k : Nat) (got u v : List Int), k + 1 ≤ n ∧ i = .int .i64 ((k : Int) + 1) ∧ Sim n u ∧ Sim n v ∧ takeR n [a, b] = got ++ takeR n [u, v] ∧ (∀ j, j < k → allBeg [u, v] j = false) ∧ Lets n got ∧ Row8 wr w.heap.size .u8 u ∧ Row8 wr (w.heap.size + 1) .u8 v ∧ Row8 wr (w.heap.size + 1 + 1) .u8 [0, 0, 0, 0, 0, 0, 0, 0] ∧ Row8 wr gh .u8 (exsR n got) ∧ Below w.heap.size w wr) (fun i wr => farAt wr w.heap.size * 10 + (n - (intOf i).toNat))
 case atStart => exact ⟨0, [], a, b, h1, rfl, SA.out, SB.out, rfl, fun j hj => absurd hj (Nat.not_lt_zero _), (fun y hy => absurd hy List.not_mem_nil), RA.out, RB.out, RZ.out, RO.out, BB.out⟩
 case round =>
  obtain ⟨k, got, u, v, hk, rfl, hu, hv, ht, hno, hl, ra, rb, rz, ro, hb⟩ := hrel
  clear RA RB RZ RO BB
  have SU := Lib.hid hu
  have SV := Lib.hid hv
  have HT := Lib.hid ht
  have HNO := Lib.hid hno
  have HLT := Lib.hid hl
  have RA := Lib.hid ra
  have RB := Lib.hid rb
  have RZ := Lib.hid rz
  have RO := Lib.hid ro
  have BB := Lib.hid hb
  clear hu hv ht hno hl ra rb rz ro hb
  by_cases hlt : k + 1 < n
  ·have c1 := RA.out.cell k (by omega)
   have c2 := RA.out.cell (k + 1) (by omega)
   have c3 := RB.out.cell k (by omega)
   have c4 := RB.out.cell (k + 1) (by omega)
   have hw1 : IntKind.i64.wrap (k : Int) = k := IntWalk.i64_in _ (by omega)
   have b1 : (k : Int) + 1 < 8 := by omega
   have b2 : (k : Int) < 8 := by omega
   by_cases hd1 : at8 u (k + 1) < at8 u k
   ·by_cases hd2 : at8 v (k + 1) < at8 v k
    ·have z1 := RA.out.lt
     have z2 := RB.out.lt
     go_wp2
     go_quiet (fail)
     clear hw1
     have hb := below_draws wr.heap.size wr nq
     obtain ⟨wq, hwq⟩ : ∃ wq, wq = wr.drewN nq := ⟨_, rfl⟩
     rw [← hwq] at hb ⊢
     have HC : Hid (common [u, v] (n - 1) 0 = some k) := Lib.hid (common_eq (Nat.zero_le k) (by omega) (by simp [allBeg, hd1, hd2]) (fun j _ hj => HNO.out j hj))
     have HF : Hid (far (thenR n (exR n k) u) < far u) := Lib.hid (far_less SU.out hlt hd1)
     have HM : Hid (farAt wr w.heap.size = far u) := Lib.hid (farAt_row RA.out)
     clear hwq c1 c2 c3 c4 z1 z2 hd1 hd2 b1 b2
     replace RA := Lib.hid (RA.out.below hb)
     replace RB := Lib.hid (RB.out.below hb)
     replace RZ := Lib.hid (RZ.out.below hb)
     replace RO := Lib.hid (RO.out.below hb)
     replace BB := Lib.hid (below_go BB.out hb BB.out.size)
     clear hb
     go_wp2_with fail
     refine (l02Exchange_any n k h8 hlt _).mono ?_
     rintro e w6 ⟨rfl, hb⟩
     replace RA := Lib.hid (RA.out.below hb)
     replace RB := Lib.hid (RB.out.below hb)
     replace RZ := Lib.hid (RZ.out.below hb)
     replace RO := Lib.hid (RO.out.below hb)
     replace BB := Lib.hid (below_go BB.out hb BB.out.size)
     clear hb
     have zo := RO.out.lt
     have RE := Lib.hid (Row8.place w6 .u8 (exR n k) 54 w6.heap.size rfl (exR_len n k h8))
     replace RA := Lib.hid (RA.out.alloc (.cells #[.int .u8 (at8 (exR n k) 0), .int .u8 (at8 (exR n k) 1), .int .u8 (at8 (exR n k) 2), .int .u8 (at8 (exR n k) 3), .int .u8 (at8 (exR n k) 4), .int .u8 (at8 (exR n k) 5), .int .u8 (at8 (exR n k) 6), .int .u8 (at8 (exR n k) 7)] 54))
     replace RB := Lib.hid (RB.out.alloc (.cells #[.int .u8 (at8 (exR n k) 0), .int .u8 (at8 (exR n k) 1), .int .u8 (at8 (exR n k) 2), .int .u8 (at8 (exR n k) 3), .int .u8 (at8 (exR n k) 4), .int .u8 (at8 (exR n k) 5), .int .u8 (at8 (exR n k) 6), .int .u8 (at8 (exR n k) 7)] 54))
     replace RZ := Lib.hid (RZ.out.alloc (.cells #[.int .u8 (at8 (exR n k) 0), .int .u8 (at8 (exR n k) 1), .int .u8 (at8 (exR n k) 2), .int .u8 (at8 (exR n k) 3), .int .u8 (at8 (exR n k) 4), .int .u8 (at8 (exR n k) 5), .int .u8 (at8 (exR n k) 6), .int .u8 (at8 (exR n k) 7)] 54))
     replace RO := Lib.hid (RO.out.alloc (.cells #[.int .u8 (at8 (exR n k) 0), .int .u8 (at8 (exR n k) 1), .int .u8 (at8 (exR n k) 2), .int .u8 (at8 (exR n k) 3), .int .u8 (at8 (exR n k) 4), .int .u8 (at8 (exR n k) 5), .int .u8 (at8 (exR n k) 6), .int .u8 (at8 (exR n k) 7)] 54))
     replace BB := Lib.hid (BB.out.alloc BB.out.size (.cells #[.int .u8 (at8 (exR n k) 0), .int .u8 (at8 (exR n k) 1), .int .u8 (at8 (exR n k) 2), .int .u8 (at8 (exR n k) 3), .int .u8 (at8 (exR n k) 4), .int .u8 (at8 (exR n k) 5), .int .u8 (at8 (exR n k) 6), .int .u8 (at8 (exR n k) 7)] 54))
     go_upto_region 7 with fail
     obtain ⟨W6, hW⟩ : ∃ W, W = w6.alloc (.cells #[.int .u8 (at8 (exR n k) 0), .int .u8 (at8 (exR n k) 1), .int .u8 (at8 (exR n k) 2), .int .u8 (at8 (exR n k) 3), .int .u8 (at8 (exR n k) 4), .int .u8 (at8 (exR n k) 5), .int .u8 (at8 (exR n k) 6), .int .u8 (at8 (exR n k) 7)] 54) := ⟨_, rfl⟩
     rw [← hW] at RA RB RZ RO RE BB ⊢
     clear hW
     obtain ⟨ge, hge⟩ : ∃ g, g = w6.heap.size := ⟨_, rfl⟩
     rw [← hge] at RE zo ⊢
     clear hge
     have SW8 := Lib.hid (exsR_sim n h1 h8 got HLT.out).wide
     have SW9 := Lib.hid (exR_sim n k h8 hlt).wide
     have SW10 := Lib.hid (exR_sim n k h8 hlt).wide
     obtain ⟨⟨q0, q1, q2, q3⟩, q4, q5, q6, q7⟩ := RO.out.all
     obtain ⟨⟨e0, e1, e2, e3⟩, e4, e5, e6, e7⟩ := RE.out.all
     go_wp2_with fail
     refine (l02Then_any n h8 (exsR n got) (exR n k) RO.out.len (exR_len n k h8) SW8.out _).mono ?_
     rintro e t8 ⟨rfl, hb⟩
     clear q0 q1 q2 q3 q4 q5 q6 q7 e0 e1 e2 e3 e4 e5 e6 e7
     replace RA := Lib.hid (RA.out.below hb)
     replace RB := Lib.hid (RB.out.below hb)
     replace RZ := Lib.hid (RZ.out.below hb)
     replace RE := Lib.hid (RE.out.below hb)
     replace RO := Lib.hid (RO.out.below hb)
     replace BB := Lib.hid (below_go BB.out hb BB.out.size)
     clear hb
     obtain ⟨⟨d0, d1, d2, d3⟩, d4, d5, d6, d7⟩ := RO.out.all
     obtain ⟨⟨f0, f1, f2, f3⟩, f4, f5, f6, f7⟩ := RO.out.frees
     have zq := RO.out.lt
     go_upto_region 8 with fail
     clear d0 d1 d2 d3 d4 d5 d6 d7 f0 f1 f2 f3 f4 f5 f6 f7 zq
     have RN := Lib.hid (RO.out.fill (thenR n (exsR n got) (exR n k)) (mapR_len _ _ h8))
     replace RA := Lib.hid (RA.out.past gh (by omega) (.int .u8 (at8 (thenR n (exsR n got) (exR n k)) 0)) (.int .u8 (at8 (thenR n (exsR n got) (exR n k)) 1)) (.int .u8 (at8 (thenR n (exsR n got) (exR n k)) 2)) (.int .u8 (at8 (thenR n (exsR n got) (exR n k)) 3)) (.int .u8 (at8 (thenR n (exsR n got) (exR n k)) 4)) (.int .u8 (at8 (thenR n (exsR n got) (exR n k)) 5)) (.int .u8 (at8 (thenR n (exsR n got) (exR n k)) 6)) (.int .u8 (at8 (thenR n (exsR n got) (exR n k)) 7)))
     replace RB := Lib.hid (RB.out.past gh (by omega) (.int .u8 (at8 (thenR n (exsR n got) (exR n k)) 0)) (.int .u8 (at8 (thenR n (exsR n got) (exR n k)) 1)) (.int .u8 (at8 (thenR n (exsR n got) (exR n k)) 2)) (.int .u8 (at8 (thenR n (exsR n got) (exR n k)) 3)) (.int .u8 (at8 (thenR n (exsR n got) (exR n k)) 4)) (.int .u8 (at8 (thenR n (exsR n got) (exR n k)) 5)) (.int .u8 (at8 (thenR n (exsR n got) (exR n k)) 6)) (.int .u8 (at8 (thenR n (exsR n got) (exR n k)) 7)))
     replace RZ := Lib.hid (RZ.out.past gh (by omega) (.int .u8 (at8 (thenR n (exsR n got) (exR n k)) 0)) (.int .u8 (at8 (thenR n (exsR n got) (exR n k)) 1)) (.int .u8 (at8 (thenR n (exsR n got) (exR n k)) 2)) (.int .u8 (at8 (thenR n (exsR n got) (exR n k)) 3)) (.int .u8 (at8 (thenR n (exsR n got) (exR n k)) 4)) (.int .u8 (at8 (thenR n (exsR n got) (exR n k)) 5)) (.int .u8 (at8 (thenR n (exsR n got) (exR n k)) 6)) (.int .u8 (at8 (thenR n (exsR n got) (exR n k)) 7)))
     replace RE := Lib.hid (RE.out.past gh (by omega) (.int .u8 (at8 (thenR n (exsR n got) (exR n k)) 0)) (.int .u8 (at8 (thenR n (exsR n got) (exR n k)) 1)) (.int .u8 (at8 (thenR n (exsR n got) (exR n k)) 2)) (.int .u8 (at8 (thenR n (exsR n got) (exR n k)) 3)) (.int .u8 (at8 (thenR n (exsR n got) (exR n k)) 4)) (.int .u8 (at8 (thenR n (exsR n got) (exR n k)) 5)) (.int .u8 (at8 (thenR n (exsR n got) (exR n k)) 6)) (.int .u8 (at8 (thenR n (exsR n got) (exR n k)) 7)))
     replace BB := Lib.hid (below_fill8 BB.out gh (by omega) (.int .u8 (at8 (thenR n (exsR n got) (exR n k)) 0)) (.int .u8 (at8 (thenR n (exsR n got) (exR n k)) 1)) (.int .u8 (at8 (thenR n (exsR n got) (exR n k)) 2)) (.int .u8 (at8 (thenR n (exsR n got) (exR n k)) 3)) (.int .u8 (at8 (thenR n (exsR n got) (exR n k)) 4)) (.int .u8 (at8 (thenR n (exsR n got) (exR n k)) 5)) (.int .u8 (at8 (thenR n (exsR n got) (exR n k)) 6)) (.int .u8 (at8 (thenR n (exsR n got) (exR n k)) 7)))
     obtain ⟨W8, hW⟩ : ∃ W, W = ((((((((t8.setCell ⟨gh, 0, none⟩ (.int .u8 (at8 (thenR n (exsR n got) (exR n k)) 0))).setCell ⟨gh, 1, none⟩ (.int .u8 (at8 (thenR n (exsR n got) (exR n k)) 1))).setCell ⟨gh, 2, none⟩ (.int .u8 (at8 (thenR n (exsR n got) (exR n k)) 2))).setCell ⟨gh, 3, none⟩ (.int .u8 (at8 (thenR n (exsR n got) (exR n k)) 3))).setCell ⟨gh, 4, none⟩ (.int .u8 (at8 (thenR n (exsR n got) (exR n k)) 4))).setCell ⟨gh, 5, none⟩ (.int .u8 (at8 (thenR n (exsR n got) (exR n k)) 5))).setCell ⟨gh, 6, none⟩ (.int .u8 (at8 (thenR n (exsR n got) (exR n k)) 6))).setCell ⟨gh, 7, none⟩ (.int .u8 (at8 (thenR n (exsR n got) (exR n k)) 7))) := ⟨_, rfl⟩
     rw [← hW] at RA RB RZ RE RN BB ⊢
     clear hW RO
     have RO := RN
     clear RN

     obtain ⟨⟨q0, q1, q2, q3⟩, q4, q5, q6, q7⟩ := RE.out.all
     obtain ⟨⟨e0, e1, e2, e3⟩, e4, e5, e6, e7⟩ := RA.out.all
     go_wp2_with fail
     refine (l02Then_any n h8 (exR n k) u (exR_len n k h8) SU.out.len SW9.out _).mono ?_
     rintro e t9 ⟨rfl, hb⟩
     clear q0 q1 q2 q3 q4 q5 q6 q7 e0 e1 e2 e3 e4 e5 e6 e7
     replace RO := Lib.hid (RO.out.below hb)
     replace RB := Lib.hid (RB.out.below hb)
     replace RZ := Lib.hid (RZ.out.below hb)
     replace RE := Lib.hid (RE.out.below hb)
     replace RA := Lib.hid (RA.out.below hb)
     replace BB := Lib.hid (below_go BB.out hb BB.out.size)
     clear hb
     obtain ⟨⟨d0, d1, d2, d3⟩, d4, d5, d6, d7⟩ := RA.out.all
     obtain ⟨⟨f0, f1, f2, f3⟩, f4, f5, f6, f7⟩ := RA.out.frees
     have zq := RA.out.lt
     go_upto_region 9 with fail
     clear d0 d1 d2 d3 d4 d5 d6 d7 f0 f1 f2 f3 f4 f5 f6 f7 zq
     have RN := Lib.hid (RA.out.fill (thenR n (exR n k) u) (mapR_len _ _ h8))
     replace RO := Lib.hid (RO.out.past w.heap.size (by omega) (.int .u8 (at8 (thenR n (exR n k) u) 0)) (.int .u8 (at8 (thenR n (exR n k) u) 1)) (.int .u8 (at8 (thenR n (exR n k) u) 2)) (.int .u8 (at8 (thenR n (exR n k) u) 3)) (.int .u8 (at8 (thenR n (exR n k) u) 4)) (.int .u8 (at8 (thenR n (exR n k) u) 5)) (.int .u8 (at8 (thenR n (exR n k) u) 6)) (.int .u8 (at8 (thenR n (exR n k) u) 7)))
     replace RB := Lib.hid (RB.out.past w.heap.size (by omega) (.int .u8 (at8 (thenR n (exR n k) u) 0)) (.int .u8 (at8 (thenR n (exR n k) u) 1)) (.int .u8 (at8 (thenR n (exR n k) u) 2)) (.int .u8 (at8 (thenR n (exR n k) u) 3)) (.int .u8 (at8 (thenR n (exR n k) u) 4)) (.int .u8 (at8 (thenR n (exR n k) u) 5)) (.int .u8 (at8 (thenR n (exR n k) u) 6)) (.int .u8 (at8 (thenR n (exR n k) u) 7)))
     replace RZ := Lib.hid (RZ.out.past w.heap.size (by omega) (.int .u8 (at8 (thenR n (exR n k) u) 0)) (.int .u8 (at8 (thenR n (exR n k) u) 1)) (.int .u8 (at8 (thenR n (exR n k) u) 2)) (.int .u8 (at8 (thenR n (exR n k) u) 3)) (.int .u8 (at8 (thenR n (exR n k) u) 4)) (.int .u8 (at8 (thenR n (exR n k) u) 5)) (.int .u8 (at8 (thenR n (exR n k) u) 6)) (.int .u8 (at8 (thenR n (exR n k) u) 7)))
     replace RE := Lib.hid (RE.out.past w.heap.size (by omega) (.int .u8 (at8 (thenR n (exR n k) u) 0)) (.int .u8 (at8 (thenR n (exR n k) u) 1)) (.int .u8 (at8 (thenR n (exR n k) u) 2)) (.int .u8 (at8 (thenR n (exR n k) u) 3)) (.int .u8 (at8 (thenR n (exR n k) u) 4)) (.int .u8 (at8 (thenR n (exR n k) u) 5)) (.int .u8 (at8 (thenR n (exR n k) u) 6)) (.int .u8 (at8 (thenR n (exR n k) u) 7)))
     replace BB := Lib.hid (below_fill8 BB.out w.heap.size (by omega) (.int .u8 (at8 (thenR n (exR n k) u) 0)) (.int .u8 (at8 (thenR n (exR n k) u) 1)) (.int .u8 (at8 (thenR n (exR n k) u) 2)) (.int .u8 (at8 (thenR n (exR n k) u) 3)) (.int .u8 (at8 (thenR n (exR n k) u) 4)) (.int .u8 (at8 (thenR n (exR n k) u) 5)) (.int .u8 (at8 (thenR n (exR n k) u) 6)) (.int .u8 (at8 (thenR n (exR n k) u) 7)))
     obtain ⟨W9, hW⟩ : ∃ W, W = ((((((((t9.setCell ⟨w.heap.size, 0, none⟩ (.int .u8 (at8 (thenR n (exR n k) u) 0))).setCell ⟨w.heap.size, 1, none⟩ (.int .u8 (at8 (thenR n (exR n k) u) 1))).setCell ⟨w.heap.size, 2, none⟩ (.int .u8 (at8 (thenR n (exR n k) u) 2))).setCell ⟨w.heap.size, 3, none⟩ (.int .u8 (at8 (thenR n (exR n k) u) 3))).setCell ⟨w.heap.size, 4, none⟩ (.int .u8 (at8 (thenR n (exR n k) u) 4))).setCell ⟨w.heap.size, 5, none⟩ (.int .u8 (at8 (thenR n (exR n k) u) 5))).setCell ⟨w.heap.size, 6, none⟩ (.int .u8 (at8 (thenR n (exR n k) u) 6))).setCell ⟨w.heap.size, 7, none⟩ (.int .u8 (at8 (thenR n (exR n k) u) 7))) := ⟨_, rfl⟩
     rw [← hW] at RO RB RZ RE RN BB ⊢
     clear hW RA
     have RA := RN
     clear RN

     obtain ⟨⟨q0, q1, q2, q3⟩, q4, q5, q6, q7⟩ := RE.out.all
     obtain ⟨⟨e0, e1, e2, e3⟩, e4, e5, e6, e7⟩ := RB.out.all
     go_wp2_with fail
     refine (l02Then_any n h8 (exR n k) v (exR_len n k h8) SV.out.len SW10.out _).mono ?_
     rintro e t10 ⟨rfl, hb⟩
     clear q0 q1 q2 q3 q4 q5 q6 q7 e0 e1 e2 e3 e4 e5 e6 e7
     replace RO := Lib.hid (RO.out.below hb)
     replace RA := Lib.hid (RA.out.below hb)
     replace RZ := Lib.hid (RZ.out.below hb)
     replace RE := Lib.hid (RE.out.below hb)
     replace RB := Lib.hid (RB.out.below hb)
     replace BB := Lib.hid (below_go BB.out hb BB.out.size)
     clear hb
     obtain ⟨⟨d0, d1, d2, d3⟩, d4, d5, d6, d7⟩ := RB.out.all
     obtain ⟨⟨f0, f1, f2, f3⟩, f4, f5, f6, f7⟩ := RB.out.frees
     have zq := RB.out.lt
     go_upto_region 10 with fail
     clear d0 d1 d2 d3 d4 d5 d6 d7 f0 f1 f2 f3 f4 f5 f6 f7 zq
     have RN := Lib.hid (RB.out.fill (thenR n (exR n k) v) (mapR_len _ _ h8))
     replace RO := Lib.hid (RO.out.past (w.heap.size + 1) (by omega) (.int .u8 (at8 (thenR n (exR n k) v) 0)) (.int .u8 (at8 (thenR n (exR n k) v) 1)) (.int .u8 (at8 (thenR n (exR n k) v) 2)) (.int .u8 (at8 (thenR n (exR n k) v) 3)) (.int .u8 (at8 (thenR n (exR n k) v) 4)) (.int .u8 (at8 (thenR n (exR n k) v) 5)) (.int .u8 (at8 (thenR n (exR n k) v) 6)) (.int .u8 (at8 (thenR n (exR n k) v) 7)))
     replace RA := Lib.hid (RA.out.past (w.heap.size + 1) (by omega) (.int .u8 (at8 (thenR n (exR n k) v) 0)) (.int .u8 (at8 (thenR n (exR n k) v) 1)) (.int .u8 (at8 (thenR n (exR n k) v) 2)) (.int .u8 (at8 (thenR n (exR n k) v) 3)) (.int .u8 (at8 (thenR n (exR n k) v) 4)) (.int .u8 (at8 (thenR n (exR n k) v) 5)) (.int .u8 (at8 (thenR n (exR n k) v) 6)) (.int .u8 (at8 (thenR n (exR n k) v) 7)))
     replace RZ := Lib.hid (RZ.out.past (w.heap.size + 1) (by omega) (.int .u8 (at8 (thenR n (exR n k) v) 0)) (.int .u8 (at8 (thenR n (exR n k) v) 1)) (.int .u8 (at8 (thenR n (exR n k) v) 2)) (.int .u8 (at8 (thenR n (exR n k) v) 3)) (.int .u8 (at8 (thenR n (exR n k) v) 4)) (.int .u8 (at8 (thenR n (exR n k) v) 5)) (.int .u8 (at8 (thenR n (exR n k) v) 6)) (.int .u8 (at8 (thenR n (exR n k) v) 7)))
     replace RE := Lib.hid (RE.out.past (w.heap.size + 1) (by omega) (.int .u8 (at8 (thenR n (exR n k) v) 0)) (.int .u8 (at8 (thenR n (exR n k) v) 1)) (.int .u8 (at8 (thenR n (exR n k) v) 2)) (.int .u8 (at8 (thenR n (exR n k) v) 3)) (.int .u8 (at8 (thenR n (exR n k) v) 4)) (.int .u8 (at8 (thenR n (exR n k) v) 5)) (.int .u8 (at8 (thenR n (exR n k) v) 6)) (.int .u8 (at8 (thenR n (exR n k) v) 7)))
     replace BB := Lib.hid (below_fill8 BB.out (w.heap.size + 1) (by omega) (.int .u8 (at8 (thenR n (exR n k) v) 0)) (.int .u8 (at8 (thenR n (exR n k) v) 1)) (.int .u8 (at8 (thenR n (exR n k) v) 2)) (.int .u8 (at8 (thenR n (exR n k) v) 3)) (.int .u8 (at8 (thenR n (exR n k) v) 4)) (.int .u8 (at8 (thenR n (exR n k) v) 5)) (.int .u8 (at8 (thenR n (exR n k) v) 6)) (.int .u8 (at8 (thenR n (exR n k) v) 7)))
     obtain ⟨W10, hW⟩ : ∃ W, W = ((((((((t10.setCell ⟨(w.heap.size + 1), 0, none⟩ (.int .u8 (at8 (thenR n (exR n k) v) 0))).setCell ⟨(w.heap.size + 1), 1, none⟩ (.int .u8 (at8 (thenR n (exR n k) v) 1))).setCell ⟨(w.heap.size + 1), 2, none⟩ (.int .u8 (at8 (thenR n (exR n k) v) 2))).setCell ⟨(w.heap.size + 1), 3, none⟩ (.int .u8 (at8 (thenR n (exR n k) v) 3))).setCell ⟨(w.heap.size + 1), 4, none⟩ (.int .u8 (at8 (thenR n (exR n k) v) 4))).setCell ⟨(w.heap.size + 1), 5, none⟩ (.int .u8 (at8 (thenR n (exR n k) v) 5))).setCell ⟨(w.heap.size + 1), 6, none⟩ (.int .u8 (at8 (thenR n (exR n k) v) 6))).setCell ⟨(w.heap.size + 1), 7, none⟩ (.int .u8 (at8 (thenR n (exR n k) v) 7))) := ⟨_, rfl⟩
     rw [← hW] at RO RA RZ RE RN BB ⊢
     clear hW RB
     have RB := RN
     clear RN

     go_wp2
     go_roundw
     case rel =>
      refine ⟨0, got ++ [(k : Int) + 1], thenR n (exR n k) u, thenR n (exR n k) v, h1, by go_num, thenR_sim (exR_sim n k h8 hlt) SU.out, thenR_sim (exR_sim n k h8 hlt) SV.out, ?_, fun j hj => absurd hj (Nat.not_lt_zero _), fun y hy => ?_, RA.out, RB.out, RZ.out, ?_, BB.out⟩
      ·rw [HT.out, takeR_some (n := n) (v := u) (vs := [v]) (fun x hx => by
        rcases List.mem_cons.1 hx with rfl | hx
        ·exact SU.out
        ·rw [List.mem_singleton.1 hx]; exact SV.out) HC.out]
       simp [strip]
      ·rcases List.mem_append.1 hy with h | h
       ·exact HLT.out y h
       ·rw [List.mem_singleton.1 h]
        omega
      ·rw [exsR_snoc]
       exact RO.out
     case measure =>
      rw [farAt_row RA.out, HM.out]
      have := HF.out
      simp [intOf]
      omega
    ·have HD := hd2
     go_wp2
     go_quiet (fail)
     clear hw1
     have hb := below_draws wr.heap.size wr nq
     go_wp2
     go_roundw
     case rel =>
      refine ⟨k + 1, got, u, v, by omega, by go_num, SU.out, SV.out, HT.out, fun j hj => ?_, HLT.out, RA.out.below hb, RB.out.below hb, RZ.out.below hb, RO.out.below hb, below_go BB.out hb BB.out.size⟩
      by_cases e : j = k
      ·subst e
       simp [allBeg]
       omega
      ·exact HNO.out j (by omega)
     case measure =>
      rw [farAt_row (RA.out.below hb), farAt_row RA.out]
      simp [intOf]
      omega
   ·have HD := hd1
    have td : decide (at8 u (k + 1) < at8 u k) = false := decide_eq_false hd1
    have z1 := RA.out.lt
    have z2 := RB.out.lt
    go_wp2
    go_quiet (fail)
    clear hw1 td
    have hb := below_draws wr.heap.size wr nq
    go_wp2
    go_roundw
    case rel =>
     refine ⟨k + 1, got, u, v, by omega, by go_num, SU.out, SV.out, HT.out, fun j hj => ?_, HLT.out, RA.out.below hb, RB.out.below hb, RZ.out.below hb, RO.out.below hb, below_go BB.out hb BB.out.size⟩
     by_cases e : j = k
     ·subst e
      simp [allBeg]
      omega
     ·exact HNO.out j (by omega)
    case measure =>
     rw [farAt_row (RA.out.below hb), farAt_row RA.out]
     simp [intOf]
     omega
  ·have hkn : n = k + 1 := by omega
   have HC : Hid (common [u, v] (n - 1) 0 = none) := Lib.hid (common_no fun j _ hj => HNO.out j (by omega))
   have HE : Hid (takeR n [a, b] = got) := Lib.hid (by rw [HT.out, takeR_none HC.out, List.append_nil])
   clear hkn
   obtain ⟨⟨q0, q1, q2, q3⟩, q4, q5, q6, q7⟩ := RO.out.all
   obtain ⟨⟨d0, d1, d2, d3⟩, d4, d5, d6, d7⟩ := RZ.out.all
   obtain ⟨⟨f0, f1, f2, f3⟩, f4, f5, f6, f7⟩ := RZ.out.frees
   have zq := RZ.out.lt
   go_wp2
   obtain ⟨⟨e0, e1, e2, e3⟩, e4, e5, e6, e7⟩ := (RZ.out.fill (exsR n got) RO.out.len).all
   refine bodyPost_ret (v := arr8 .u8 (exsR n got)) (by simp [results, Try.results102, go_sem, e0, e1, e2, e3, e4, e5, e6, e7]) rfl ⟨by rw [HE.out], ?_⟩
   exact below_fill8 BB.out _ (by omega) _ _ _ _ _ _ _ _

end Go.Proofs.Ytleoohplnkdbdab
