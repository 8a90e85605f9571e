/- A map of arrays of eight bytes by such arrays, its entries written out: the operations on it. -/
import Derived.Test.YtkedkleddpnanaaIIs
import Derived.Maps.RangeRun
import Derived.Carry
namespace Go.Proofs.Ytkedkleddpnanaa
open Go.RowKit Go.ChangeShapes
open Go.ChangeMaps (setBlock)

/-- Entry number i. -/
def ent (x : List Int × List Int) (i : Nat) : MapEntry := { key := arr8 .u8 x.1, val := arr8 .u8 x.2, born := i }

def entsF : Nat → List (List Int × List Int) → List MapEntry
  | _, [] => []
  | i, x :: L => ent x i :: entsF (i + 1) L

/-- The block b is a map with these entries. -/
def MapA (w : World) (b : Nat) (L : List (List Int × List Int)) : Prop := w.heap[b]? = some (.map (entsF 0 L).toArray L.length)

/-- All keys are rows of eight. -/
def Keys8 (L : List (List Int × List Int)) : Prop := ∀ x ∈ L, x.1.length = 8

theorem MapA.lt {w : World} {b : Nat} {L : List (List Int × List Int)} (h : MapA w b L) : b < w.heap.size := (Array.getElem?_eq_some_iff.1 h).1
theorem MapA.heap {w w' : World} {b : Nat} {L : List (List Int × List Int)} (h : MapA w b L) (hb : w'.heap[b]? = w.heap[b]?) : MapA w' b L := hb.trans h
theorem MapA.below {w w' : World} {b : Nat} {L : List (List Int × List Int)} (h : MapA w b L) (k : Below w.heap.size w w') : MapA w' b L := h.heap (k.block b h.lt)
theorem MapA.alloc {w : World} {b : Nat} {L : List (List Int × List Int)} (h : MapA w b L) (o : Obj) : MapA (w.alloc o) b L := h.below ((Below.refl _ _).alloc (Nat.le_refl _) o)
theorem MapA.drew {w : World} {b : Nat} {L : List (List Int × List Int)} (h : MapA w b L) : MapA w.drew b L := h
theorem MapA.setCell {w : World} {b : Nat} {L : List (List Int × List Int)} (h : MapA w b L) {p : Addr} (hp : p.block ≠ b) (x : Value) : MapA (w.setCell p x) b L := h.heap (Below.heap_setCell _ _ _ _ (fun e => hp e.symm))

theorem check_byte (e : Bool) (d : Nat) (v : Int) (w : World) : (Instr.checkKey e (d + 1) 5 (.int .u8 v)).run Try.prog w = .ok () w := by
  have he : ∀ w, (underlying 5).run Try.prog w = .ok (.int .u8) w := fun _ => by kernel_rfl
  simp [Instr.checkKey, he]

theorem check8_at (e : Bool) (d : Nat) (k : List Int) (w : World) : (Instr.checkKey e (d + 2) 26 (.agg (cells8 .u8 k))).run Try.prog w = .ok () w := by
  have hu : ∀ w, (underlying 26).run Try.prog w = .ok (.array 8 5) w := fun _ => by kernel_rfl
  have hz : ∀ w, (sizeOf 5).run Try.prog w = .ok 1 w := fun _ => by kernel_rfl
  rw [Instr.checkKey]
  simp only [Sem.run_bind, hu, Result.andThen_ok, Std.Legacy.Range.forIn_eq_forIn_range', Std.Legacy.Range.size, Nat.sub_zero, Nat.add_one_sub_one, Nat.div_one]
  have hl : ∀ i ∈ List.range' 0 8 1, i < 8 := fun i hi => by simpa using (List.mem_range'_1.1 hi).2
  generalize List.range' 0 8 1 = l at hl ⊢
  induction l with
  | nil => simp
  | cons i l ih =>
    have h1 := part8 k i (hl i (by simp)) w
    simp only [List.forIn_cons, Sem.run_bind, h1, check_byte, Result.andThen_ok, hz, Sem.run_pure]
    exact ih fun j hj => hl j (by simp [hj])

theorem check8 (e : Bool) (k : List Int) (w : World) : (Instr.checkKey e 10000 26 (arr8 .u8 k)).run Try.prog w = .ok () w := check8_at e 9998 k w

/-- Where a key stands. -/
def findL (k : List Int) : List (List Int × List Int) → Nat → Option (Nat × Value)
  | [], _ => none
  | x :: L, i => if k = x.1 then some (i, arr8 .u8 x.2) else findL k L (i + 1)

theorem run_asking (k : List Int) (hk : k.length = 8) (L : List (List Int × List Int)) (hL : Keys8 L) (i j : Nat) (w : World) : (Instr.findAsking 26 (arr8 .u8 k) (entsF j L) i).run Try.prog w = .ok (findL k L i) w := by
  induction L generalizing i j with
  | nil => simp [entsF, Instr.findAsking, findL]
  | cons x L ih =>
    have h1 : (Op.equal 26 (arr8 .u8 k) (arr8 .u8 x.1)).run Try.prog w = .ok (decide (k = x.1)) w := equal8 k x.1 hk (hL x (by simp)) w
    simp only [entsF, ent, Instr.findAsking, Sem.run_bind, h1, Result.andThen_ok, findL, decide_eq_true_eq]
    split
    · simp
    · exact ih (fun y hy => hL y (by simp [hy])) (i + 1) (j + 1)

theorem run_find (k : List Int) (hk : k.length = 8) (L : List (List Int × List Int)) (hL : Keys8 L) (w : World) : (Instr.findKey 26 (arr8 .u8 k) (entsF 0 L)).run Try.prog w = .ok (findL k L 0) w := by
  have hu : ∀ w, (underlying 26).run Try.prog w = .ok (.array 8 5) w := fun _ => by kernel_rfl
  unfold Instr.findKey
  simp only [Sem.run_bind, hu, Result.andThen_ok]
  cases L with
  | nil => simp [entsF, Instr.findNow, findL]
  | cons x L =>
    have h1 := run_asking k hk (x :: L) hL 0 0 w
    simp only [entsF, ent, Instr.findNow, Instr.sameNow] at h1 ⊢
    exact h1

theorem same_bits (k : List Int) : Instr.sameBits 10000 (arr8 .u8 k) (arr8 .u8 k) = true := by
  rw [show (10000 : Nat) = 9999 + 1 from rfl]
  simp [Instr.sameBits]

theorem run_stays (k : List Int) (w : World) : (Instr.keyThatStays (arr8 .u8 k) (arr8 .u8 k)).run Try.prog w = .ok (arr8 .u8 k) w := by
  unfold Instr.keyThatStays
  rw [if_pos (same_bits k)]
  simp

theorem entsF_snoc (L : List (List Int × List Int)) (x : List Int × List Int) (i : Nat) : entsF i (L ++ [x]) = entsF i L ++ [ent x (i + L.length)] := by
  induction L generalizing i with
  | nil => simp [entsF]
  | cons y L ih =>
    simp only [List.cons_append, entsF, ih, List.length_cons]
    rw [show i + 1 + L.length = i + (L.length + 1) by omega]

theorem entsF_get (L : List (List Int × List Int)) (i j : Nat) : (entsF i L)[j]? = (L[j]?).map fun x => ent x (i + j) := by
  induction L generalizing i j with
  | nil => simp [entsF]
  | cons y L ih =>
    cases j with
    | zero => simp [entsF]
    | succ j =>
      simp only [entsF, List.getElem?_cons_succ, ih]
      rw [show i + 1 + j = i + (j + 1) by omega]

theorem entsF_len (L : List (List Int × List Int)) (i : Nat) : (entsF i L).length = L.length := by
  induction L generalizing i with
  | nil => rfl
  | cons y L ih => simp [entsF, ih]

/-- A new key. -/
theorem run_update_new {w : World} {b : Nat} {L : List (List Int × List Int)} (h : MapA w b L) (hL : Keys8 L) (k v : List Int) (hk : k.length = 8) (hn : findL k L 0 = none) :
    (Instr.mapUpdate 106 (.map (some b)) (arr8 .u8 k) (arr8 .u8 v)).run Try.prog w = .ok () (setBlock w b (.map (entsF 0 (L ++ [(k, v)])).toArray (L ++ [(k, v)]).length)) := by
  have hu : ∀ w, (underlying 106).run Try.prog w = .ok (.map 26 26) w := fun _ => by kernel_rfl
  have h' : w.heap[b]? = some (.map (entsF 0 L).toArray L.length) := h
  have hf := run_find k hk L hL w
  rw [hn] at hf
  simp only [Instr.mapUpdate, Sem.run_bind, hu, Result.andThen_ok, MapKept.run_getObj_map h', check8, hf, MapKept.run_setObj_map _ h']
  rw [entsF_snoc]
  simp [setBlock, ent]

theorem findL_some {k : List Int} {L : List (List Int × List Int)} {i j : Nat} {u : Value} (h : findL k L i = some (j, u)) : ∃ m x, j = i + m ∧ L[m]? = some x ∧ x.1 = k ∧ u = arr8 .u8 x.2 := by
  induction L generalizing i with
  | nil => simp [findL] at h
  | cons y L ih =>
    unfold findL at h
    by_cases e : k = y.1
    · rw [if_pos e] at h
      cases h
      exact ⟨0, y, rfl, rfl, e.symm, rfl⟩
    · rw [if_neg e] at h
      obtain ⟨m, x, h1, h2, h3, h4⟩ := ih h
      exact ⟨m + 1, x, by omega, by simpa using h2, h3, h4⟩

/-- A key that is there. -/
theorem run_update_old {w : World} {b : Nat} {L : List (List Int × List Int)} (h : MapA w b L) (hL : Keys8 L) (k v : List Int) (hk : k.length = 8) (m : Nat) (u : Value) (hn : findL k L 0 = some (m, u)) :
    (Instr.mapUpdate 106 (.map (some b)) (arr8 .u8 k) (arr8 .u8 v)).run Try.prog w = .ok () (setBlock w b (.map (entsF 0 (L.set m (k, v))).toArray (L.set m (k, v)).length)) := by
  have hu : ∀ w, (underlying 106).run Try.prog w = .ok (.map 26 26) w := fun _ => by kernel_rfl
  have h' : w.heap[b]? = some (.map (entsF 0 L).toArray L.length) := h
  have hf := run_find k hk L hL w
  rw [hn] at hf
  obtain ⟨m', x, e1, e2, e3, e4⟩ := findL_some hn
  obtain rfl : m = m' := by omega
  have hg : (((entsF 0 L).toArray[m]?).map (·.key)).getD (arr8 .u8 k) = arr8 .u8 k := by
    simp [entsF_get, e2, ent, e3]
  simp only [Instr.mapUpdate, Sem.run_bind, hu, Result.andThen_ok, MapKept.run_getObj_map h', check8, hf, hg, run_stays, MapKept.run_setObj_map _ h']
  have hm : m < L.length := (List.getElem?_eq_some_iff.1 e2).1
  have he : (entsF 0 L).toArray.modify m (fun e => { e with key := arr8 .u8 k, val := arr8 .u8 v }) = (entsF 0 (L.set m (k, v))).toArray := by
    apply Array.ext'
    refine List.ext_getElem? fun j => ?_
    simp only [Array.toList_modify, List.getElem?_modify, entsF_get, List.getElem?_set, Nat.zero_add]
    by_cases e : m = j
    · subst e
      simp [ent, hm]
    · simp [e]
  rw [he, List.length_set]
  rfl

end Go.Proofs.Ytkedkleddpnanaa
