/- A map of arrays whose rows are written while it is ranged over: lemmas. -/
import Derived.Test.YtkedkleddpnanaaMapC
import Derived.Test.YtkedkleddpnanaaExch
namespace Go.Proofs.Ytkedkleddpnanaa
open Go.RowKit Go.ChangeShapes
open Go.ChangeMaps (setBlock)

/-- The list behind the entries that have come. -/
def updL (n k : Nat) (L : List (List Int × List Int)) (seen : Array Nat) : List (List Int × List Int) := L.mapIdx fun i x => if seen.contains i = true then (x.1, thenR n (exR n k) x.2) else x

/-- No key stands twice. -/
def KeysApart (L : List (List Int × List Int)) : Prop := ∀ (i j : Nat) (x y : List Int × List Int), L[i]? = some x → L[j]? = some y → x.1 = y.1 → i = j

theorem updL_len (n k : Nat) (L : List (List Int × List Int)) (seen : Array Nat) : (updL n k L seen).length = L.length := by simp [updL]

theorem updL_get (n k : Nat) (L : List (List Int × List Int)) (seen : Array Nat) (i : Nat) : (updL n k L seen)[i]? = (L[i]?).map fun x => if seen.contains i = true then (x.1, thenR n (exR n k) x.2) else x := by
  unfold updL
  rw [List.getElem?_mapIdx]

theorem updL_keys (n k : Nat) (L : List (List Int × List Int)) (seen : Array Nat) (i : Nat) (x : List Int × List Int) (h : (updL n k L seen)[i]? = some x) : ∃ y, L[i]? = some y ∧ x.1 = y.1 := by
  rw [updL_get] at h
  cases hy : L[i]? with
  | none => rw [hy] at h; cases h
  | some y =>
    rw [hy] at h
    simp only [Option.map_some, Option.some.injEq] at h
    refine ⟨y, rfl, ?_⟩
    rw [← h]
    split <;> rfl

theorem updL_none (n k : Nat) (L : List (List Int × List Int)) : updL n k L #[] = L := by
  refine List.ext_getElem? fun i => ?_
  rw [updL_get]
  cases L[i]? <;> simp

theorem updL_push (n k : Nat) (L : List (List Int × List Int)) (seen : Array Nat) (i : Nat) (x1 x2 : List Int) (h : (updL n k L seen)[i]? = some (x1, x2)) (hs : seen.contains i = false) :
    (updL n k L seen).set i (x1, thenR n (exR n k) x2) = updL n k L (seen.push i) := by
  have hL : L[i]? = some (x1, x2) := by
    rw [updL_get] at h
    cases hy : L[i]? with
    | none => rw [hy] at h; cases h
    | some y =>
      rw [hy] at h
      simp only [Option.map_some, Option.some.injEq, hs, Bool.false_eq_true, if_false] at h
      rw [h]
  have hlt := (List.getElem?_eq_some_iff.1 hL).1
  refine List.ext_getElem? fun j => ?_
  rw [List.getElem?_set, updL_get, updL_get]
  by_cases e : i = j
  · subst e
    rw [if_pos rfl, if_pos (by rw [updL_len]; exact hlt), hL]
    simp
  · rw [if_neg e]
    have : (seen.push i).contains j = seen.contains j := by
      rw [Bool.eq_iff_iff]
      simp
      omega
    rw [this]

theorem updL_all (n k : Nat) (L : List (List Int × List Int)) (seen : Array Nat) (h : ∀ i, i < L.length → seen.contains i = true) : updL n k L seen = L.map fun x => (x.1, thenR n (exR n k) x.2) := by
  refine List.ext_getElem? fun i => ?_
  rw [updL_get, List.getElem?_map]
  cases hy : L[i]? with
  | none => rfl
  | some y => rw [Option.map_some, Option.map_some, if_pos (h i (List.getElem?_eq_some_iff.1 hy).1)]

theorem findL_at (L : List (List Int × List Int)) (i : Nat) (x1 x2 : List Int) (h : L[i]? = some (x1, x2)) (ha : KeysApart L) (j : Nat) : findL x1 L j = some (j + i, arr8 .u8 x2) := by
  induction L generalizing i j with
  | nil => simp at h
  | cons y L ih =>
    unfold findL
    cases i with
    | zero =>
      simp at h
      rw [h, if_pos rfl]
      rfl
    | succ i =>
      rw [if_neg (fun e => by
        have := ha (i + 1) 0 (x1, x2) y h rfl e
        omega)]
      rw [ih i (by simpa using h) (fun a c x z hx hz e => by
        have := ha (a + 1) (c + 1) x z (by simpa using hx) (by simpa using hz) e
        omega) (j + 1)]
      rw [show j + 1 + i = j + (i + 1) by omega]

theorem left_len (L : List (List Int × List Int)) (s : Array Nat) (j : Nat) : ((entsF j L).filter fun e => !s.contains e.born).length = ((List.range' j L.length).filter fun i => !s.contains i).length := by
  induction L generalizing j with
  | nil => rfl
  | cons x L ih =>
    simp only [entsF, List.length_cons, List.range'_succ, List.filter_cons]
    have e : (ent x j).born = j := rfl
    rw [e]
    split
    · simp only [List.length_cons, ih (j + 1)]
    · exact ih (j + 1)

theorem size_filter (p : MapEntry → Bool) (l : List MapEntry) : (l.toArray.filter p).size = (l.filter p).length := by
  simp

theorem left_same (A B : List (List Int × List Int)) (s : Array Nat) (h : A.length = B.length) : (leftOf (entsF 0 A).toArray s).size = (leftOf (entsF 0 B).toArray s).size := by
  unfold leftOf
  have e := fun L => left_len L s 0
  have ea := e A
  have eb := e B
  rw [h] at ea
  rw [size_filter, size_filter]
  exact ea.trans eb.symm

theorem rangeLeft_eq {w : World} {b r : Nat} {L : List (List Int × List Int)} {seen : Array Nat} (hm : MapA w b L) (hi : IterA w r b L seen) : w.rangeLeft b r = (leftOf (entsF 0 L).toArray seen).size := by
  unfold World.rangeLeft
  rw [show w.heap[b]? = _ from hm, show w.heap[r]? = _ from hi]

theorem IterA.len {w : World} {r b : Nat} {A B : List (List Int × List Int)} {seen : Array Nat} (h : IterA w r b A seen) (e : A.length = B.length) : IterA w r b B seen := by
  unfold IterA at h ⊢
  rw [← e]
  exact h

theorem Wrote.far {lo hi lo2 hi2 : Nat} {w w1 w2 : World} (h : Wrote lo hi w w1) (k : Wrote lo2 hi2 w1 w2) (hl : w.heap.size ≤ lo2) : Wrote lo hi w w2 :=
  ⟨k.os.trans h.os, k.tape.trans h.tape, k.output.trans h.output, Nat.le_trans h.size k.size, fun j hj hd => (k.block j (Nat.lt_of_lt_of_le hj h.size) (.inl (Nat.lt_of_lt_of_le hj hl))).trans (h.block j hj hd)⟩

theorem Row8.setB {w : World} {g b : Nat} {k : IntKind} {l : List Int} {o : Obj} (h : Row8 w g k l) (hg : g ≠ b) : Row8 (setBlock w b o) g k l := h.heap (by rw [setBlock_size]; exact Nat.le_refl _) (setBlock_other o hg)
theorem IterA.setB {w : World} {r b : Nat} {L : List (List Int × List Int)} {seen : Array Nat} {o : Obj} (h : IterA w r b L seen) (hr : r ≠ b) : IterA (setBlock w b o) r b L seen := h.heap (setBlock_other o hr)

end Go.Proofs.Ytkedkleddpnanaa
