/- Free words are joined: plain. -/
import Derived.Test.YtehcbamfendbaaaSeCmbQ
namespace Go.Proofs.Ytehcbamfendbaaa
open Go.RowKit Go.ChangeShapes

theorem Red.last {g : List Int} {y : Int} (h : Red (g ++ [y])) : g.getLast? ≠ some (-y) := by
 intro hl
 have hg := h.front
 unfold Red at h hg
 rw [joinF_snoc, hg, freeStep, if_pos hl] at h
 have := congrArg List.length h
 rw [List.length_dropLast, List.length_append, List.length_singleton] at this
 omega

theorem Red.take {xs : List Int} (h : Red xs) (k : Nat) : Red (xs.take k) := by
 by_cases hk : xs.length ≤ k
 ·rw [List.take_of_length_le hk]; exact h
 ·obtain ⟨d, hd⟩ : ∃ d, xs.length = k + d := ⟨xs.length - k, by omega⟩
  clear hk
  induction d generalizing xs with
  | zero => rw [List.take_of_length_le (by omega)]; exact h
  | succ d ih =>
   rcases List.eq_nil_or_concat xs with rfl | ⟨g, y, rfl⟩
   ·simp at hd
   ·rw [List.concat_eq_append] at h hd ⊢
    rw [List.length_append, List.length_singleton] at hd
    rw [List.take_append_of_le_length (by omega)]
    exact ih h.front (by omega)

/-- Neighbours are no opposites. -/
theorem Red.adj {xs : List Int} (h : Red xs) (k : Nat) (hk : k + 1 < xs.length) : xs.getD k 0 ≠ -xs.getD (k + 1) 0 := by
 have h2 := h.take (k + 1 + 1)
 rw [take_snoc xs (k + 1) hk] at h2
 intro e
 apply h2.last
 rw [take_snoc xs k (by omega), List.getLast?_append, e]
 simp

theorem join_apart (ys : List Int) : ∀ g : List Int, (∀ k, k + 1 < ys.length → ys.getD k 0 ≠ -ys.getD (k + 1) 0) → (ys = [] ∨ g.getLast? ≠ some (-(ys.getD 0 0))) → joinF g ys = g ++ ys := by
 induction ys with
 | nil => intro g _ _; simp [joinF]
 | cons y ys ih =>
  intro g hadj h0
  have hy : g.getLast? ≠ some (-y) := h0.resolve_left (by simp)
  show joinF (freeStep g y) ys = _
  rw [freeStep, if_neg hy, ih (g ++ [y])]
  ·simp
  ·intro k hk
   have := hadj (k + 1) (by simp; omega)
   simpa using this
  ·cases ys with
   | nil => exact .inl rfl
   | cons z zs =>
    right
    have := hadj 0 (by simp)
    simp at this
    simp
    exact this

theorem join_cut (f own : List Int) : ∀ c : Nat, c ≤ f.length → c ≤ own.length → (∀ i, i < c → f.getD (f.length - 1 - i) 0 = -own.getD i 0) → joinF f own = joinF (f.take (f.length - c)) (own.drop c)
 | 0, _, _, _ => by simp
 | c + 1, h1, h2, h => by
  rw [join_cut f own c (by omega) (by omega) fun i hi => h i (by omega)]
  rw [List.drop_eq_getElem_cons (by omega)]
  show joinF (freeStep (f.take (f.length - c)) own[c]) (own.drop (c + 1)) = _
  congr 1
  have hc := h c (by omega)
  have e : f.length - c = f.length - (c + 1) + 1 := by omega
  have e2 : f.length - 1 - c = f.length - (c + 1) := by omega
  rw [e2] at hc
  have e3 : own.getD c 0 = own[c] := by simp [List.getD, show c < own.length by omega]
  rw [e3] at hc
  rw [e, take_snoc f _ (by omega), freeStep, if_pos (by rw [List.getLast?_append, hc]; simp)]
  simp

/-- What joinedFree makes: where the letters meet, so many are cut. -/
theorem join_done (f own : List Int) (c : Nat) (ho : Red own) (h1 : c ≤ f.length) (h2 : c ≤ own.length) (h : ∀ i, i < c → f.getD (f.length - 1 - i) 0 = -own.getD i 0) (hend : c = f.length ∨ c = own.length ∨ f.getD (f.length - 1 - c) 0 ≠ -own.getD c 0) :
  joinF f own = f.take (f.length - c) ++ own.drop c := by
 rw [join_cut f own c h1 h2 h]
 refine join_apart _ _ (fun k hk => ?_) ?_
 ·rw [List.length_drop] at hk
  have := ho.adj (c + k) (by omega)
  simpa [List.getD, List.getElem?_drop, Nat.add_assoc] using this
 ·by_cases hc : c = own.length
  ·left; rw [hc]; exact List.drop_length
  ·right
   have e0 : (own.drop c).getD 0 0 = own.getD c 0 := by simp [List.getD, List.getElem?_drop]
   rw [e0]
   by_cases hf : c = f.length
   ·rw [hf, Nat.sub_self]; simp
   ·have h3 := (hend.resolve_left hf).resolve_left hc
    have e : f.length - c = f.length - 1 - c + 1 := by omega
    rw [e, take_snoc f _ (by omega), List.getLast?_append]
    simpa using h3

/-- A slice of numbers that lies at the beginning of a block of its own, whatever its capacity. -/
def OwnP (B : Nat) (w : World) (a : Option Addr) (n : Nat) (xs : List Int) : Prop :=
 xs.length = n ∧ ((n = 0 ∧ xs = []) ∨ ∃ g cur, a = some ⟨g, 0, none⟩ ∧ B ≤ g ∧ w.heap[g]? = some (.cells cur 2 (0, 0)) ∧ n ≤ cur.size ∧ cur.size ≤ maxLen ∧ cur.toList.take n = ints xs)

theorem Own.ownP {B : Nat} {w : World} {a : Option Addr} {n cap : Nat} {xs : List Int} (h : Own B w a n cap xs) : OwnP B w a n xs := by
 have hl := h.len
 rcases h.2 with ⟨hv, h0⟩ | ⟨g, c, cur, hv, hb, hh, e1, e2, e3, e4⟩
 ·subst h0; exact ⟨hl, .inl ⟨rfl, List.eq_nil_of_length_eq_zero hl⟩⟩
 ·simp only [Value.slice.injEq] at hv
  obtain ⟨rfl, -, rfl⟩ := hv
  rw [Nat.mul_one] at e3 e4
  exact ⟨hl, .inr ⟨g, cur, rfl, hb, hh, by omega, by omega, e4⟩⟩

theorem OwnP.reads {B : Nat} {w : World} {a : Option Addr} {n : Nat} {xs : List Int} (h : OwnP B w a n xs) : Reads w a n xs := by
 obtain ⟨hl, h | ⟨g, cur, rfl, hb, hh, e1, e2, e3⟩⟩ := h
 ·obtain ⟨rfl, rfl⟩ := h; exact .zero rfl
 ·refine ⟨hl, ?_⟩
  by_cases h0 : n = 0
  ·exact .inl h0
  ·refine .inr ⟨g, 0, rfl, fun j hj => ?_⟩
   have hc : w.cell? ⟨g, 0 + j, none⟩ = cur[j]? := by simp [World.cell?, hh]
   rw [hc, ← Array.getElem?_toList]
   have h4 : (cur.toList.take n)[j]? = (ints xs)[j]? := by rw [e3]
   rw [List.getElem?_take, if_pos hj] at h4
   rw [h4]
   simp [ints, List.getD, show j < xs.length by omega]

theorem OwnP.heap {B : Nat} {w w' : World} {a : Option Addr} {n : Nat} {xs : List Int} (h : OwnP B w a n xs) (hb : ∀ g, B ≤ g → a.map (·.block) = some g → g < w.heap.size → w'.heap[g]? = w.heap[g]?) : OwnP B w' a n xs := by
 obtain ⟨hl, h | ⟨g, cur, rfl, hg, hh, e⟩⟩ := h
 ·exact ⟨hl, .inl h⟩
 ·exact ⟨hl, .inr ⟨g, cur, rfl, hg, (hb g hg rfl (Array.getElem?_eq_some_iff.1 hh).1).trans hh, e⟩⟩

theorem OwnP.below {B : Nat} {w w' : World} {a : Option Addr} {n : Nat} {xs : List Int} (h : OwnP B w a n xs) (k : Below w.heap.size w w') : OwnP B w' a n xs := h.heap fun g _ _ hl => k.block g hl

theorem OwnP.mono {B B' : Nat} {w : World} {a : Option Addr} {n : Nat} {xs : List Int} (h : OwnP B w a n xs) (hB : B' ≤ B) : OwnP B' w a n xs := by
 obtain ⟨hl, h | ⟨g, cur, ha, hg, e⟩⟩ := h
 ·exact ⟨hl, .inl h⟩
 ·exact ⟨hl, .inr ⟨g, cur, ha, by omega, e⟩⟩

theorem OwnP.front {B : Nat} {w : World} {a : Option Addr} {n : Nat} {xs : List Int} (h : OwnP B w a n xs) (k : Nat) (hk : k ≤ n) : OwnP B w a k (xs.take k) := by
 obtain ⟨hl, h | ⟨g, cur, ha, hg, hh, e1, e2, e3⟩⟩ := h
 ·obtain ⟨rfl, rfl⟩ := h
  exact ⟨by simp; omega, .inl ⟨by omega, by simp⟩⟩
 ·refine ⟨by rw [List.length_take]; omega, .inr ⟨g, cur, ha, hg, hh, by omega, e2, ?_⟩⟩
  have : (cur.toList.take n).take k = (ints xs).take k := by rw [e3]
  rw [List.take_take, Nat.min_eq_left hk] at this
  rw [this]
  simp [ints, List.map_take]

end Go.Proofs.Ytehcbamfendbaaa

