/- Free words: a letter more. -/
import Derived.Test.YtehcbamfendbaaaSeIs2
import Derived.BigQuiet
import Derived.Deep.QuietTactic
namespace Go.Proofs.Ytehcbamfendbaaa
open Go.RowKit Go.ChangeShapes

/-- One letter more of a free form. -/
def freeStep (out : List Int) (x : Int) : List Int := if out.getLast? = some (-x) then out.dropLast else out ++ [x]
def free (xs : List Int) : List Int := xs.foldl freeStep []
theorem free_step (xs : List Int) (k : Nat) (h : k < xs.length) : free (xs.take (k + 1)) = freeStep (free (xs.take k)) (xs.getD k 0) := by
 rw [take_snoc xs k h]
 simp [free]

theorem freeStep_len (out : List Int) (x : Int) : (freeStep out x).length ≤ out.length + 1 := by
 unfold freeStep
 split <;> simp
 omega

theorem foldl_len (xs out : List Int) : (xs.foldl freeStep out).length ≤ out.length + xs.length := by
 induction xs generalizing out with
 | nil => simp
 | cons x xs ih =>
  have h1 := ih (freeStep out x)
  have h2 := freeStep_len out x
  simp only [List.foldl_cons, List.length_cons]
  omega

theorem free_len (xs : List Int) : (free xs).length ≤ xs.length := by
 have := foldl_len xs []
 simpa [free] using this

theorem last_eq (l : List Int) (m : Nat) (hm : l.length = m) (h : 0 < m) : l.getLast? = some (l.getD (m - 1) 0) := by
 rw [List.getLast?_eq_getElem?, hm]
 simp [List.getD, show m - 1 < l.length by omega]

theorem Own.pop {B : Nat} {w : World} {a : Option Addr} {m c : Nat} {l : List Int} (h : Own B w a m c l) : Own B w a (m - 1) c l.dropLast := by
 have hl := h.len
 obtain ⟨h1, h2⟩ := h
 refine ⟨by simp; omega, ?_⟩
 rcases h2 with ⟨hv, h0⟩ | ⟨g, c', cur, hv, hB, hh, hn, hm, hs, ht⟩
 ·left
  simp only [Value.slice.injEq] at hv
  obtain ⟨rfl, rfl, rfl⟩ := hv
  exact ⟨rfl, rfl⟩
 ·right
  simp only [Value.slice.injEq] at hv
  obtain ⟨rfl, _, rfl⟩ := hv
  refine ⟨g, c, cur, rfl, hB, hh, by omega, hm, hs, ?_⟩
  have e : l.dropLast.map (Value.int .i64) = (l.map (Value.int .i64)).take (m - 1) := by
   rw [← List.map_take, List.dropLast_eq_take, hl]
  rw [e, ← ht, List.take_take]
  congr 1
  omega

theorem Own.cap_ge {B : Nat} {w : World} {a : Option Addr} {m c : Nat} {l : List Int} (h : Own B w a m c l) : m ≤ c := by
 rcases h.2 with ⟨hv, h0⟩ | ⟨g, c', cur, hv, hB, hh, hn, _⟩
 ·omega
 ·simp only [Value.slice.injEq] at hv
  omega

/-- The numbers behind those that are there, pairs being taken away. -/
def joinF (xs ys : List Int) : List Int := ys.foldl freeStep xs

theorem joinF_len (xs ys : List Int) : (joinF xs ys).length ≤ xs.length + ys.length := foldl_len ys xs

theorem joinF_app (xs ys zs : List Int) : joinF xs (ys ++ zs) = joinF (joinF xs ys) zs := by simp [joinF, List.foldl_append]

end Go.Proofs.Ytehcbamfendbaaa

