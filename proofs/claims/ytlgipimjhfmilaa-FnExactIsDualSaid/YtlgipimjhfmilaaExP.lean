/- Exchanges of neighbours, and what lists of them make: plain lemmas. No program is spoken of. -/
import Derived.Test.YtlgipimjhfmilaaQA
namespace Go.Proofs.Ytlgipimjhfmilaa

/-- The exchange of the places k and k + 1. -/
def exR (n k : Nat) : List Int := ((sameR n).set k ((k : Int) + 1)).set (k + 1) (k : Int)

theorem at8_same (n j : Nat) (h : j < n) : at8 (sameR n) j = (j : Int) := by
  unfold sameR
  rw [at8_mapR, if_pos h]

theorem exR_swap (n k : Nat) (hk : k + 1 < n) : exR n k = swapL (sameR n) (k + 1) := by
  unfold exR swapL
  rw [Nat.add_sub_cancel, at8_same n k (by omega), at8_same n (k + 1) hk, List.set_comm _ _ (by omega)]
  rfl

theorem exR_sim (n k : Nat) (h8 : n ≤ 8) (hk : k + 1 < n) : Sim n (exR n k) := by
  rw [exR_swap n k hk]
  exact (sameR_sim n (by omega) h8).swap (k + 1) (by omega) hk

theorem exR_len (n k : Nat) (h8 : n ≤ 8) : (exR n k).length = 8 := by
  unfold exR
  rw [List.length_set, List.length_set]
  exact mapR_len _ _ h8

/-- What a list of exchanges makes. -/
def exsR (n : Nat) (xs : List Int) : List Int := xs.foldl (fun s x => thenR n s (exR n (x - 1).toNat)) (sameR n)

theorem exsR_step (n : Nat) (xs : List Int) (k : Nat) (h : k < xs.length) : exsR n (xs.take (k + 1)) = thenR n (exsR n (xs.take k)) (exR n (xs.getD k 0 - 1).toNat) := by
  rw [take_snoc xs k h]
  simp [exsR]

/-- All numbers are letters of n strands. -/
def Lets (n : Nat) (xs : List Int) : Prop := ∀ x ∈ xs, 1 ≤ x ∧ x < n

theorem exsR_sim (n : Nat) (h1 : 1 ≤ n) (h8 : n ≤ 8) (xs : List Int) (hx : Lets n xs) : Sim n (exsR n xs) := by
  suffices h : ∀ s, Sim n s → Sim n (xs.foldl (fun s x => thenR n s (exR n (x - 1).toNat)) s) from h _ (sameR_sim n h1 h8)
  induction xs with
  | nil => intro s hs; exact hs
  | cons x xs ih =>
    intro s hs
    obtain ⟨a, b⟩ := hx x (by simp)
    exact ih (fun y hy => hx y (by simp [hy])) _ (thenR_sim hs (exR_sim n _ h8 (by omega)))

theorem Lets.take {n : Nat} {xs : List Int} (h : Lets n xs) (k : Nat) : Lets n (xs.take k) := fun x hx => h x (List.mem_of_mem_take hx)

/-- What SimpleOfWord gives. -/
def mWordIn (n : Int) (xs : List Int) : List Int × Int :=
  if 1 ≤ n ∧ n ≤ 8 then
    if (xs.all fun x => decide (1 ≤ x) && decide (x < n)) = true then
      if lenR (exsR n.toNat xs) n.toNat = (xs.length : Int) then (exsR n.toNat xs, 0) else ([0, 0, 0, 0, 0, 0, 0, 0], 5)
    else ([0, 0, 0, 0, 0, 0, 0, 0], 2)
  else ([0, 0, 0, 0, 0, 0, 0, 0], 2)

theorem lets_iff (n : Nat) (xs : List Int) : (xs.all fun x => decide (1 ≤ x) && decide (x < (n : Int))) = true ↔ Lets n xs := by
  simp [Lets, List.all_eq_true]

theorem mWordIn_len {n : Int} {xs r : List Int} {c : Int} (h : mWordIn n xs = (r, c)) : r.length = 8 := by
  unfold mWordIn at h
  split at h
  · rename_i hn
    split at h
    · rename_i ha
      split at h
      · obtain ⟨rfl, rfl⟩ := Prod.mk.inj h
        obtain ⟨k, rfl⟩ : ∃ k : Nat, n = k := ⟨n.toNat, by omega⟩
        rw [Int.toNat_natCast]
        exact (exsR_sim k (by omega) (by omega) xs ((lets_iff k xs).1 ha)).len
      · obtain ⟨rfl, rfl⟩ := Prod.mk.inj h; rfl
    · obtain ⟨rfl, rfl⟩ := Prod.mk.inj h; rfl
  · obtain ⟨rfl, rfl⟩ := Prod.mk.inj h; rfl

end Go.Proofs.Ytlgipimjhfmilaa
