/- The two eliminations, each row by row: both count the rank. No program is spoken of. -/
import Derived.Test.YtelmdfkcclhhjaaRnkP
namespace Go.Proofs.Ytelmdfkcclhhjaa

theorem elim_of {p : Int} {B B' R : List (List Int)} {P : List Int} {c : Nat} (hP : P ∈ B) (hPc : ¬ p ∣ ent P c) (hB : ∀ r ∈ B, r = P ∨ r ∈ R) (hR : ∀ r ∈ R, r ∈ B) (f : List Int → List Int) (hB' : B' = R.map f)
    (x y : List Int → Int) (hx : ∀ r ∈ R, ¬ p ∣ x r) (hf : ∀ r ∈ R, ∀ j, p ∣ x r * ent r j - y r * ent P j - ent (f r) j) (hoff : ∀ r ∈ R, p ∣ ent (f r) c) : Elim p B P c B' := by
  subst hB'
  refine ⟨hP, hPc, fun r' hr => ?_, fun r' hr => ?_, fun r hr => ?_⟩
  · obtain ⟨r, h, rfl⟩ := List.mem_map.1 hr
    exact hoff r h
  · obtain ⟨r, h, rfl⟩ := List.mem_map.1 hr
    exact ⟨r, hR r h, x r, y r, hf r h⟩
  · rcases hB r hr with rfl | h
    · exact .inl fun j => by rw [Int.sub_self]; exact Int.dvd_zero p
    · exact .inr ⟨f r, List.mem_map_of_mem h, x r, y r, hx r h, hf r h⟩

/-- All rows have n entries, each of them 0 to p - 1. -/
def Okm (p : Int) (n : Nat) (B : List (List Int)) : Prop := ∀ r ∈ B, r.length = n ∧ ∀ j, 0 ≤ ent r j ∧ ent r j < p

theorem ent_far {r : List Int} {j : Nat} (h : r.length ≤ j) : ent r j = 0 := by
  unfold ent
  rw [List.getD_eq_getElem?_getD, List.getElem?_eq_none h]
  rfl

theorem ent_map (n : Nat) (g : Nat → Int) (j : Nat) : ent ((List.range n).map g) j = if j < n then g j else 0 := by
  unfold ent
  by_cases h : j < n
  · simp [List.getD_eq_getElem?_getD, h]
  · rw [if_neg h]
    exact ent_far (r := (List.range n).map g) (by simp; omega)

theorem dvd_ent {p : Int} {x : Int} (h0 : 0 ≤ x) (h1 : x < p) : p ∣ x ↔ x = 0 := by
  constructor
  · intro h
    have := Int.emod_eq_zero_of_dvd h
    rwa [Int.emod_eq_of_lt h0 h1] at this
  · rintro rfl
    exact Int.dvd_zero p

theorem dvd_sub_emod (a p : Int) : p ∣ a - a % p := Int.dvd_self_sub_emod

/-- The program's row behind the clearing of the column c. -/
def clrP (p : Int) (P : List Int) (c : Nat) (r : List Int) : List Int := (List.range r.length).map fun j => (ent P c * ent r j + (p - ent r c) * ent P j) % p

/-- The model's. -/
def clrM (p f : Int) (P r : List Int) : List Int := (List.range P.length).map fun j => (ent r j - f * ent P j) % p

theorem clrP_ok {p : Int} (hp : 0 < p) {n : Nat} {P r : List Int} {c : Nat} (h : r.length = n) : (clrP p P c r).length = n ∧ ∀ j, 0 ≤ ent (clrP p P c r) j ∧ ent (clrP p P c r) j < p := by
  refine ⟨by simp [clrP, h], fun j => ?_⟩
  unfold clrP
  rw [ent_map]
  split
  · exact ⟨Int.emod_nonneg _ (by omega), Int.emod_lt_of_pos _ hp⟩
  · omega

theorem clrM_ok {p f : Int} (hp : 0 < p) {n : Nat} {P r : List Int} (h : P.length = n) : (clrM p f P r).length = n ∧ ∀ j, 0 ≤ ent (clrM p f P r) j ∧ ent (clrM p f P r) j < p := by
  refine ⟨by simp [clrM, h], fun j => ?_⟩
  unfold clrM
  rw [ent_map]
  split
  · exact ⟨Int.emod_nonneg _ (by omega), Int.emod_lt_of_pos _ hp⟩
  · omega

theorem clrP_mod {p : Int} {n : Nat} {P r : List Int} {c : Nat} (h1 : P.length = n) (h2 : r.length = n) (j : Nat) : p ∣ ent P c * ent r j - (ent r c - p) * ent P j - ent (clrP p P c r) j := by
  unfold clrP
  rw [ent_map, h2]
  by_cases h : j < n
  · rw [if_pos h]
    have := dvd_sub_emod (ent P c * ent r j + (p - ent r c) * ent P j) p
    rwa [show ent P c * ent r j - (ent r c - p) * ent P j = ent P c * ent r j + (p - ent r c) * ent P j by rw [Int.sub_mul, Int.sub_mul]; omega]
  · rw [if_neg h, ent_far (r := r) (j := j) (by omega), ent_far (r := P) (j := j) (by omega)]
    simp

theorem clrM_mod {p f : Int} {n : Nat} {P r : List Int} (h1 : P.length = n) (h2 : r.length = n) (j : Nat) : p ∣ 1 * ent r j - f * ent P j - ent (clrM p f P r) j := by
  unfold clrM
  rw [ent_map, h1, Int.one_mul]
  by_cases h : j < n
  · rw [if_pos h]
    exact dvd_sub_emod _ p
  · rw [if_neg h, ent_far (r := r) (j := j) (by omega), ent_far (r := P) (j := j) (by omega)]
    simp

theorem clrP_off {p : Int} {n : Nat} {P r : List Int} {c : Nat} (h2 : r.length = n) (hc : c < n) : p ∣ ent (clrP p P c r) c := by
  unfold clrP
  rw [ent_map, h2, if_pos hc, show ent P c * ent r c + (p - ent r c) * ent P c = p * ent P c by rw [Int.sub_mul, Int.mul_comm (ent P c)]; omega]
  rw [Int.mul_emod_right]
  exact Int.dvd_zero p

theorem clrM_off {p i f : Int} {n : Nat} {P r : List Int} {c : Nat} (h1 : P.length = n) (hc : c < n) (hi : p ∣ i * ent P c - 1) (hf : f = ent r c * i % p) : p ∣ ent (clrM p f P r) c := by
  unfold clrM
  rw [ent_map, h1, if_pos hc]
  have e1 := dvd_sub_emod (ent r c * i) p
  rw [← hf] at e1
  have e2 : p ∣ ent r c - f * ent P c := by
    have a := Int.dvd_trans e1 (Int.dvd_mul_left (ent P c) _)
    have b := Int.dvd_trans hi (Int.dvd_mul_left (ent r c) _)
    have := Int.dvd_sub a b
    rwa [show ent P c * (ent r c * i - f) - ent r c * (i * ent P c - 1) = ent r c - f * ent P c by
      rw [Int.mul_sub, Int.mul_sub, Int.mul_one, ← Int.mul_assoc, ← Int.mul_assoc, Int.mul_comm (ent P c) (ent r c), Int.mul_assoc (ent r c), Int.mul_assoc (ent r c), Int.mul_comm i (ent P c), Int.mul_comm (ent P c) f]; omega] at this
  rw [Int.emod_eq_zero_of_dvd e2]
  exact Int.dvd_zero p

theorem mem_erase {α : Type} (l : List α) (i : Nat) (h : i < l.length) (r : α) (hr : r ∈ l) : r = l[i] ∨ r ∈ l.eraseIdx i := by
  obtain ⟨j, hj, rfl⟩ := List.getElem_of_mem hr
  by_cases e : j = i
  · subst e; exact .inl rfl
  · exact .inr (List.mem_eraseIdx_iff_getElem.2 ⟨j, hj, e, rfl⟩)

/-- The program's step at the column c, where the row i is the first with an entry. -/
theorem prg_elim {p : Int} (h0 : 0 < p) {n : Nat} {B : List (List Int)} (hB : Okm p n B) {c i : Nat} (hc : c < n) (hi : i < B.length) (he : ent B[i] c ≠ 0) :
    Elim p B B[i] c ((B.eraseIdx i).map (clrP p B[i] c)) ∧ Okm p n ((B.eraseIdx i).map (clrP p B[i] c)) := by
  have hm := List.getElem_mem hi
  obtain ⟨hl, hr⟩ := hB _ hm
  have hd : ¬ p ∣ ent B[i] c := fun h => he ((dvd_ent (hr c).1 (hr c).2).1 h)
  have hs : ∀ r ∈ B.eraseIdx i, r ∈ B := fun r h => List.mem_of_mem_eraseIdx h
  refine ⟨elim_of hm hd (mem_erase B i hi) hs _ rfl (fun _ => ent B[i] c) (fun r => ent r c - p) (fun _ _ => hd) (fun r h j => clrP_mod hl (hB r (hs r h)).1 j) (fun r h => clrP_off (hB r (hs r h)).1 hc), fun r' h => ?_⟩
  obtain ⟨r, hr', rfl⟩ := List.mem_map.1 h
  exact clrP_ok h0 (hB r (hs r hr')).1

/-- The model's step: P is one of the rows, R the others, i an inverse of the entry. -/
theorem mdl_elim {p : Int} (hp : PrimeZ p) (h0 : 0 < p) {n : Nat} {B R : List (List Int)} (hB : Okm p n B) {c : Nat} {P : List Int} {i : Int} (hc : c < n) (hP : P ∈ B) (he : ent P c ≠ 0) (h1 : ∀ r ∈ B, r = P ∨ r ∈ R) (h2 : ∀ r ∈ R, r ∈ B) (hi : p ∣ i * ent P c - 1) :
    Elim p B P c (R.map fun r => clrM p (ent r c * i % p) P r) ∧ Okm p n (R.map fun r => clrM p (ent r c * i % p) P r) := by
  obtain ⟨hl, hr⟩ := hB _ hP
  have hd : ¬ p ∣ ent P c := fun h => he ((dvd_ent (hr c).1 (hr c).2).1 h)
  refine ⟨elim_of hP hd h1 h2 _ rfl (fun _ => 1) (fun r => ent r c * i % p) (fun _ _ => hp.1) (fun r h j => clrM_mod hl (hB r (h2 r h)).1 j) (fun r _ => clrM_off hl hc hi rfl), fun r' h => ?_⟩
  obtain ⟨r, _, rfl⟩ := List.mem_map.1 h
  exact clrM_ok h0 hl

/-- Where no row has an entry at the column. -/
theorem none_dvd {p : Int} {B : List (List Int)} {c : Nat} (h : ∀ r ∈ B, ent r c = 0) : ∀ r ∈ B, p ∣ ent r c := fun r hr => by rw [h r hr]; exact Int.dvd_zero p

end Go.Proofs.Ytelmdfkcclhhjaa
