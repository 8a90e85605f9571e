/- Letters of combs: each free word has letters of its own strand alone. No program is spoken of. -/
import Derived.Test.YtehcbamfendbaaaSeCmbQ
namespace Go.Proofs.Ytehcbamfendbaaa

theorem lett_in (n x : Int) : Lett n x ↔ (1 ≤ x ∧ x < n) ∨ (1 ≤ -x ∧ -x < n) := by
 unfold Lett
 rcases idx_cases x with ⟨g, e, -⟩ | ⟨g, e, -⟩ <;> rw [e] <;> omega

theorem lett_neg {n x : Int} (h : Lett n x) : Lett n (-x) := by
 rw [lett_in] at h ⊢; omega

theorem join_mem (ys : List Int) : ∀ f z, z ∈ joinF f ys → z ∈ f ∨ z ∈ ys := by
 induction ys with
 | nil => intro f z h; exact .inl h
 | cons y ys ih =>
  intro f z h
  rcases ih (freeStep f y) z h with h1 | h1
  ·unfold freeStep at h1
   split at h1
   ·exact .inl (List.dropLast_subset _ h1)
   ·rcases List.mem_append.1 h1 with h2 | h2
    ·exact .inl h2
    ·exact .inr (by rw [List.mem_singleton.1 h2]; exact List.mem_cons_self)
  ·exact .inr (List.mem_cons_of_mem _ h1)

theorem cnt_pm (x : Int) : cnt x = -1 ∨ cnt x = 1 := by unfold cnt; split <;> simp

theorem puts_lett {n l x : Int} (hl : Lett (n - 1) l) (hx : Lett n x) : ∀ z ∈ putsL l x, Lett n z := by
 have hw : 1 ≤ genW l ∧ genW l < n := by
  rw [lett_in] at hl
  unfold genW
  split <;> omega
 have hp : 1 ≤ genP l ∧ genP l < n := by
  rw [lett_in] at hl
  unfold genP
  split <;> omega
 have key : ∀ g c : Int, 1 ≤ g → g < n → (c = -1 ∨ c = 1) → Lett n (g * c) := by
  intro g c h1 h2 hc
  rw [lett_in]
  rcases hc with rfl | rfl
  ·right; omega
  ·left; omega
 intro z hz
 unfold putsL at hz
 split at hz
 ·simp only [List.mem_cons, List.not_mem_nil, or_false] at hz
  rcases hz with rfl | rfl | rfl
  ·exact key _ _ hw.1 hw.2 (cnt_pm l)
  ·exact key _ _ hp.1 hp.2 (cnt_pm x)
  ·exact lett_neg (key _ _ hw.1 hw.2 (cnt_pm l))
 ·split at hz
  ·rw [List.mem_singleton.1 hz]
   exact key _ _ hw.1 hw.2 (cnt_pm x)
  ·rw [List.mem_singleton.1 hz]
   exact hx

theorem act_lett {n : Int} {c : Int} : ∀ (ls xs : List Int), (∀ l ∈ ls, Lett (n - 1) l) → (∀ x ∈ xs, Lett n x) → ∀ ys, actFM c ls xs = some ys → ∀ z ∈ ys, Lett n z
 | [], xs, _, hx, ys, h => by
  have e : xs = ys := Option.some.inj h
  rw [← e]
  exact hx
 | l :: ls, xs, hl, hx, ys, h => by
  rw [actFM_cons] at h
  split at h
  ·cases h
  ·refine act_lett ls _ (fun y hy => hl y (List.mem_cons_of_mem _ hy)) (fun z hz => ?_) ys h
   rcases join_mem _ [] z hz with h1 | h1
   ·cases h1
   ·unfold actL at h1
    obtain ⟨x, hx1, hx2⟩ := List.mem_flatMap.1 h1
    exact puts_lett (hl l List.mem_cons_self) (hx x hx1) z hx2

theorem inv_mem {ys : List Int} {z : Int} (h : z ∈ inverse ys) : -z ∈ ys := by
 unfold inverse at h
 simp only [List.mem_reverse, List.mem_map] at h
 obtain ⟨y, hy, rfl⟩ := h
 rw [Int.neg_neg]
 exact hy

theorem str_lett {j : Int} (hj : 1 ≤ j) {ls : List Int} (hls : ∀ x ∈ ls, Lett (j + 1) x) : ∀ k, k ≤ ls.length → ∀ f, strF j ls k = some f → ∀ z ∈ f, Lett (j + 1) z := by
 intro k
 induction k with
 | zero =>
  intro _ f h z hz
  have e : ([] : List Int) = f := Option.some.inj h
  rw [← e] at hz
  cases hz
 | succ k ih =>
  intro hk f h z hz
  cases hp : strF j ls k with
  | none => rw [strF_none hp 1] at h; cases h
  | some g =>
   rw [strF_some hp] at h
   have hg := ih (by omega) g hp
   have htk : ∀ x ∈ ls.take k, Lett (j + 1) x := fun x hx => hls x (List.take_subset _ _ hx)
   have hpl := placeL_in (p := j) (by omega) (by omega) htk
   have hx := hls _ (getD_mem ls k (by omega))
   unfold strStep at h
   split at h
   ·cases ha : actFM 400 (inverse (forgetL j (ls.take k))) [ls.getD k 0] with
    | none => rw [ha] at h; cases h
    | some led =>
     rw [ha] at h
     simp only at h
     split at h
     ·cases h
     ·have e := Option.some.inj h
      rw [← e] at hz
      rcases join_mem _ _ z hz with h1 | h1
      ·exact hg z h1
      ·refine act_lett _ _ (fun l hl => ?_) (fun x hx2 => ?_) _ ha z h1
       ·have h2 := forgetL_lett (n := j + 1) (p := j) (by omega) (by omega) htk _ (inv_mem hl)
        have h3 := lett_neg h2
        rw [Int.neg_neg] at h3
        rw [show j + 1 - 1 = j by omega] at h3 ⊢
        exact h3
       ·rw [List.mem_singleton.1 hx2]; exact hx
   ·have e := Option.some.inj h
    rw [← e] at hz
    exact hg z hz

/-- The word at a place of a comb has letters of its strand. -/
theorem comb_lett : ∀ (J : Nat) (ls : List Int), (∀ x ∈ ls, Lett ((J : Int) + 1) x) → ∀ c, combF J ls = some c → ∀ i (h : i < c.length), ∀ z ∈ c[i], Lett ((J : Int) - i + 1) z
 | 0, ls, _, c, h, i, hi => by
  have e : ([] : List (List Int)) = c := Option.some.inj h
  subst e
  simp at hi
 | J + 1, ls, hls, c, h, i, hi => by
  cases hf : strF ((J : Int) + 1) ls ls.length with
  | none => rw [combF_none hf] at h; cases h
  | some f =>
   rw [combF_some hf] at h
   cases hc : combF J (forgetL ((J : Int) + 1) ls) with
   | none => rw [hc] at h; cases h
   | some d =>
    rw [hc] at h
    have e : f :: d = c := Option.some.inj h
    subst e
    have hls2 : ∀ x ∈ ls, Lett (((J : Int) + 1) + 1) x := fun x hx => by have := hls x hx; simpa using this
    cases i with
    | zero =>
     intro z hz
     have := str_lett (j := (J : Int) + 1) (by omega) hls2 ls.length (Nat.le_refl _) f hf z hz
     simpa using this
    | succ i =>
     intro z hz
     have hfl := forgetL_lett (n := (J : Int) + 1 + 1) (p := (J : Int) + 1) (by omega) (by omega) hls2
     rw [show (J : Int) + 1 + 1 - 1 = (J : Int) + 1 by omega] at hfl
     have := comb_lett J _ hfl d hc i (by simpa using hi) z (by simpa using hz)
     rw [show (((J + 1 : Nat) : Int) - ((i + 1 : Nat) : Int) + 1) = (J : Int) - i + 1 by omega]
     exact this

end Go.Proofs.Ytehcbamfendbaaa

