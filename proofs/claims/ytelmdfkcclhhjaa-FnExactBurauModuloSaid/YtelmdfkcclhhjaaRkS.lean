/- Ranks modulo a prime: the model. -/
import Derived.Test.YtelmdfkcclhhjaaRkM
import Derived.Test.YtelmdfkcclhhjaaSChr
import Derived.Test.YtelmdfkcclhhjaaRnkR
import Derived.StillTailTactics
namespace Go.Proofs.Ytelmdfkcclhhjaa
open Go.RowKit Go.ChangeShapes

theorem mkM_eq {A : List (List Int)} {q : Nat} (h : ∀ r ∈ A, r.length = q) : mkM A.length q (eL A) = A := by
  refine List.ext_getElem (by simp [mkM]) fun i h1 h2 => ?_
  have hr := h _ (List.getElem_mem h2)
  have hx : A.getD i [] = A[i] := by simp [List.getD, h2]
  simp only [mkM, List.getElem_map, List.getElem_range]
  have e : eL A i = fun j => A[i].getD j 0 := by funext j; unfold eL; rw [hx]
  rw [e, ← hr]
  exact row_range _

/-- Two rows exchanged. -/
def swF (f : Nat → Nat → Int) (r t : Nat) : Nat → Nat → Int := fun i => if i = r then f t else if i = t then f r else f i

theorem HMx.swap {w : World} {g m k : Nat} {b s c : Nat → Nat} {f : Nat → Nat → Int} (h : HMx w g m (fun _ => k) b s c f) {r t : Nat} (hr : r < m) (ht : t < m) :
    ∃ b' s' c', HMx ((w.setCell ⟨g, t, none⟩ (.slice (some ⟨b r, s r, none⟩) k (c r))).setCell ⟨g, r, none⟩ (.slice (some ⟨b t, s t, none⟩) k (c t))) g m (fun _ => k) b' s' c' (swF f r t) ∧ ∀ i, i < m → ∃ j, j < m ∧ b' i = b j := by
  have h1 := h.put (f' := fun i => if i = t then f r else f i) (i := t) (bn := b r) (sn := s r) (cn := c r) ht (h.ne r hr) (fun j hj => by rw [if_pos rfl]; exact h.el r j hr hj) (fun x j _ hx _ => by rw [if_neg hx])
  have h2 := h1.put (f' := swF f r t) (i := r) (bn := b t) (sn := s t) (cn := c t) hr (h.ne t ht) (fun j hj => by
    unfold swF
    rw [if_pos rfl]
    exact (World.cell?_setCell_far _ _ _ _ (Ne.symm (h.ne t ht))).trans (h.el t j ht hj)) (fun x j _ hx _ => by unfold swF; rw [if_neg hx])
  refine ⟨_, _, _, h2, fun i hi => ?_⟩
  by_cases e : i = r
  · exact ⟨t, ht, by simp only [if_pos e]⟩
  · by_cases e2 : i = t
    · exact ⟨r, hr, by simp only [if_neg e, if_pos e2]⟩
    · exact ⟨i, hi, by simp only [if_neg e, if_neg e2]⟩

/-- The rows from r on. -/
def restM (q : Nat) (f : Nat → Nat → Int) (r : Nat) : List (List Int) := (mkM q q f).drop r

theorem restM_mem {q r : Nat} {f : Nat → Nat → Int} {x : List Int} : x ∈ restM q f r ↔ ∃ i, r ≤ i ∧ i < q ∧ x = (List.range q).map (f i) := by
  unfold restM
  constructor
  · intro h
    obtain ⟨i, hi, rfl⟩ := List.getElem_of_mem h
    have hi' : r + i < q := by
      have := hi
      rw [List.length_drop, mkM_len] at this
      omega
    refine ⟨r + i, by omega, hi', ?_⟩
    rw [List.getElem_drop]
    simp [mkM]
  · rintro ⟨i, h1, h2, rfl⟩
    refine List.mem_iff_getElem.2 ⟨i - r, by rw [List.length_drop, mkM_len]; omega, ?_⟩
    rw [List.getElem_drop]
    simp [mkM, show r + (i - r) = i by omega]

theorem restM_at {q r k : Nat} {f : Nat → Nat → Int} (h : k < (restM q f r).length) : (restM q f r)[k] = (List.range q).map (f (r + k)) := by
  simp only [restM, mkM, List.getElem_drop, List.getElem_map, List.getElem_range]

theorem ent_row (q : Nat) (v : Nat → Int) (j : Nat) (h : j < q) : ent ((List.range q).map v) j = v j := by rw [ent_map, if_pos h]

/-- The row x behind the clearing. -/
def clrE (p fac : Int) (P r : Nat → Int) (j : Nat) : Int := (r j - fac * P j) % p

theorem clrE_list (p fac : Int) (P r : Nat → Int) (q : Nat) : clrM p fac ((List.range q).map P) ((List.range q).map r) = (List.range q).map (clrE p fac P r) := by
  unfold clrM
  rw [List.length_map, List.length_range]
  refine List.map_congr_left fun j hj => ?_
  have := List.mem_range.1 hj
  rw [ent_row _ _ _ this, ent_row _ _ _ this]
  rfl

/-- All rows behind r, of which those before i have been cleared. -/
def clrI (p iv : Int) (f : Nat → Nat → Int) (r c i : Nat) : Nat → Nat → Int := fun x => if r < x ∧ x < i then clrE p (f x c * iv % p) (f r) (f x) else f x

/-- One step of the model's elimination. -/
theorem step_rest {p : Int} (hp : PrimeZ p) (h0 : 0 < p) {q r t c : Nat} {f : Nat → Nat → Int} (hf : ∀ i j, i < q → j < q → 0 ≤ f i j ∧ f i j < p) (hc : c < q) (hrt : r ≤ t) (ht : t < q) (he : f t c ≠ 0) {iv : Int} (hi : p ∣ iv * f t c - 1) :
    Elim p (restM q f r) ((List.range q).map (f t)) c (restM q (clrI p iv (swF f r t) r c q) (r + 1)) := by
  have hok : Okm p q (restM q f r) := fun x hx => by
    obtain ⟨i, _, h2, rfl⟩ := restM_mem.1 hx
    refine ⟨by simp, fun j => ?_⟩
    rw [ent_map]
    split
    · exact hf i j h2 (by assumption)
    · omega
  have hPm : (List.range q).map (f t) ∈ restM q f r := restM_mem.2 ⟨t, hrt, ht, rfl⟩
  have hent : ent ((List.range q).map (f t)) c = f t c := ent_row _ _ _ hc
  have key := mdl_elim hp h0 hok (R := restM q (swF f r t) (r + 1)) (P := (List.range q).map (f t)) (i := iv) hc hPm (by rw [hent]; exact he) (fun x hx => ?_) (fun x hx => ?_) (by rw [hent]; exact hi)
  · have e : (restM q (swF f r t) (r + 1)).map (fun x => clrM p (ent x c * iv % p) ((List.range q).map (f t)) x) = restM q (clrI p iv (swF f r t) r c q) (r + 1) := by
      refine List.ext_getElem (by simp [restM, mkM_len]) fun k h1 h2 => ?_
      have hk : r + 1 + k < q := by
        have := h2
        unfold restM at this
        rw [List.length_drop, mkM_len] at this
        omega
      rw [List.getElem_map, restM_at, restM_at]
      rw [ent_row _ _ _ hc, clrE_list]
      unfold clrI
      rw [if_pos ⟨by omega, hk⟩]
      rw [show swF f r t r = f t by unfold swF; rw [if_pos rfl]]
    rw [← e]
    exact key.1
  · obtain ⟨i, h1, h2, rfl⟩ := restM_mem.1 hx
    by_cases e1 : i = t
    · subst e1; exact .inl rfl
    · refine .inr (restM_mem.2 ?_)
      by_cases e2 : i = r
      · refine ⟨t, by omega, ht, ?_⟩
        unfold swF
        rw [if_neg (by omega), if_pos rfl, e2]
      · refine ⟨i, by omega, h2, ?_⟩
        unfold swF
        rw [if_neg e2, if_neg e1]
  · obtain ⟨i, h1, h2, rfl⟩ := restM_mem.1 hx
    refine restM_mem.2 ?_
    by_cases e1 : i = t
    · refine ⟨r, Nat.le_refl _, by omega, ?_⟩
      unfold swF
      rw [if_neg (by omega), if_pos e1]
    · refine ⟨i, by omega, h2, ?_⟩
      unfold swF
      rw [if_neg (by omega), if_neg e1]

theorem restM_ok {p : Int} (h0 : 0 < p) {q r : Nat} {f : Nat → Nat → Int} (hf : ∀ i j, i < q → j < q → 0 ≤ f i j ∧ f i j < p) : Okm p q (restM q f r) := fun x hx => by
  obtain ⟨i, _, h2, rfl⟩ := restM_mem.1 hx
  refine ⟨by simp, fun j => ?_⟩
  rw [ent_map]
  split
  · exact hf i j h2 (by assumption)
  · omega

theorem clrI_start (p iv : Int) (f : Nat → Nat → Int) (r c i j : Nat) (h : i ≤ r + 1) (x : Nat) : clrI p iv f r c i x j = f x j := by unfold clrI; rw [if_neg (by omega)]

theorem clrI_at (p iv : Int) (f : Nat → Nat → Int) (r c i : Nat) : clrI p iv f r c i i = f i := by unfold clrI; rw [if_neg (by omega)]

theorem clrI_upd (p iv : Int) (f : Nat → Nat → Int) {r i : Nat} (c : Nat) (hr : r < i) (x j : Nat) : (if x = i then clrE p (f i c * iv % p) (f r) (f i) j else clrI p iv f r c i x j) = clrI p iv f r c (i + 1) x j := by
  unfold clrI
  by_cases e : x = i
  · rw [if_pos e, if_pos (by omega), e]
  · rw [if_neg e]
    by_cases e2 : r < x ∧ x < i
    · rw [if_pos e2, if_pos (by omega)]
    · rw [if_neg e2, if_neg (by omega)]

theorem clrI_row (p iv : Int) (f : Nat → Nat → Int) (r c i : Nat) : clrI p iv f r c i r = f r := by unfold clrI; rw [if_neg (by omega)]

theorem clrI_rem {p iv : Int} (h0 : 0 < p) {q r c i : Nat} {f : Nat → Nat → Int} (hf : ∀ i j, i < q → j < q → 0 ≤ f i j ∧ f i j < p) : ∀ x j, x < q → j < q → 0 ≤ clrI p iv f r c i x j ∧ clrI p iv f r c i x j < p := fun x j hx hj => by
  unfold clrI
  split
  · exact ⟨Int.emod_nonneg _ (by omega), Int.emod_lt_of_pos _ h0⟩
  · exact hf x j hx hj

theorem swF_rem {p : Int} {q r t : Nat} {f : Nat → Nat → Int} (hr : r < q) (ht : t < q) (hf : ∀ i j, i < q → j < q → 0 ≤ f i j ∧ f i j < p) : ∀ x j, x < q → j < q → 0 ≤ swF f r t x j ∧ swF f r t x j < p := fun x j hx hj => by
  unfold swF
  split
  · exact hf t j ht hj
  · split
    · exact hf r j hr hj
    · exact hf x j hx hj

theorem mod_modp {p : Int} (h0 : 0 < p) (x : Int) : (x.tmod p + p).tmod p = x % p := by
  have h1 : x.tmod p = x - p * x.tdiv p := Int.tmod_def x p
  have h2 : -p < x.tmod p := by
    have := Int.lt_tmod_of_pos x h0
    omega
  rw [Int.tmod_eq_emod_of_nonneg (by omega), Int.add_emod_right, h1, Int.sub_mul_emod_self_left]

end Go.Proofs.Ytelmdfkcclhhjaa
