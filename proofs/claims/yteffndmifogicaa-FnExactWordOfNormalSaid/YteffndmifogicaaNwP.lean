/- Words of normal forms: plain functions and lemmas. No program is spoken of. -/
import Derived.Test.YteffndmifogicaaMA
namespace Go.Proofs.Yteffndmifogicaa

theorem takeF_len (n f : Nat) (v : List Int) (vs : List (List Int)) (hs : ∀ u ∈ v :: vs, Sim n u) : (takeF n f (v :: vs)).length ≤ far v := by
  induction f generalizing v vs with
  | zero => simp [takeF]
  | succ f ih =>
    unfold takeF
    cases hc : common (v :: vs) (n - 1) 0 with
    | none => simp
    | some k =>
      obtain ⟨_, h2, h3, _⟩ := common_some hc
      have hv := hs v (by simp)
      have hd : at8 v (k + 1) < at8 v k := by
        have := h3
        simp [allBeg] at this
        exact this.1
      have hl := far_less hv (show k + 1 < n by omega) hd
      have := ih (thenR n (exR n k) v) (strip n k vs) (fun u hu => by
        rcases List.mem_cons.1 hu with rfl | hu
        · exact thenR_sim (exR_sim n k hv.hi (by omega)) hv
        · obtain ⟨x, hx, rfl⟩ := List.mem_map.1 hu
          exact thenR_sim (exR_sim n k hv.hi (by omega)) (hs x (by simp [hx])))
      have h4 : (takeF n f (strip n k (v :: vs))).length ≤ far (thenR n (exR n k) v) := this
      simp only [List.length_cons]
      omega

theorem word_len {n : Nat} {v : List Int} (h : Sim n v) : (takeR n [v]).length ≤ 196 := by
  have h1 := takeF_len n 200 v [] (fun u hu => by rw [List.mem_singleton.1 hu]; exact h)
  have h2 := far_le h
  unfold takeR
  omega

theorem takeF_letters (n f : Nat) (vs : List (List Int)) : ∀ x ∈ takeF n f vs, 1 ≤ x ∧ x ≤ (n : Int) := by
  induction f generalizing vs with
  | zero => intro x hx; simp [takeF] at hx
  | succ f ih =>
    unfold takeF
    cases hc : common vs (n - 1) 0 with
    | none => intro x hx; simp at hx
    | some k =>
      obtain ⟨_, h2, _, _⟩ := common_some hc
      intro x hx
      rcases List.mem_cons.1 hx with rfl | hx
      · omega
      · exact ih _ x hx

theorem word_small {n : Nat} (h8 : n ≤ 8) (vs : List (List Int)) : Small (takeR n vs) := by
  intro x hx
  have := takeF_letters n 200 vs x hx
  omega

/-- The words of the first k rows. -/
def wordsR (n : Nat) (rs : List (List Int)) (k : Nat) : List Int := ((rs.take k).map fun r => takeR n [r]).flatten

theorem wordsR_zero (n : Nat) (rs : List (List Int)) : wordsR n rs 0 = [] := rfl

theorem wordsR_succ (n : Nat) (rs : List (List Int)) (k : Nat) (h : k < rs.length) : wordsR n rs (k + 1) = wordsR n rs k ++ takeR n [rowAt rs k] := by
  unfold wordsR rowAt
  rw [List.take_succ_eq_append_getElem h, List.map_append, List.flatten_append]
  simp [List.getD, h]

theorem wordsR_len {n : Nat} {rs : List (List Int)} (k : Nat) (hk : k ≤ rs.length) (hs : ∀ j, j < rs.length → Sim n (rowAt rs j)) : (wordsR n rs k).length ≤ 196 * k := by
  induction k with
  | zero => simp [wordsR]
  | succ k ih =>
    rw [wordsR_succ n rs k (by omega), List.length_append]
    have := ih (by omega)
    have := word_len (hs k (by omega))
    omega

/-- The letters again and again. -/
def repW (k : Nat) (xs : List Int) : List Int := (List.replicate k xs).flatten

theorem repW_succ (k : Nat) (xs : List Int) : repW (k + 1) xs = repW k xs ++ xs := by
  simp [repW, List.replicate_succ', List.flatten_append]

theorem repW_len (k : Nat) (xs : List Int) : (repW k xs).length = k * xs.length := by
  induction k with
  | zero => simp [repW]
  | succ k ih => rw [repW_succ, List.length_append, ih, Nat.succ_mul]

theorem repW_small {k m : Nat} {xs : List Int} (h1 : k ≤ 200) (h2 : xs.length ≤ 196) (h3 : m ≤ k) : (repW m xs).length ≤ 39200 := by
  rw [repW_len]
  have := Nat.mul_le_mul (Nat.le_trans h3 h1) h2
  omega

/-- The word of the half turns. -/
def headW (n : Nat) (p : Int) : List Int := if 0 ≤ p then repW p.toNat (takeR n [halfR n]) else repW (-p).toNat (inverse (takeR n [halfR n]))

/-- The word. -/
def wordN (n : Nat) (p : Int) (rs : List (List Int)) : List Int := headW n p ++ wordsR n rs rs.length

/-- What WordOfNormal gives. -/
def mNWord (s p : Int) (rs : List (List Int)) : List Int × Int :=
  if normB s p rs = true then if (wordN s.toNat p rs).length ≤ 200 then (wordN s.toNat p rs, 0) else ([], 3) else ([], 1)

theorem norm_sims {n : Nat} {p : Int} {rs : List (List Int)} (h8 : Rows8 rs) (h : normB n p rs = true) : ∀ j, j < rs.length → Sim n (rowAt rs j) := by
  intro j hj
  have := ((normB_iff _ _ _).1 h).2.2.2.2 j hj
  rw [Int.toNat_natCast] at this
  exact okFac_sim h8 hj this

theorem headW_len (n : Nat) (p : Int) (h1 : 1 ≤ n) (h8 : n ≤ 8) (hp : -200 ≤ p ∧ p ≤ 200) : (headW n p).length ≤ 39200 := by
  have hw := word_len (halfR_sim n h1 h8)
  unfold headW
  split
  · exact repW_small (k := 200) (by omega) hw (by omega)
  · exact repW_small (k := 200) (by omega) (by rw [inverse_length]; exact hw) (by omega)

end Go.Proofs.Yteffndmifogicaa
