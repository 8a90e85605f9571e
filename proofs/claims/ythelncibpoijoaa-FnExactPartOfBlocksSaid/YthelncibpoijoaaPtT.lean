/- The two tests for parts agree: from the rows that were gone through. No program is spoken of. -/
import Derived.Test.YthelncibpoijoaaPtE0
import Derived.Test.YthelncibpoijoaaPtE1
import Derived.Test.YthelncibpoijoaaPtE2
import Derived.Test.YthelncibpoijoaaPtE3
import Derived.Test.YthelncibpoijoaaPtE4
import Derived.Test.YthelncibpoijoaaQB
namespace Go.Proofs.Ythelncibpoijoaa

theorem tst_all {n : Nat} {f : Nat → Nat} (h : Prm n f) (h1 : 1 ≤ n) (h8 : n ≤ 8) : tstN n (pkN f n) = true := by
  have low : chkN (tstN n) n n 0 0 = true → tstN n (pkN f n) = true := fun h2 => by
    have := chkN_all (tstN n) n f n 0 0 h2 h.bd h.inj (fun j _ => Nat.zero_testBit _)
    rwa [Nat.zero_add] at this
  have hn : n = 1 ∨ n = 2 ∨ n = 3 ∨ n = 4 ∨ n = 5 ∨ n = 6 ∨ n = 7 ∨ n = 8 := by omega
  rcases hn with rfl | rfl | rfl | rfl | rfl | rfl | rfl | rfl
  · exact low all_n1
  · exact low all_n2
  · exact low all_n3
  · exact low all_n4
  · exact low all_n5
  · exact low all_n6
  · exact low all_n7
  · clear low
    have top : ∀ v, f 7 = v → chkN (tstN 8) 8 7 (2 ^ v) (v * 8 ^ 7) = true → tstN 8 (pkN f 8) = true := fun v hv h2 => by
      have := chkN_all (tstN 8) 8 f 7 (2 ^ v) (v * 8 ^ 7) h2 (fun j hj => h.bd j (by omega)) (fun i j hi hj => h.inj i j (by omega) (by omega)) (fun j hj => by
        rw [Nat.testBit_two_pow, decide_eq_false_iff_not]
        intro e
        have := h.inj 7 j (by omega) (by omega) (by rw [hv, e])
        omega)
      have e : pkN f 8 = v * 8 ^ 7 + pkN f 7 := by
        show pkN f 7 + f 7 * 8 ^ 7 = _
        rw [hv, Nat.add_comm]
      rw [e]
      exact this
    have hb := h.bd 7 (by omega)
    have hv : f 7 = 0 ∨ f 7 = 1 ∨ f 7 = 2 ∨ f 7 = 3 ∨ f 7 = 4 ∨ f 7 = 5 ∨ f 7 = 6 ∨ f 7 = 7 := by omega
    rcases hv with hv | hv | hv | hv | hv | hv | hv | hv
    · exact top 0 hv all8_0
    · exact top 1 hv all8_1
    · exact top 2 hv all8_2
    · exact top 3 hv all8_3
    · exact top 4 hv all8_4
    · exact top 5 hv all8_5
    · exact top 6 hv all8_6
    · exact top 7 hv all8_7

theorem fnN_ok (f : Nat → Nat) (v k i y : Nat) (h1 : i ≤ y) (h2 : y < i + k) (hy : f y = v) (hu : ∀ j, i ≤ j → j < y → f j ≠ v) : fnN f v k i = y := by
  induction k generalizing i with
  | zero => omega
  | succ k ih =>
    show ite2 (Nat.beq (f i) v) i (fnN f v k (i + 1)) = y
    rw [ite2_eq]
    by_cases e : i = y
    · subst e
      rw [if_pos ((beq_iffN _ _).2 hy)]
    · rw [if_neg (fun h => hu i (Nat.le_refl _) (by omega) ((beq_iffN _ _).1 h))]
      exact ih (i + 1) (by omega) (by omega) fun j h3 h4 => hu j (by omega) h4

/-- The complement's row. -/
theorem nx_comp {n : Nat} {p : List Int} (h : Sim n p) : nx (compP n p) = kR (nx p) n := by
  funext x
  unfold nx compP thenR
  rw [at8_mapR]
  unfold kR
  by_cases hx : x < n
  · rw [if_pos hx, if_pos hx]
    obtain ⟨y, hy, e⟩ := h.onto x hx
    have h1 := at8_back h y hy
    rw [e, Int.toNat_natCast] at h1
    have h2 : fnN (Go.Proofs.Ythelncibpoijoaa.nx p) x n 0 = y := fnN_ok _ _ _ _ _ (by omega) (by omega) (by unfold Go.Proofs.Ythelncibpoijoaa.nx; rw [e, Int.toNat_natCast]) (fun j _ hj e2 => by
      have h3 := h.nx j
      rw [e2, ← e] at h3
      have := h.inj j y (by omega) hy h3
      omega)
    show _ = (fnN (Go.Proofs.Ythelncibpoijoaa.nx p) x n 0 + 1) % n
    rw [h1, h2, Int.toNat_natCast]
    unfold wholeR
    rw [at8_mapR, if_pos hy]
    have : ((y : Int) + 1) % (n : Int) = (((y + 1) % n : Nat) : Int) := by push_cast; rfl
    rw [this, Int.toNat_natCast]
  · rw [if_neg hx, if_neg hx]
    rfl

theorem cycs_le (f : Nat → Nat) (n k : Nat) : cycs f n k ≤ k := by
  induction k with
  | zero => exact Nat.le_refl _
  | succ k ih =>
    show ite2 (isMin f k n (f k)) (cycs f n k + 1) (cycs f n k) ≤ k + 1
    rw [ite2_eq]
    split <;> omega

theorem cycs_whole (n : Nat) (h1 : 1 ≤ n) (h8 : n ≤ 8) : cycs (nx (wholeR n)) n n = 1 := by
  have hn : n = 1 ∨ n = 2 ∨ n = 3 ∨ n = 4 ∨ n = 5 ∨ n = 6 ∨ n = 7 ∨ n = 8 := by omega
  rcases hn with rfl | rfl | rfl | rfl | rfl | rfl | rfl | rfl <;> decide +kernel

/-- The rank's test is the model's. -/
theorem isPt_rank {n : Nat} {p : List Int} (h : Sim n p) :
    isPt n p = ((n : Int) - (cycL n p n).length + ((n : Int) - (cycL n (compP n p) n).length) == (n : Int) - (cycL n (wholeR n) n).length) := by
  have h1 := h.lo
  have h8 := h.hi
  have ht := (tst_of h.prm h1 h8 (tst_all h.prm h1 h8)).1
  have e1 : isPt n p = ncN (nx p) (cmin (nx p) n) n := by
    unfold isPt
    rw [(simB_iff _ _ h.len).2 ⟨n, rfl, h⟩, Bool.true_and]
    rfl
  rw [e1, ht, cycL_cycs h, cycL_cycs (compP_sim h), cycL_cycs (wholeR_sim n h1 h8), cycs_whole n h1 h8, nx_comp h, Bool.eq_iff_iff, beq_iffN, beq_iff_eq]
  have := cycs_le (nx p) n n
  have := cycs_le (kR (nx p) n) n n
  omega

theorem sim_of_isPt {k : Nat} {p : List Int} (hl : p.length = 8) (h : isPt k p = true) : Sim k p := by
  obtain ⟨m, hm, hs⟩ := isPt_sim hl h
  have : m = k := by omega
  subst this
  exact hs

/-- The complement of a part is one. -/
theorem isPt_comp {n : Nat} {p : List Int} (h : isPt n p = true) (hl : p.length = 8) : isPt n (compP n p) = true := by
  obtain ⟨k, hk, hs⟩ := isPt_sim hl h
  have : k = n := by omega
  subst this
  have h1 := hs.lo
  have h8 := hs.hi
  have ht := (tst_of hs.prm h1 h8 (tst_all hs.prm h1 h8)).2
  have e1 : ∀ q, Sim k q → isPt k q = ncN (nx q) (cmin (nx q) k) k := fun q hq => by
    unfold isPt
    rw [(simB_iff _ _ hq.len).2 ⟨k, rfl, hq⟩, Bool.true_and]
    rfl
  rw [e1 _ (compP_sim hs), nx_comp hs]
  rw [e1 _ hs] at h
  exact ht h

end Go.Proofs.Ythelncibpoijoaa
