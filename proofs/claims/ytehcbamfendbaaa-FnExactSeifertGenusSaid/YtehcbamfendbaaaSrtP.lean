/- Numbers in ascending order: exchanges of neighbours, the one ascending order of an orbit. No program is spoken of. -/
import Derived.Test.YtehcbamfendbaaaCompP
namespace Go.Proofs.Ytehcbamfendbaaa

theorem swapL_perm : ∀ (q : Nat) (m : List Int), q + 1 < m.length → (swapL m (q + 1)).Perm m
  | 0, x :: y :: b, _ => by
    have : swapL (x :: y :: b) 1 = y :: x :: b := rfl
    rw [Nat.zero_add, this]
    exact List.Perm.swap _ _ _
  | q + 1, c :: m, h => by
    have : swapL (c :: m) (q + 2) = c :: swapL m (q + 1) := by
      simp [swapL, at8]
    rw [this]
    exact (swapL_perm q m (by simp at h; omega)).cons c
  | 0, [], h => by simp at h
  | 0, [x], h => by simp at h
  | q + 1, [], h => by simp at h

theorem AscBut.stepL {l : List Int} {i j : Nat} (h : AscBut l i j) (hl : i ≤ l.length) (hj : 1 ≤ j) (hji : j < i) (hlt : at8 l j < at8 l (j - 1)) : AscBut (swapL l j) i (j - 1) := by
  intro p q hp hq hne
  rw [at8_swap l j p (by omega) hj, at8_swap l j q (by omega) hj]
  by_cases q1 : q = j
  · subst q1
    rw [if_pos rfl]
    by_cases p1 : p = q - 1
    · rw [if_neg (by omega), if_pos p1]; omega
    · rw [if_neg (by omega), if_neg p1]
      exact h p (q - 1) (by omega) (by omega) (by omega)
  · rw [if_neg q1, if_neg hne]
    by_cases p1 : p = j
    · subst p1
      rw [if_pos rfl]
      exact h (p - 1) q (by omega) hq (by omega)
    · rw [if_neg p1]
      by_cases p2 : p = j - 1
      · rw [if_pos p2]
        exact h j q (by omega) hq (by omega)
      · rw [if_neg p2]
        exact h p q hp hq q1

theorem asc_pairwise {l : List Int} (h : Asc l l.length) : l.Pairwise (· ≤ ·) := by
  rw [List.pairwise_iff_getElem]
  intro i j hi hj hij
  have := h i j hij hj
  simpa [at8, List.getD, hi, hj] using this

theorem srtN_pairwise (n : Nat) (p : List Int) (z : Nat) : (srtN n p z).Pairwise (· < ·) := by
  unfold srtN
  rw [List.pairwise_map]
  refine (List.Pairwise.filter _ List.pairwise_lt_range).imp ?_
  intro a b h
  exact Int.ofNat_lt.2 h

/-- The way from the least number of an orbit, put in order, is the orbit in ascending order. -/
theorem blk_srt {n : Nat} {p : List Int} (h : Sim n p) {z : Nat} (hz : z < n) (hl : lstN n p z = z) {m : List Int} (hp : m.Perm (blkN p z (perN p z))) (ha : Asc m m.length) : m = srtN n p z := by
  obtain ⟨d, h1, h2, h3, h4⟩ := h.prm.period z hz
  have hper : perN p z = d := perN_eq ⟨h1, h3, h4⟩
  rw [hper] at hp
  have hperm : (blkN p z d).Perm (srtN n p z) := by
    refine (List.perm_ext_iff_of_nodup ?_ ?_).2 ?_
    · rw [List.nodup_iff_pairwise_ne, List.pairwise_iff_getElem]
      intro i j hi hj hij e
      simp only [blkN_len] at hi hj
      simp only [blkN, List.getElem_map, List.getElem_range] at e
      have e2 : itN (nx p) i z = itN (nx p) j z := by omega
      have e3 : itN (nx p) (j - i) z = z := by
        refine (h.prm.it_inj i _ _ hz (h.prm.it _ z hz) ?_).symm
        rw [← itN_add, show i + (j - i) = j by omega, e2]
      exact h4 (j - i) (by omega) (by omega) e3
    · exact (srtN_pairwise n p z).imp (fun h e => by omega)
    · intro a
      simp only [blkN, srtN, List.mem_map, List.mem_range, List.mem_filter, decide_eq_true_eq]
      constructor
      · rintro ⟨i, hi, rfl⟩
        refine ⟨itN (nx p) i z, ⟨h.prm.it i z hz, ?_⟩, rfl⟩
        have := h.prm.cmin_it z hz i
        unfold lstN at hl ⊢
        rw [this, hl]
      · rintro ⟨x, ⟨hx, ex⟩, rfl⟩
        have := (h.prm.orb_all z d x hz hx h1 h3).2 (by unfold lstN at hl ex; rw [ex, hl])
        obtain ⟨i, hi, ei⟩ := (orbN_iff _ _ _ _).1 this
        exact ⟨i, hi, by rw [ei]⟩
  exact (hp.trans hperm).eq_of_pairwise (fun a b _ _ h1 h2 => by omega) (asc_pairwise ha) ((srtN_pairwise n p z).imp (fun h => Int.le_of_lt h))

end Go.Proofs.Ytehcbamfendbaaa
