/- The product of free words: the model's answer, the program's. -/
import Derived.Test.YtmlejlediflaaaaSJn
import Derived.Test.YtmlejlediflaaaaFwI
import Derived.Test.YtmlejlediflaaaaCct2
namespace Go.Proofs.Ytmlejlediflaaaa
open Go.RowKit Go.ChangeShapes

theorem joinF_nil (xs : List Int) (n : Int) (h : isFree n xs = true) : joinF [] xs = xs := by
  obtain ⟨_, _, _, h4⟩ := (isFree_iff n xs).1 h
  have key : ∀ k, k ≤ xs.length → joinF [] (xs.take k) = xs.take k := by
    intro k
    induction k with
    | zero => intro _; simp [joinF]
    | succ k ih =>
      intro hk
      rw [joinF_step [] xs k (by omega), ih (by omega), take_snoc xs k (by omega)]
      unfold freeStep
      rw [if_neg]
      intro e
      rcases Nat.eq_zero_or_pos k with h0 | h0
      · subst h0; simp at e
      · rw [last_eq (xs.take k) k (by simp; omega) h0] at e
        have h5 := h4 k (by omega)
        simp only [okFree, Bool.and_eq_true, Bool.or_eq_true, decide_eq_true_eq] at h5
        rcases h5.2 with h6 | h6
        · omega
        · apply h6
          have e2 : (xs.take k).getD (k - 1) 0 = xs.getD (k - 1) 0 := by simp [List.getD, show k - 1 < k by omega]
          rw [e2] at e
          have := Option.some.inj e
          omega
  have := key xs.length (Nat.le_refl _)
  simpa using this

theorem joinF_both (xs ys : List Int) (n : Int) (h : isFree n xs = true) : joinF [] (xs ++ ys) = joinF xs ys := by
  rw [joinF_app, joinF_nil xs n h]

/-- The product of free words, and the code. -/
def mMulFree (xs ys : List Int) (s : Int) : List Int × Int := if isFree s xs = true ∧ isFree s ys = true then mLim (xs ++ ys) else ([], 1)

set_option maxRecDepth 100000 in
set_option maxHeartbeats 1000000 in
theorem specMultiplyFree_any {s : Int} {a b : Option Addr} {n m cap capb : Nat} {xs ys : List Int} {w : World} {fxs : List Int} {fc : Int} (hr : Reads w a n xs) (hn : n ≤ 1048576) (hr2 : Reads w b m ys) (hm : m ≤ 1048576) (hs : (Lit.int .i64 s).wf = true) (hM : mMulFree xs ys s = (fxs, fc)) :
    Calls Try.prog 45 #[.slice a n cap, .slice b m capb, .int .i64 s] w (RetInts w fxs fc) := by
  have R := Lib.hid hr; clear hr
  have T := Lib.hid hr2; clear hr2
  have HS := Lib.hid hs; clear hs
  by_cases hf : isFree s xs = true
  · by_cases hg : isFree s ys = true
    · rw [mMulFree, if_pos ⟨hf, hg⟩, mLim, joinF_both xs ys s hf] at hM
      have HSM := Lib.hid (small_of_isFree hg)
      obtain ⟨q, hqe⟩ : ∃ q, q = (joinF xs ys).length := ⟨_, rfl⟩
      have hq : q ≤ 2097152 := by have := joinF_len xs ys; have := R.out.len; have := T.out.len; omega
      rw [← hqe] at hM
      have HQ := Lib.hid hqe; clear hqe
      go_enter Try.func45, Try.ntmps45
      go_wp2_with fail
      refine (l08Is_any s a n cap xs _ R.out HS.out hn).mono ?_
      rintro e w1 ⟨rfl, hb⟩
      replace R := Lib.hid (R.out.below hb)
      replace T := Lib.hid (T.out.below hb)
      have BB := Lib.hid hb; clear hb
      go_wp2_with fail
      refine (l08Is_any s b m capb ys _ T.out HS.out hm).mono ?_
      rintro e w2 ⟨rfl, hb⟩
      replace R := Lib.hid (R.out.below hb)
      replace T := Lib.hid (T.out.below hb)
      replace BB := Lib.hid (below_go BB.out hb BB.out.size); clear hb
      go_wp2_with fail
      refine (l08Join_any _ _ _ xs _ _ _ ys _ R.out hn T.out HSM.out hm).mono ?_
      rintro e w3 ⟨a3, c3, rfl, ho, hb⟩
      rw [← HQ.out] at ho ⊢
      have z2 := BB.out.size
      have O := Lib.hid ho; replace BB := Lib.hid (below_go BB.out hb BB.out.size); clear ho hb
      by_cases h4 : 4000 < q
      · rw [if_pos h4] at hM
        obtain ⟨rfl, rfl⟩ := Prod.mk.injEq .. ▸ hM
        go_wp2
        go_ret2
        exact ⟨none, 0, 0, rfl, by omega, Own.nil _ _, BB.out⟩
      · rw [if_neg h4] at hM
        obtain ⟨rfl, rfl⟩ := Prod.mk.injEq .. ▸ hM
        go_wp2
        go_ret2
        exact ⟨a3, q, c3, rfl, by omega, O.out.mono z2, BB.out⟩
    · rw [mMulFree, if_neg (fun h => hg h.2)] at hM
      obtain ⟨rfl, rfl⟩ := Prod.mk.injEq .. ▸ hM
      have hg' : isFree s ys = false := by simpa using hg
      clear hg hM
      go_enter Try.func45, Try.ntmps45
      go_wp2_with fail
      refine (l08Is_any s a n cap xs _ R.out HS.out hn).mono ?_
      rintro e w1 ⟨rfl, hb⟩
      replace T := Lib.hid (T.out.below hb)
      have BB := Lib.hid hb; clear hb
      go_wp2_with fail
      refine (l08Is_any s b m capb ys _ T.out HS.out hm).mono ?_
      rintro e w2 ⟨rfl, hb⟩
      replace BB := Lib.hid (below_go BB.out hb BB.out.size); clear hb
      go_wp2
      go_ret2
      exact ⟨none, 0, 0, rfl, by omega, Own.nil _ _, BB.out⟩
  · rw [mMulFree, if_neg (fun h => hf h.1)] at hM
    obtain ⟨rfl, rfl⟩ := Prod.mk.injEq .. ▸ hM
    have hf' : isFree s xs = false := by simpa using hf
    clear hf hM
    go_enter Try.func45, Try.ntmps45
    go_wp2_with fail
    refine (l08Is_any s a n cap xs _ R.out HS.out hn).mono ?_
    rintro e w1 ⟨rfl, hb⟩
    have BB := Lib.hid hb; clear hb
    go_wp2
    go_ret2
    exact ⟨none, 0, 0, rfl, by omega, Own.nil _ _, BB.out⟩

set_option maxRecDepth 100000 in
set_option maxHeartbeats 1000000 in
theorem implMultiplyFree_any {s : Int} {a b : Option Addr} {n m cap capb : Nat} {xs ys : List Int} {w : World} {fxs : List Int} {fc : Int} (hr : Reads w a n xs) (hn : n ≤ 1048576) (hr2 : Reads w b m ys) (hm : m ≤ 1048576) (_hs : (Lit.int .i64 s).wf = true) (hM : mMulFree xs ys s = (fxs, fc)) :
    Calls Try.prog 47 #[.slice a n cap, .slice b m capb, .int .i64 s] w (RetInts w fxs fc) := by
  have R := Lib.hid hr; clear hr
  have T := Lib.hid hr2; clear hr2
  by_cases hf : isFree s xs = true
  · by_cases hg : isFree s ys = true
    · rw [mMulFree, if_pos ⟨hf, hg⟩] at hM
      have HM := Lib.hid hM; clear hM
      have HS1 := Lib.hid (small_of_isFree hf)
      have HS2 := Lib.hid (small_of_isFree hg)
      have hn4 : n ≤ 4000 := by have := len_of_isFree hf; have := R.out.len; omega
      have hm4 : m ≤ 4000 := by have := len_of_isFree hg; have := T.out.len; omega
      go_enter Try.func47, Try.ntmps47
      go_wp2_with fail
      refine (isFreeWord_any s a n cap xs _ R.out hn).mono ?_
      rintro e w1 ⟨rfl, hb⟩
      replace R := Lib.hid (R.out.below hb)
      replace T := Lib.hid (T.out.below hb)
      have BB := Lib.hid hb; clear hb
      go_wp2_with fail
      refine (isFreeWord_any s b m capb ys _ T.out hm).mono ?_
      rintro e w2 ⟨rfl, hb⟩
      replace R := Lib.hid (R.out.below hb)
      replace T := Lib.hid (T.out.below hb)
      replace BB := Lib.hid (below_go BB.out hb BB.out.size); clear hb
      go_wp2_with fail
      refine (multipliedFree_any _ _ _ _ _ _ xs ys _ R.out T.out HS1.out HS2.out (by omega) (by omega) HM.out).mono ?_
      rintro e w3 ⟨a3, n3, c3, rfl, hl, ho, hb⟩
      have z2 := BB.out.size
      have O := Lib.hid ho; replace BB := Lib.hid (below_go BB.out hb BB.out.size); clear ho hb
      go_wp2
      go_ret2
      exact ⟨a3, n3, c3, rfl, hl, O.out.mono z2, BB.out⟩
    · rw [mMulFree, if_neg (fun h => hg h.2)] at hM
      obtain ⟨rfl, rfl⟩ := Prod.mk.injEq .. ▸ hM
      have hg' : isFree s ys = false := by simpa using hg
      clear hg hM
      go_enter Try.func47, Try.ntmps47
      go_wp2_with fail
      refine (isFreeWord_any s a n cap xs _ R.out hn).mono ?_
      rintro e w1 ⟨rfl, hb⟩
      replace T := Lib.hid (T.out.below hb)
      have BB := Lib.hid hb; clear hb
      go_wp2_with fail
      refine (isFreeWord_any s b m capb ys _ T.out hm).mono ?_
      rintro e w2 ⟨rfl, hb⟩
      replace BB := Lib.hid (below_go BB.out hb BB.out.size); clear hb
      go_wp2
      go_ret2
      exact ⟨none, 0, 0, rfl, by omega, Own.nil _ _, BB.out⟩
  · rw [mMulFree, if_neg (fun h => hf h.1)] at hM
    obtain ⟨rfl, rfl⟩ := Prod.mk.injEq .. ▸ hM
    have hf' : isFree s xs = false := by simpa using hf
    clear hf hM
    go_enter Try.func47, Try.ntmps47
    go_wp2_with fail
    refine (isFreeWord_any s a n cap xs _ R.out hn).mono ?_
    rintro e w1 ⟨rfl, hb⟩
    have BB := Lib.hid hb; clear hb
    go_wp2
    go_ret2
    exact ⟨none, 0, 0, rfl, by omega, Own.nil _ _, BB.out⟩

end Go.Proofs.Ytmlejlediflaaaa
