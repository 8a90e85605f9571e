/- What braids make of free words: the model's answer. -/
import Derived.Test.YtmlejlediflaaaaSAct
import Derived.Test.YtmlejlediflaaaaPip
namespace Go.Proofs.Ytmlejlediflaaaa
open Go.RowKit Go.ChangeShapes

theorem letters_bd0 {s : Int} {ls : List Int} (h : isBraid s ls = true) : ∀ l ∈ ls, -100 < l ∧ l < 100 ∧ l ≠ 0 := by
  obtain ⟨h1, h2, _, h4⟩ := (isBraid_iff s ls).1 h
  intro l hl
  have := h4 l hl
  omega

theorem mPass_code (ls xs : List Int) : (mPass ls xs).2 = 0 ∨ mPass ls xs = ([], 3) := by
  unfold mPass
  split
  · exact .inl rfl
  · exact .inr rfl

set_option maxRecDepth 100000 in
set_option maxHeartbeats 1000000 in
theorem specActOnFree_any {s : Int} {a b : Option Addr} {n m cap capb : Nat} {ls xs : List Int} {w : World} {fxs : List Int} {fc : Int} (hr : Reads w a n ls) (hf : Fits ls) (hn : n ≤ 1048576) (hs : (Lit.int .i64 s).wf = true) (hr2 : Reads w b m xs) (hm : m ≤ 1048576) (hM : mActFree s ls xs = (fxs, fc)) :
    Calls Try.prog 51 #[.agg #[.int .i64 s, .slice a n cap], .slice b m capb] w (RetInts w fxs fc) := by
  have R := Lib.hid (hr.alloc (.cells #[.int .i64 s, .slice a n cap] 24)); clear hr
  have T := Lib.hid (hr2.alloc (.cells #[.int .i64 s, .slice a n cap] 24)); clear hr2
  have HF := Lib.hid hf; have HS := Lib.hid hs; clear hf hs
  have A := Lib.hid (At2.new w (.int .i64 s) (.slice a n cap) 24)
  have BB := Lib.hid (below1 w (.cells #[.int .i64 s, .slice a n cap] 24))
  obtain ⟨qA1, qA2, qA3, qA4, qA5⟩ := A.out
  by_cases hbr : isBraid s ls = true
  · by_cases hfr : isFree s xs = true
    · rw [mActFree, if_pos ⟨hbr, hfr⟩] at hM
      have hcode := mPass_code ls xs
      rw [hM] at hcode
      have HM := Lib.hid hM; clear hM
      have HC := Lib.hid hcode; clear hcode
      have HSX := Lib.hid (small_of_isFree hfr)
      have HLB := Lib.hid (letters_bd0 hbr)
      have hm4 : m ≤ 4000 := by have := len_of_isFree hfr; have := T.out.len; omega
      go_enter Try.func51, Try.ntmps51
      go_wp2_with fail
      refine (l01Is_any s a n cap ls _ R.out HF.out hn).mono ?_
      rintro e w1 ⟨rfl, hb⟩
      clear qA1 qA2 qA3 qA4 qA5
      replace R := Lib.hid (R.out.below hb); replace T := Lib.hid (T.out.below hb); replace A := Lib.hid (A.out.below hb)
      replace BB := Lib.hid (below_go BB.out hb (by simp)); clear hb
      obtain ⟨qA1, qA2, qA3, qA4, qA5⟩ := A.out
      go_wp2_with fail
      refine (l08Is_any s b m capb xs _ T.out HS.out hm).mono ?_
      rintro e w2 ⟨rfl, hb⟩
      clear qA1 qA2 qA3 qA4 qA5
      replace R := Lib.hid (R.out.below hb); replace T := Lib.hid (T.out.below hb); replace A := Lib.hid (A.out.below hb)
      replace BB := Lib.hid (below_go BB.out hb BB.out.size); clear hb
      obtain ⟨qA1, qA2, qA3, qA4, qA5⟩ := A.out
      go_wp2_with fail
      refine (l08Act_any a n cap ls b m capb xs _ R.out hn HLB.out T.out HSX.out hm4 HM.out).mono ?_
      rintro e w3 ⟨a3, n3, c3, rfl, hl3, ho, hb⟩
      clear qA1 qA2 qA3 qA4 qA5
      have z2 := BB.out.size
      have O := Lib.hid ho; replace BB := Lib.hid (below_go BB.out hb BB.out.size); clear ho hb
      rcases HC.out with h0 | h0
      · have h0 : fc = 0 := h0
        subst h0
        have t1 : ((0 : Int) == 0) = true := by simp
        go_wp2
        go_ret2
        exact ⟨a3, n3, c3, rfl, hl3, O.out.mono z2, BB.out⟩
      · obtain ⟨rfl, rfl⟩ := Prod.mk.injEq .. ▸ h0
        have t1 : ((3 : Int) == 0) = false := by simp
        clear h0
        go_wp2
        go_ret2
        exact ⟨none, 0, 0, rfl, by omega, Own.nil _ _, BB.out⟩
    · rw [mActFree, if_neg (fun h => hfr h.2)] at hM
      obtain ⟨rfl, rfl⟩ := Prod.mk.injEq .. ▸ hM
      have hf' : isFree s xs = false := by simpa using hfr
      clear hfr hM
      go_enter Try.func51, Try.ntmps51
      go_wp2_with fail
      refine (l01Is_any s a n cap ls _ R.out HF.out hn).mono ?_
      rintro e w1 ⟨rfl, hb⟩
      clear qA1 qA2 qA3 qA4 qA5
      replace T := Lib.hid (T.out.below hb); replace A := Lib.hid (A.out.below hb)
      replace BB := Lib.hid (below_go BB.out hb (by simp)); clear hb
      obtain ⟨qA1, qA2, qA3, qA4, qA5⟩ := A.out
      go_wp2_with fail
      refine (l08Is_any s b m capb xs _ T.out HS.out hm).mono ?_
      rintro e w2 ⟨rfl, hb⟩
      replace BB := Lib.hid (below_go BB.out hb BB.out.size); clear hb
      clear qA1 qA2 qA3 qA4 qA5
      go_wp2
      go_ret2
      exact ⟨none, 0, 0, rfl, by omega, Own.nil _ _, BB.out⟩
  · rw [mActFree, if_neg (fun h => hbr h.1)] at hM
    obtain ⟨rfl, rfl⟩ := Prod.mk.injEq .. ▸ hM
    have hf' : isBraid s ls = false := by simpa using hbr
    clear hbr hM
    go_enter Try.func51, Try.ntmps51
    go_wp2_with fail
    refine (l01Is_any s a n cap ls _ R.out HF.out hn).mono ?_
    rintro e w1 ⟨rfl, hb⟩
    replace BB := Lib.hid (below_go BB.out hb (by simp)); clear hb
    clear qA1 qA2 qA3 qA4 qA5
    go_wp2
    go_ret2
    exact ⟨none, 0, 0, rfl, by omega, Own.nil _ _, BB.out⟩

theorem implActOnFree_s {s : Int} {a b : Option Addr} {n m cap capb : Nat} {ls xs : List Int} {w : World} {fxs : List Int} {fc : Int} (hr : Reads w a n ls) (hf : Fits ls) (hn : n ≤ 1048576) (_hs : (Lit.int .i64 s).wf = true) (hr2 : Reads w b m xs) (hm : m ≤ 1048576) (hM : mActFree s ls xs = (fxs, fc)) :
    Calls Try.prog 52 #[.agg #[.int .i64 s, .slice a n cap], .slice b m capb] w (RetInts w fxs fc) := implActOnFree_any hr hf hn hr2 hm hM

end Go.Proofs.Ytmlejlediflaaaa
