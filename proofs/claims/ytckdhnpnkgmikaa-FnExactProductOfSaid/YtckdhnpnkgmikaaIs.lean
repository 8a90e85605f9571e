/- What is a braid: the model's answer and the program's. -/
import Derived.Test.YtckdhnpnkgmikaaBase3
import Derived.OpenShut
namespace Go.Proofs.Ytckdhnpnkgmikaa
open Go.RowKit Go.ChangeShapes

theorem l01In_any (n lo hi : Int) (w : World) :
    Calls Try.prog 44 #[.int .i64 n, .int .i64 lo, .int .i64 hi] w fun e w' => e = .returned (.bool (inB n lo hi)) ∧ w = w' := by
  by_cases h1 : lo ≤ n
  · by_cases h2 : n ≤ hi
    all_goals
      go_enter Try.func44, Try.ntmps44
      go_wp2
      go_ret
      exact ⟨ret_bool (by simp [inB, h1, h2]), rfl⟩
  · go_enter Try.func44, Try.ntmps44
    go_wp2
    go_ret
    exact ⟨ret_bool (by simp [inB]; omega), rfl⟩

/-- The opposite of a number of int64 lies in a small range exactly if it does without the wrap. -/
theorem inB_neg (x s : Int) (h : (Lit.int .i64 x).wf = true) (hs : s ≤ 8) : inB (wrap64 (-x)) 1 (s - 1) = inB (-x) 1 (s - 1) := by
  have := bounds_i64 h
  rw [Bool.eq_iff_iff, inB_iff, inB_iff]
  unfold wrap64
  omega

theorem okLetter_of (s x : Int) : okLetter s x = (inB x 1 (s - 1) || inB (-x) 1 (s - 1)) := by
  rw [Bool.eq_iff_iff]
  simp only [okLetter, inB, Bool.or_eq_true, Bool.and_eq_true, decide_eq_true_eq]
  omega

theorem isBraid_all (s : Int) (n : Nat) (xs : List Int) (h1 : 1 ≤ s) (h2 : s ≤ 8) (h3 : n ≤ 200) (hl : xs.length = n) (h : ∀ j, j < n → okLetter s (xs.getD j 0) = true) : isBraid s xs = true := by
  have := all_of_getD xs (okLetter s) (by rw [hl]; exact h)
  simp [isBraid, this, h1, h2, hl, h3]

theorem isBraid_bad (s : Int) (xs : List Int) (k : Nat) (hk : k < xs.length) (h : okLetter s (xs.getD k 0) = false) : isBraid s xs = false := by
  have := all_false_of_getD xs (okLetter s) k hk h
  simp [isBraid, this]

set_option maxHeartbeats 400000 in
theorem l01Is_any (s : Int) (a : Option Addr) (n cap : Nat) (xs : List Int) (w : World) (hr : Reads w a n xs) (hf : Fits xs) (hn : n ≤ 1048576) :
    Calls Try.prog 30 #[.agg #[.int .i64 s, .slice a n cap]] w fun e w' => e = .returned (.bool (isBraid s xs)) ∧ Below w.heap.size w w' := by
  have hl := hr.len
  have HL := Lib.hid hl; clear hl
  have HR := Lib.hid hr; clear hr
  have HF := Lib.hid hf; clear hf
  by_cases hs : inB s 1 8 = true
  · by_cases h2 : n ≤ 200
    · obtain ⟨g1, g2⟩ := (inB_iff _ _ _).1 hs
      go_enter Try.func30, Try.ntmps30
      go_wp2_with (go_at_call 44; refine (l01In_any _ _ _ _).mono ?_; rintro e w' ⟨rfl, rfl⟩)
      rcases Nat.eq_zero_or_pos n with h0 | h0
      · have HZ := Lib.hid h0; clear h0
        refine wp_loop_rounds 1 ?_; rw [rounds_succ]
        have hz : (n : Int) ≤ 0 := by rw [HZ.out]; simp
        go_wp2
        go_ret
        have : isBraid s xs = true := isBraid_all s n xs g1 g2 h2 HL.out (fun j hj => by have := HZ.out; omega)
        exact ⟨ret_bool this.symm, below1 w _⟩
      · obtain ⟨b, off, rfl, hb, hc⟩ := (HR.out.alloc (.cells #[.int .i64 s, .slice a n cap] 28)).cells h0
        have HC := Lib.hid hc; clear hc
        go_loop [3] (fun i => ∃ k : Nat, k ≤ n ∧ i = .int .i64 k ∧ Hid (∀ j, j < k → okLetter s (xs.getD j 0) = true)) (fun i => n - (intOf i).toNat)
        case atStart => exact ⟨0, Nat.zero_le _, rfl, Lib.hid (fun j hj => absurd hj (Nat.not_lt_zero _))⟩
        case round =>
          obtain ⟨k, hk, rfl, HS⟩ := hrel
          by_cases hlt : k < n
          · have hm : xs.getD k 0 ∈ xs := getD_mem xs k (by rw [HL.out]; exact hlt)
            obtain ⟨x, hx⟩ : ∃ x, x = xs.getD k 0 := ⟨_, rfl⟩
            have h1 := HC.out k hlt
            rw [← hx] at h1 hm
            have e1 := inB_neg x s (HF.out x hm) g2
            have e2 := okLetter_of s x
            rw [← e1] at e2
            have E2 := Lib.hid e2
            have HX := Lib.hid hx
            clear hx e1 e2 hm
            by_cases p1 : inB x 1 (s - 1) = true
            · have HOK : Hid (okLetter s x = true) := Lib.hid (by rw [E2.out, p1]; rfl)
              go_wp2_with (go_at_call 44; refine (l01In_any _ _ _ _).mono ?_; rintro e w' ⟨rfl, rfl⟩)
              go_round
              case rel =>
                refine ⟨k + 1, by omega, by go_num, Lib.hid fun j hj => ?_⟩
                by_cases hjk : j = k
                · rw [hjk, ← HX.out]; exact HOK.out
                · exact HS.out j (by omega)
              case measure => simp [intOf]; omega
            · have p1' : inB x 1 (s - 1) = false := by simpa using p1
              clear p1
              by_cases p2 : inB (wrap64 (-x)) 1 (s - 1) = true
              · have HOK : Hid (okLetter s x = true) := Lib.hid (by rw [E2.out, p2]; simp)
                go_wp2_with (go_at_call 44; refine (l01In_any _ _ _ _).mono ?_; rintro e w' ⟨rfl, rfl⟩)
                go_round
                case rel =>
                  refine ⟨k + 1, by omega, by go_num, Lib.hid fun j hj => ?_⟩
                  by_cases hjk : j = k
                  · rw [hjk, ← HX.out]; exact HOK.out
                  · exact HS.out j (by omega)
                case measure => simp [intOf]; omega
              · have p2' : inB (wrap64 (-x)) 1 (s - 1) = false := by simpa using p2
                clear p2
                have HOK : Hid (okLetter s x = false) := Lib.hid (by rw [E2.out, p1', p2']; rfl)
                go_wp2_with (go_at_call 44; refine (l01In_any _ _ _ _).mono ?_; rintro e w' ⟨rfl, rfl⟩)
                go_ret
                have : isBraid s xs = false := isBraid_bad s xs k (by rw [HL.out]; exact hlt) (by rw [← HX.out]; exact HOK.out)
                exact ⟨ret_bool this.symm, below1 w _⟩
          · have hkn : k = n := by omega
            have HK := Lib.hid hkn; clear hkn
            go_wp2
            go_ret
            have : isBraid s xs = true := isBraid_all s n xs g1 g2 h2 HL.out (fun j hj => HS.out j (by rw [HK.out]; exact hj))
            exact ⟨ret_bool this.symm, below1 w _⟩
    · have HS := (inB_iff _ _ _).1 hs
      have HS' := Lib.hid HS; clear HS
      go_enter Try.func30, Try.ntmps30
      go_wp2_with (go_at_call 44; refine (l01In_any _ _ _ _).mono ?_; rintro e w' ⟨rfl, rfl⟩)
      go_ret
      have : ¬ xs.length ≤ 200 := by rw [HL.out]; omega
      exact ⟨ret_bool (by simp [isBraid, this]), below1 w _⟩
  · have hs' : inB s 1 8 = false := by simpa using hs
    clear hs
    go_enter Try.func30, Try.ntmps30
    go_wp2_with (go_at_call 44; refine (l01In_any _ _ _ _).mono ?_; rintro e w' ⟨rfl, rfl⟩)
    go_ret
    have := (inB_not _ _ _).1 hs'
    have : isBraid s xs = false := by
      rw [← Bool.not_eq_true, isBraid_iff]
      omega
    exact ⟨ret_bool this.symm, below1 w _⟩

end Go.Proofs.Ytckdhnpnkgmikaa
