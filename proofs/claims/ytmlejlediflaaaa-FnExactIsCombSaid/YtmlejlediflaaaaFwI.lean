/- Free words: what the program says. -/
import Derived.Test.YtmlejlediflaaaaFw
namespace Go.Proofs.Ytmlejlediflaaaa
open Go.RowKit Go.ChangeShapes

theorem fitsW_any (x s : Int) (w : World) (h1 : 1 ≤ s) (h2 : s ≤ 1000) :
    Calls Try.prog 97 #[.int .i64 x, .int .i64 s] w fun e w' => e = .returned (.bool (okLetter s x)) ∧ w = w' := by
  by_cases p1 : x = 0
  · have t1 : (x != 0) = false := by simp [p1]
    have H1 := Lib.hid p1; clear p1
    go_enter Try.func97, Try.ntmps97
    go_wp2
    go_ret
    exact ⟨ret_bool (by simp [okLetter, H1.out]), rfl⟩
  · have t1 : (x != 0) = true := by simp [p1]
    have H1 := Lib.hid p1; clear p1
    by_cases p2 : -s < x
    · by_cases p3 : x < s
      all_goals
        go_enter Try.func97, Try.ntmps97
        go_wp2
        go_ret
        exact ⟨ret_bool (by have := H1.out; simp [okLetter, p2, this]; omega), rfl⟩
    · go_enter Try.func97, Try.ntmps97
      go_wp2
      go_ret
      exact ⟨ret_bool (by simp [okLetter]; omega), rfl⟩

set_option maxRecDepth 100000 in
set_option maxHeartbeats 1000000 in
theorem isFreeWord_any (s : Int) (a : Option Addr) (n cap : Nat) (xs : List Int) (w : World) (hr : Reads w a n xs) (hn : n ≤ 1048576) :
    Calls Try.prog 64 #[.slice a n cap, .int .i64 s] w fun e w' => e = .returned (.bool (isFree s xs)) ∧ Below w.heap.size w w' := by
  have hl := hr.len
  have HL := Lib.hid hl; clear hl
  have HR := Lib.hid hr; clear hr
  by_cases g1 : 1 ≤ s
  · by_cases g2 : s ≤ 8
    · by_cases h2 : n ≤ 4000
      · have hw1 : IntKind.i64.wrap (s + 1) = s + 1 := IntWalk.i64_in _ (by omega)
        rcases Nat.eq_zero_or_pos n with h0 | h0
        · have HZ := Lib.hid h0; clear h0
          have hz : (n : Int) ≤ 0 := by rw [HZ.out]; simp
          go_enter Try.func64, Try.ntmps64
          go_wp2
          refine wp_loop_rounds 1 ?_; rw [rounds_succ]
          go_wp2
          go_ret
          have : isFree s xs = true := isFree_all s n xs g1 g2 h2 HL.out (fun j hj => by have := HZ.out; omega)
          exact ⟨ret_bool this.symm, Below.refl _ _⟩
        · obtain ⟨b, off, rfl, hb, hc⟩ := HR.out.cells h0
          have HC := Lib.hid hc; clear hc
          go_enter Try.func64, Try.ntmps64
          go_wp2
          go_loop [20] (fun i => ∃ k : Nat, k ≤ n ∧ i = .int .i64 k ∧ Hid (∀ j, j < k → okFree s xs j = true)) (fun i => n - (intOf i).toNat)
          case atStart => exact ⟨0, Nat.zero_le _, rfl, Lib.hid (fun j hj => absurd hj (Nat.not_lt_zero _))⟩
          case round =>
            obtain ⟨k, hk, rfl, HS⟩ := hrel
            by_cases hlt : k < n
            · obtain ⟨x, hx⟩ : ∃ x, x = xs.getD k 0 := ⟨_, rfl⟩
              have c1 := HC.out k hlt
              rw [← hx] at c1
              by_cases hok : okLetter (s + 1) x = true
              · have e1 := (okLetter_iff _ _).1 hok
                have hwx : IntKind.i64.wrap (-x) = -x := IntWalk.i64_in _ (by omega)
                have HX := Lib.hid hx; clear hx
                have HOK := Lib.hid hok
                clear e1
                by_cases hk0 : k = 0
                · have hd : ¬ (0 : Int) < (k : Int) := by omega
                  have hd2 : ¬ 0 < k := by omega
                  have HK0 := Lib.hid hk0; clear hk0
                  go_wp2_with (go_at_call 97; refine (fitsW_any _ _ _ (by omega) (by omega)).mono ?_; rintro e w' ⟨rfl, rfl⟩)
                  go_round
                  case rel =>
                    refine ⟨k + 1, by omega, by go_num, Lib.hid ?_⟩
                    intro j hj
                    have hjk : j = k := by have := HK0.out; omega
                    rw [hjk, okFree, ← HX.out, HOK.out, HK0.out]; rfl
                  case measure => simp [intOf]; omega
                · have hd : (0 : Int) < (k : Int) := by omega
                  have hd2 : 0 < k := by omega
                  have HK0 := Lib.hid hk0; clear hk0
                  obtain ⟨q, hq⟩ : ∃ q, k = q + 1 := ⟨k - 1, by have := HK0.out; omega⟩
                  obtain ⟨y, hy⟩ : ∃ y, y = xs.getD q 0 := ⟨_, rfl⟩
                  have c2 := HC.out q (by omega)
                  rw [← hy] at c2
                  have hwq : IntKind.i64.wrap ((k : Int) - 1) = (q : Int) := (IntWalk.i64_in _ (by omega)).trans (by omega)
                  have q0 : (0 : Int) ≤ (q : Int) := by omega
                  have q1 : (q : Int) < (n : Int) := by omega
                  have HQ := Lib.hid hq; clear hq
                  have HY := Lib.hid hy; clear hy
                  have hof : okFree s xs k = decide (x ≠ -y) := by
                    rw [okFree, ← HX.out, HOK.out, show k - 1 = q by have := HQ.out; omega, ← HY.out]; simp [HK0.out]
                  have HOF := Lib.hid hof; clear hof
                  by_cases hxy : y = -x
                  · have t3 : (y == -x) = true := by simp [hxy]
                    have HXY := Lib.hid hxy; clear hxy
                    go_wp2_with (go_at_call 97; refine (fitsW_any _ _ _ (by omega) (by omega)).mono ?_; rintro e w' ⟨rfl, rfl⟩)
                    go_ret
                    have : isFree s xs = false := isFree_bad s xs k (by rw [HL.out]; exact hlt) (by rw [HOF.out, HXY.out]; simp)
                    exact ⟨ret_bool this.symm, Below.refl _ _⟩
                  · have t3 : (y == -x) = false := by simp [hxy]
                    have HXY := Lib.hid hxy; clear hxy
                    go_wp2_with (go_at_call 97; refine (fitsW_any _ _ _ (by omega) (by omega)).mono ?_; rintro e w' ⟨rfl, rfl⟩)
                    go_round
                    case rel =>
                      refine ⟨k + 1, by omega, by go_num, Lib.hid ?_⟩
                      intro j hj
                      by_cases hjk : j = k
                      · rw [hjk, HOF.out]; exact decide_eq_true (by have := HXY.out; omega)
                      · exact HS.out j (by omega)
                    case measure => simp [intOf]; omega
              · have hok' : okLetter (s + 1) x = false := by simpa using hok
                have hbad : isFree s xs = false := isFree_bad s xs k (by rw [HL.out]; exact hlt) (by rw [okFree, ← hx]; simp [hok'])
                have HX := Lib.hid hx; clear hx
                have HB := Lib.hid hbad; clear hbad hok
                go_wp2_with (go_at_call 97; refine (fitsW_any _ _ _ (by omega) (by omega)).mono ?_; rintro e w' ⟨rfl, rfl⟩)
                go_ret
                exact ⟨ret_bool HB.out.symm, Below.refl _ _⟩
            · have hkn : k = n := by omega
              have HK := Lib.hid hkn; clear hkn
              go_wp2
              go_ret
              have : isFree s xs = true := isFree_all s n xs g1 g2 h2 HL.out (fun j hj => HS.out j (by rw [HK.out]; exact hj))
              exact ⟨ret_bool this.symm, Below.refl _ _⟩
      · go_enter Try.func64, Try.ntmps64
        go_wp2
        go_ret
        exact ⟨ret_bool (isFree_low s xs (by rw [HL.out]; omega)).symm, Below.refl _ _⟩
    · go_enter Try.func64, Try.ntmps64
      go_wp2
      go_ret
      exact ⟨ret_bool (isFree_low s xs (by omega)).symm, Below.refl _ _⟩
  · go_enter Try.func64, Try.ntmps64
    go_wp2
    go_ret
    exact ⟨ret_bool (isFree_low s xs (by omega)).symm, Below.refl _ _⟩

theorem implIsFreeWord_any {s : Int} {a : Option Addr} {n cap : Nat} {xs : List Int} {w : World} (hr : Reads w a n xs) (hn : n ≤ 1048576) (_hs : (Lit.int .i64 s).wf = true) {fb : Bool} (hM : isFree s xs = fb) :
    Calls Try.prog 64 #[.slice a n cap, .int .i64 s] w fun e w' => e = .returned (.bool fb) ∧ Below w.heap.size w w' := by
  rw [← hM]
  exact isFreeWord_any s a n cap xs w hr hn

end Go.Proofs.Ytmlejlediflaaaa
