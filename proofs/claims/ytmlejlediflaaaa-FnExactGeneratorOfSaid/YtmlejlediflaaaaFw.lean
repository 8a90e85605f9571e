/- Free words: what the model says. -/
import Derived.Test.YtmlejlediflaaaaIs2
import Derived.BigQuiet
import Derived.Deep.QuietTactic
namespace Go.Proofs.Ytmlejlediflaaaa
open Go.RowKit Go.ChangeShapes

/-- The number at place k is one of n generators, and not the opposite of the one ahead of it. -/
def okFree (n : Int) (xs : List Int) (k : Nat) : Bool := okLetter (n + 1) (xs.getD k 0) && (decide (k = 0) || decide (xs.getD k 0 ≠ -xs.getD (k - 1) 0))

/-- The numbers are a free word for n generators. -/
def isFree (n : Int) (xs : List Int) : Bool := inB n 1 8 && (decide (xs.length ≤ 4000) && (List.range xs.length).all (okFree n xs))

theorem isFree_all (n : Int) (m : Nat) (xs : List Int) (h1 : 1 ≤ n) (h2 : n ≤ 8) (h3 : m ≤ 4000) (hl : xs.length = m) (h : ∀ j, j < m → okFree n xs j = true) : isFree n xs = true := by
  simp only [isFree, Bool.and_eq_true, decide_eq_true_eq, List.all_eq_true, List.mem_range]
  exact ⟨(inB_iff _ _ _).2 ⟨h1, h2⟩, by omega, fun j hj => h j (by omega)⟩

theorem isFree_bad (n : Int) (xs : List Int) (k : Nat) (hk : k < xs.length) (h : okFree n xs k = false) : isFree n xs = false := by
  rw [← Bool.not_eq_true]
  intro e
  simp only [isFree, Bool.and_eq_true, decide_eq_true_eq, List.all_eq_true, List.mem_range] at e
  have := e.2.2 k hk
  rw [h] at this
  cases this

theorem isFree_iff (n : Int) (xs : List Int) : isFree n xs = true ↔ 1 ≤ n ∧ n ≤ 8 ∧ xs.length ≤ 4000 ∧ ∀ j, j < xs.length → okFree n xs j = true := by
  simp only [isFree, Bool.and_eq_true, decide_eq_true_eq, List.all_eq_true, List.mem_range, inB_iff]
  exact ⟨fun ⟨⟨a, b⟩, c, d⟩ => ⟨a, b, c, d⟩, fun ⟨a, b, c, d⟩ => ⟨⟨a, b⟩, c, d⟩⟩

theorem isFree_low (n : Int) (xs : List Int) (h : n < 1 ∨ 8 < n ∨ 4000 < xs.length) : isFree n xs = false := by
  rw [← Bool.not_eq_true, isFree_iff]
  omega

theorem okLetter_iff (s x : Int) : okLetter s x = true ↔ x ≠ 0 ∧ -s < x ∧ x < s := by simp [okLetter]

theorem okFree_letter {n : Int} {xs : List Int} {k : Nat} (h : okFree n xs k = true) : okLetter (n + 1) (xs.getD k 0) = true := by
  simp only [okFree, Bool.and_eq_true] at h
  exact h.1

theorem l01In_yes (n lo hi : Int) (w : World) (b : Bool) (h : inB n lo hi = b) :
    Calls Try.prog 59 #[.int .i64 n, .int .i64 lo, .int .i64 hi] w fun e w' => e = .returned (.bool b) ∧ w' = w :=
  (l01In_any n lo hi w).mono fun _ _ hh => ⟨by rw [hh.1, h], hh.2.symm⟩

set_option maxRecDepth 100000 in
set_option maxHeartbeats 1000000 in
theorem l08Is_any (s : Int) (a : Option Addr) (n cap : Nat) (xs : List Int) (w : World) (hr : Reads w a n xs) (hs : (Lit.int .i64 s).wf = true) (hn : n ≤ 1048576) :
    Calls Try.prog 83 #[.slice a n cap, .int .i64 s] w fun e w' => e = .returned (.bool (isFree s xs)) ∧ Below w.heap.size w w' := by
  have hl := hr.len
  have HL := Lib.hid hl; clear hl
  have HR := Lib.hid hr; clear hr
  have HW := Lib.hid hs; clear hs
  by_cases hs : inB s 1 8 = true
  · by_cases h2 : n ≤ 4000
    · obtain ⟨g1, g2⟩ := (inB_iff _ _ _).1 hs
      go_enter Try.func83, Try.ntmps83
      go_wp2_with (go_at_call 59; refine (l01In_any _ _ _ _).mono ?_; rintro e w' ⟨rfl, rfl⟩)
      rcases Nat.eq_zero_or_pos n with h0 | h0
      · have HZ := Lib.hid h0; clear h0
        refine wp_loop_rounds 1 ?_; rw [rounds_succ]
        have hz : (n : Int) ≤ 0 := by rw [HZ.out]; simp
        go_wp2
        go_ret
        have : isFree s xs = true := isFree_all s n xs g1 g2 h2 HL.out (fun j hj => by have := HZ.out; omega)
        exact ⟨ret_bool this.symm, Below.refl _ _⟩
      · obtain ⟨b, off, rfl, hb, hc⟩ := HR.out.cells h0
        have HC := Lib.hid hc; clear hc
        have hwn : IntKind.i64.wrap (-s) = -s := IntWalk.i64_in _ (by omega)
        go_loopw [5] (fun i wr => ∃ k : Nat, k ≤ n ∧ i = .int .i64 k ∧ Hid (∀ j, j < k → okFree s xs j = true) ∧ Below w.heap.size w wr) (fun i _ => n - (intOf i).toNat)
        case atStart => exact ⟨0, Nat.zero_le _, rfl, Lib.hid (fun j hj => absurd hj (Nat.not_lt_zero _)), Below.refl _ _⟩
        case round =>
          obtain ⟨k, hk, rfl, HS, hbl⟩ := hrel
          by_cases hlt : k < n
          · obtain ⟨x, hx⟩ : ∃ x, x = xs.getD k 0 := ⟨_, rfl⟩
            have c1 : wr.cell? ⟨b, off + k, none⟩ = some (.int .i64 x) := by rw [hx]; exact (hbl.cell (by exact hb)).trans (HC.out k hlt)
            have g0 : 0 ≤ (k : Int) := by omega
            have g1' : (k : Int) < (n : Int) := by omega
            by_cases hok : okLetter (s + 1) x = true
            · have e1 := (okLetter_iff _ _).1 hok
              have t1 : (x == 0) = false := by simp [e1.1]
              have t2 : inB x (-s) s = true := (inB_iff _ _ _).2 (by omega)
              have HX := Lib.hid hx; clear hx
              have HOK := Lib.hid hok; clear hok
              have HE := Lib.hid e1; clear e1
              by_cases hk0 : k = 0
              · have hd : decide (0 < k) = false := decide_eq_false (by omega)
                have HK0 := Lib.hid hk0; clear hk0
                go_wp2
                go_quiet ((go_at_call 59; exact Calls.quiet_of_same (l01In_yes _ _ _ _ _ t2)))
                go_wp2
                go_roundw
                case rel =>
                  refine ⟨k + 1, by omega, by go_num, Lib.hid ?_, hbl.trans (below_draws _ _ _)⟩
                  intro j hj
                  have hjk : j = k := by have := HK0.out; omega
                  rw [hjk, okFree, ← HX.out, HOK.out, HK0.out]; rfl
                case measure => simp [intOf]; omega
              · have hd : decide (0 < k) = true := decide_eq_true (by omega)
                have HK0 := Lib.hid hk0; clear hk0
                obtain ⟨q, hq⟩ : ∃ q, k = q + 1 := ⟨k - 1, by have := HK0.out; omega⟩
                obtain ⟨y, hy⟩ : ∃ y, y = xs.getD q 0 := ⟨_, rfl⟩
                have c2 : wr.cell? ⟨b, off + q, none⟩ = some (.int .i64 y) := by rw [hy]; exact (hbl.cell (by exact hb)).trans (HC.out q (by omega))
                have hye := (okLetter_iff _ _).1 (okFree_letter (HS.out q (by omega)))
                rw [← hy] at hye
                have hwy : IntKind.i64.wrap (-y) = -y := IntWalk.i64_in _ (by omega)
                have hwq : IntKind.i64.wrap ((k : Int) - 1) = (q : Int) := (IntWalk.i64_in _ (by omega)).trans (by omega)
                have q0 : (0 : Int) ≤ (q : Int) := by omega
                have q1 : (q : Int) < (n : Int) := by omega
                have HQ := Lib.hid hq; clear hq
                have HY := Lib.hid hy; clear hy hye
                have hof : okFree s xs k = decide (x ≠ -y) := by
                  rw [okFree, ← HX.out, HOK.out, show k - 1 = q by have := HQ.out; omega, ← HY.out]; simp [HK0.out]
                have HOF := Lib.hid hof; clear hof
                by_cases hxy : x = -y
                · have t3 : (x == -y) = true := by simp [hxy]
                  have HXY := Lib.hid hxy; clear hxy
                  go_wp2
                  go_quiet ((go_at_call 59; exact Calls.quiet_of_same (l01In_yes _ _ _ _ _ t2)))
                  go_wp2
                  go_ret
                  have : isFree s xs = false := isFree_bad s xs k (by rw [HL.out]; exact hlt) (by rw [HOF.out, HXY.out]; simp)
                  exact ⟨ret_bool this.symm, hbl.trans (below_draws _ _ _)⟩
                · have t3 : (x == -y) = false := by simp [hxy]
                  have HXY := Lib.hid hxy; clear hxy
                  go_wp2
                  go_quiet ((go_at_call 59; exact Calls.quiet_of_same (l01In_yes _ _ _ _ _ t2)))
                  go_wp2
                  go_roundw
                  case rel =>
                    refine ⟨k + 1, by omega, by go_num, Lib.hid ?_, hbl.trans (below_draws _ _ _)⟩
                    intro j hj
                    by_cases hjk : j = k
                    · rw [hjk, HOF.out]; exact decide_eq_true HXY.out
                    · exact HS.out j (by omega)
                  case measure => simp [intOf]; omega
            · have hbad : isFree s xs = false := isFree_bad s xs k (by rw [HL.out]; exact hlt) (by rw [okFree, ← hx]; simp [hok])
              have HX := Lib.hid hx; clear hx
              have HB := Lib.hid hbad; clear hbad
              by_cases hx0 : x = 0
              · have t1 : (x == 0) = true := by simp [hx0]
                have HX0 := Lib.hid hx0; clear hx0 hok
                go_wp2
                go_quiet (fail)
                go_wp2
                go_ret
                exact ⟨ret_bool HB.out.symm, hbl.trans (below_draws _ _ _)⟩
              · have t1 : (x == 0) = false := by simp [hx0]
                have t2 : inB x (-s) s = false := by
                  rw [← Bool.not_eq_true, inB_iff]
                  intro h
                  exact hok ((okLetter_iff _ _).2 ⟨hx0, by omega, by omega⟩)
                clear hx0 hok
                go_wp2
                go_quiet ((go_at_call 59; exact Calls.quiet_of_same (l01In_yes _ _ _ _ _ t2)))
                go_wp2
                go_ret
                exact ⟨ret_bool HB.out.symm, hbl.trans (below_draws _ _ _)⟩
          · have hkn : k = n := by omega
            have HK := Lib.hid hkn; clear hkn
            go_wp2
            go_ret
            have : isFree s xs = true := isFree_all s n xs g1 g2 h2 HL.out (fun j hj => HS.out j (by rw [HK.out]; exact hj))
            exact ⟨ret_bool this.symm, hbl⟩
    · have HB := Lib.hid (isFree_low s xs (by rw [HL.out]; omega))
      go_enter Try.func83, Try.ntmps83
      go_wp2_with (go_at_call 59; refine (l01In_any _ _ _ _).mono ?_; rintro e w' ⟨rfl, rfl⟩)
      go_ret
      exact ⟨ret_bool HB.out.symm, Below.refl _ _⟩
  · have hs' : inB s 1 8 = false := by simpa using hs
    clear hs
    have HB := Lib.hid (isFree_low s xs (by have := (inB_not _ _ _).1 hs'; omega))
    go_enter Try.func83, Try.ntmps83
    go_wp2_with (go_at_call 59; refine (l01In_any _ _ _ _).mono ?_; rintro e w' ⟨rfl, rfl⟩)
    go_ret
    exact ⟨ret_bool HB.out.symm, Below.refl _ _⟩

end Go.Proofs.Ytmlejlediflaaaa
