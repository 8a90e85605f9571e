/- The sum of a braid: the model's answer and the program's. -/
import Derived.Test.YtmiihjhhbjpalaaLetters
namespace Go.Proofs.Ytmiihjhhbjpalaa
open Go.RowKit Go.ChangeShapes

/-- The sum of the counts of letters. -/
def sumL (xs : List Int) : Int := (xs.map cnt).sum

/-- The sum of a braid, and the code. -/
def mSum (s : Int) (xs : List Int) : Int × Int := if isBraid s xs = true then (sumL xs, 0) else (0, 1)

theorem sumL_bd (xs : List Int) : -(xs.length : Int) ≤ sumL xs ∧ sumL xs ≤ xs.length := by
  induction xs with
  | nil => simp [sumL]
  | cons x xs ih =>
    have hc : cnt x = -1 ∨ cnt x = 1 := by unfold cnt; split <;> simp
    simp only [sumL, List.map_cons, List.sum_cons, List.length_cons] at *
    omega

theorem sumL_step (xs : List Int) (k : Nat) (h : k < xs.length) : sumL (xs.take (k + 1)) = sumL (xs.take k) + cnt (xs.getD k 0) := by
  rw [take_snoc xs k h]
  simp [sumL]

set_option maxHeartbeats 400000 in
theorem l01Sum_any (a : Option Addr) (n cap : Nat) (xs : List Int) (w : World) (hr : Reads w a n xs) (hne : ∀ x ∈ xs, x ≠ 0) (hn : n ≤ 1048576) :
    Calls Try.prog 73 #[.slice a n cap] w fun e w' => e = .returned (.int .i64 (sumL xs)) ∧ w = w' := by
  have HL := Lib.hid hr.len
  have HNE := Lib.hid hne; clear hne
  rcases Nat.eq_zero_or_pos n with h0 | h0
  · subst h0
    have hx : xs = [] := List.eq_nil_of_length_eq_zero HL.out
    have HX := Lib.hid hx; clear hx hr
    go_enter Try.func73, Try.ntmps73
    go_wp2
    refine wp_loop_rounds 1 ?_; rw [rounds_succ]
    go_wp2
    go_ret
    exact ⟨ret_int (by rw [HX.out]; rfl), rfl⟩
  · obtain ⟨b, off, rfl, hb, hc⟩ := hr.cells h0
    have HC := Lib.hid hc; clear hc hr
    go_enter Try.func73, Try.ntmps73
    go_wp2
    go_loop [3, 4] (fun v i => ∃ k : Nat, k ≤ n ∧ i = .int .i64 k ∧ v = .int .i64 (sumL (xs.take k))) (fun _ i => n - (intOf i).toNat)
    case atStart => exact ⟨0, Nat.zero_le _, rfl, rfl⟩
    case round =>
      obtain ⟨k, hk, rfl, rfl⟩ := hrel
      have bd := sumL_bd (xs.take k)
      have ln : (xs.take k).length ≤ k := List.length_take_le _ _
      obtain ⟨b1, b2⟩ := bd
      obtain ⟨v, hv⟩ : ∃ v, v = sumL (xs.take k) := ⟨_, rfl⟩
      rw [← hv] at b1 b2 ⊢
      have b3 : -2000000 ≤ v := by omega
      have b4 : v ≤ 2000000 := by omega
      clear b1 b2 ln
      have HV := Lib.hid hv; clear hv
      by_cases hlt : k < n
      · have hm := HNE.out _ (getD_mem xs k (by rw [HL.out]; omega))
        have st := sumL_step xs k (by rw [HL.out]; omega)
        obtain ⟨x, hx⟩ : ∃ x, x = xs.getD k 0 := ⟨_, rfl⟩
        have h1 := HC.out k hlt
        rw [← hx] at hm st h1
        have HST := Lib.hid st; clear st hx
        by_cases hp : 0 < x
        · go_wp2
          go_round
          case rel =>
            refine ⟨k + 1, by omega, by go_num, ?_⟩
            have : cnt x = 1 := by unfold cnt; rw [if_neg (by omega)]
            rw [HST.out, this, ← HV.out]
          case measure => simp [intOf]; omega
        · go_wp2
          go_round
          case rel =>
            refine ⟨k + 1, by omega, by go_num, ?_⟩
            have : cnt x = -1 := by unfold cnt; rw [if_pos (by omega)]
            rw [HST.out, this, ← HV.out]
            go_num
          case measure => simp [intOf]; omega
      · have hkn : k = n := by omega
        have HK := Lib.hid hkn; clear hkn
        go_wp2
        go_ret
        have hh := HL.out
        exact ⟨ret_int (by rw [HV.out, HK.out, List.take_of_length_le (by omega)]), rfl⟩

theorem letters_ne3 (s : Int) (xs : List Int) (h : isBraid s xs = true) : ∀ x ∈ xs, x ≠ 0 := fun x hx => (((isBraid_iff s xs).1 h).2.2.2 x hx).1

theorem specSum_any {s : Int} {a : Option Addr} {n cap : Nat} {xs : List Int} {w : World} {fv fc : Int} (hr : Reads w a n xs) (hf : Fits xs) (hn : n ≤ 1048576) (hM : mSum s xs = (fv, fc)) :
    Calls Try.prog 48 #[.agg #[.int .i64 s, .slice a n cap]] w fun e w' => e = .returned (.tuple #[.int .i64 fv, .int .i64 fc]) ∧ Below w.heap.size w w' := by
  have R := Lib.hid hr; clear hr
  have HF := Lib.hid hf; clear hf
  by_cases hbr : isBraid s xs = true
  · simp only [mSum, if_pos hbr, Prod.mk.injEq] at hM
    obtain ⟨rfl, rfl⟩ := hM
    have HNE := Lib.hid (letters_ne3 _ _ hbr)
    go_enter Try.func48, Try.ntmps48
    go_wp2_with fail
    refine (l01Is_any _ _ _ _ xs _ (R.out.alloc _) HF.out hn).mono ?_
    rintro e w1 ⟨rfl, hb⟩
    obtain ⟨q1, q2, q3, q4, q5⟩ := (At2.new w (.int .i64 s) (.slice a n cap) 27).below hb
    have R1 := Lib.hid ((R.out.alloc (.cells #[.int .i64 s, .slice a n cap] 27)).below hb)
    have BB := Lib.hid (below_go (below1 w _) hb (by simp)); clear hb
    go_wp2_with (go_at_call 73; refine (l01Sum_any _ _ _ _ _ R1.out HNE.out hn).mono ?_; rintro e w' ⟨rfl, rfl⟩)
    go_ret2
    exact ⟨rfl, BB.out⟩
  · have hb0 : isBraid s xs = false := by simpa using hbr
    simp only [mSum, if_neg hbr, Prod.mk.injEq] at hM
    obtain ⟨rfl, rfl⟩ := hM
    clear hbr
    go_enter Try.func48, Try.ntmps48
    go_wp2_with (go_at_call 51; refine (l01Is_any _ _ _ _ xs _ (R.out.alloc _) HF.out hn).mono ?_; rintro e w1 ⟨rfl, hb⟩)
    go_ret2
    exact ⟨rfl, below_go (below1 w _) hb (by simp)⟩

set_option maxHeartbeats 400000 in
theorem implSum_any {s : Int} {a : Option Addr} {n cap : Nat} {xs : List Int} {w : World} {fv fc : Int} (hr : Reads w a n xs) (_hf : Fits xs) (hn : n ≤ 1048576) (hM : mSum s xs = (fv, fc)) :
    Calls Try.prog 49 #[.agg #[.int .i64 s, .slice a n cap]] w fun e w' => e = .returned (.tuple #[.int .i64 fv, .int .i64 fc]) ∧ Below w.heap.size w w' := by
  have HL := Lib.hid hr.len
  have R := Lib.hid hr; clear hr
  by_cases hbr : isBraid s xs = true
  · simp only [mSum, if_pos hbr, Prod.mk.injEq] at hM
    obtain ⟨rfl, rfl⟩ := hM
    rcases Nat.eq_zero_or_pos n with h0 | h0
    · subst h0
      have hx : xs = [] := List.eq_nil_of_length_eq_zero HL.out
      have HX := Lib.hid hx; clear hx
      go_enter Try.func49, Try.ntmps49
      go_wp2_with fail
      refine (implIsBraid_any _ _ _ _ xs _ (R.out.alloc _) hn).mono ?_
      rintro e w1 ⟨rfl, hb⟩
      obtain ⟨q1, q2, q3, q4, q5⟩ := (At2.new w (.int .i64 s) (.slice a 0 cap) 27).below hb
      have BB := Lib.hid (below_go (below1 w _) hb (by simp)); clear hb
      go_wp2
      refine wp_loop_rounds 1 ?_; rw [rounds_succ]
      go_wp2
      go_ret2
      rw [HX.out]
      exact ⟨rfl, BB.out⟩
    · obtain ⟨b, off, rfl, hb0, hc⟩ := R.out.cells h0
      have HC := Lib.hid hc; clear hc
      go_enter Try.func49, Try.ntmps49
      go_wp2_with fail
      refine (implIsBraid_any _ _ _ _ xs _ (R.out.alloc _) hn).mono ?_
      rintro e w1 ⟨rfl, hb⟩
      obtain ⟨q1, q2, q3, q4, q5⟩ := (At2.new w (.int .i64 s) (.slice (some ⟨b, off, none⟩) n cap) 27).below hb
      have BB := Lib.hid (below_go (below1 w _) hb (by simp)); clear hb
      have HC1 : Hid (∀ j, j < n → w1.cell? ⟨b, off + j, none⟩ = some (.int .i64 (xs.getD j 0))) := Lib.hid fun j hj => (BB.out.cell (by exact hb0)).trans (HC.out j hj)
      go_wp2
      go_loop [4, 13] (fun v i => ∃ k : Nat, k ≤ n ∧ i = .int .i64 k ∧ v = .int .i64 (sumL (xs.take k))) (fun _ i => n - (intOf i).toNat)
      case atStart => exact ⟨0, Nat.zero_le _, rfl, rfl⟩
      case round =>
        obtain ⟨k, hk, rfl, rfl⟩ := hrel
        have bd := sumL_bd (xs.take k)
        have ln : (xs.take k).length ≤ k := List.length_take_le _ _
        obtain ⟨b1, b2⟩ := bd
        obtain ⟨v, hv⟩ : ∃ v, v = sumL (xs.take k) := ⟨_, rfl⟩
        rw [← hv] at b1 b2 ⊢
        have b3 : -2000000 ≤ v := by omega
        have b4 : v ≤ 2000000 := by omega
        clear b1 b2 ln
        have HV := Lib.hid hv; clear hv
        by_cases hlt : k < n
        · have st := sumL_step xs k (by rw [HL.out]; omega)
          obtain ⟨x, hx⟩ : ∃ x, x = xs.getD k 0 := ⟨_, rfl⟩
          have h1 := HC1.out k hlt
          rw [← hx] at st h1
          have hcn : cnt x = -1 ∨ cnt x = 1 := by unfold cnt; split <;> simp
          have hc1 : -1 ≤ cnt x := by omega
          have hc2 : cnt x ≤ 1 := by omega
          have HST := Lib.hid st; clear st hx hcn
          go_wp2_with (go_at_call 74; refine (count_any _ _).mono ?_; rintro e w' ⟨rfl, rfl⟩)
          go_round
          case rel => exact ⟨k + 1, by omega, by go_num, by rw [HST.out, ← HV.out]⟩
          case measure => simp [intOf]; omega
        · have hkn : k = n := by omega
          have HK := Lib.hid hkn; clear hkn
          go_wp2
          go_ret2
          have hh := HL.out
          rw [HV.out, HK.out, List.take_of_length_le (by omega)]
          exact ⟨rfl, BB.out⟩
  · have hb0 : isBraid s xs = false := by simpa using hbr
    simp only [mSum, if_neg hbr, Prod.mk.injEq] at hM
    obtain ⟨rfl, rfl⟩ := hM
    clear hbr
    go_enter Try.func49, Try.ntmps49
    go_wp2_with (go_at_call 18; refine (implIsBraid_any _ _ _ _ xs _ (R.out.alloc _) hn).mono ?_; rintro e w1 ⟨rfl, hb⟩)
    go_ret2
    exact ⟨rfl, below_go (below1 w _) hb (by simp)⟩

end Go.Proofs.Ytmiihjhhbjpalaa
