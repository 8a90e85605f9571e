/- Two lists of numbers are compared: the model, the library. -/
import Derived.Test.YtmlejlediflaaaaFw
import Derived.BigQuiet
namespace Go.Proofs.Ytmlejlediflaaaa
open Go.RowKit Go.ChangeShapes

set_option maxHeartbeats 1000000 in
theorem l08Same_len (a b : Option Addr) (n m ca cb : Nat) (w : World) (h : n ≠ m) :
    Calls Try.prog 91 #[.slice a n ca, .slice b m cb] w fun e w' => e = .returned (.bool false) ∧ w = w' := by
  have h1 : ((n : Int) != (m : Int)) = true := by simp; omega
  go_enter Try.func91, Try.ntmps91
  go_wp2
  go_ret
  exact ⟨rfl, rfl⟩

set_option maxHeartbeats 400000 in
theorem l08Same_same (a b : Option Addr) (n ca cb : Nat) (xs ys : List Int) (w : World) (ha : Reads w a n xs) (hb : Reads w b n ys) (hn : n ≤ maxLen) :
    Calls Try.prog 91 #[.slice a n ca, .slice b n cb] w fun e w' => e = .returned (.bool (decide (xs = ys))) ∧ Below w.heap.size w w' := by
  unfold maxLen at hn
  have h1 : ((n : Int) != (n : Int)) = false := by simp
  have hla := ha.len
  have hlb := hb.len
  have HLA := Lib.hid hla; clear hla
  have HLB := Lib.hid hlb; clear hlb
  rcases Nat.eq_zero_or_pos n with h0 | h0
  · subst h0
    have HA := Lib.hid ha; clear ha
    have HB := Lib.hid hb; clear hb
    have hx : xs = [] := List.eq_nil_of_length_eq_zero HLA.out
    have hy : ys = [] := List.eq_nil_of_length_eq_zero HLB.out
    have HX := Lib.hid hx; clear hx
    have HY := Lib.hid hy; clear hy
    go_enter Try.func91, Try.ntmps91
    go_wp2
    refine wp_loop_rounds 1 ?_; rw [rounds_succ]
    go_wp2
    go_ret
    rw [HX.out, HY.out]
    exact ⟨rfl, Below.refl _ _⟩
  · obtain ⟨ba, oa, rfl, hba, hca⟩ := ha.cells h0
    obtain ⟨bb, ob, rfl, hbb, hcb⟩ := hb.cells h0
    have HCA := Lib.hid hca; clear hca
    have HCB := Lib.hid hcb; clear hcb
    clear ha hb
    go_enter Try.func91, Try.ntmps91
    go_wp2
    go_loopw [5] (fun i wr => ∃ k : Nat, k ≤ n ∧ i = .int .i64 k ∧ Hid (∀ j, j < k → xs.getD j 0 = ys.getD j 0) ∧ Below w.heap.size w wr) (fun i _ => n - (intOf i).toNat)
    case atStart => exact ⟨0, Nat.zero_le _, rfl, Lib.hid (fun j hj => absurd hj (Nat.not_lt_zero _)), Below.refl _ _⟩
    case round =>
      obtain ⟨k, hk, rfl, HS, hbl⟩ := hrel
      by_cases hlt : k < n
      · obtain ⟨x, hx⟩ : ∃ x, x = xs.getD k 0 := ⟨_, rfl⟩
        obtain ⟨y, hy⟩ : ∃ y, y = ys.getD k 0 := ⟨_, rfl⟩
        have c1 : wr.cell? ⟨ba, oa + k, none⟩ = some (.int .i64 x) := by rw [hx]; exact (hbl.cell (by exact hba)).trans (HCA.out k hlt)
        have c2 : wr.cell? ⟨bb, ob + k, none⟩ = some (.int .i64 y) := by rw [hy]; exact (hbl.cell (by exact hbb)).trans (HCB.out k hlt)
        have HX := Lib.hid hx; clear hx
        have HY := Lib.hid hy; clear hy
        have g0 : 0 ≤ (k : Int) := by omega
        have g1 : (k : Int) < (n : Int) := by omega
        by_cases hxy : x = y
        · have t1 : (x != y) = false := by simp [hxy]
          have HXY := Lib.hid hxy; clear hxy
          go_wp2
          go_quiet (fail)
          go_wp2
          go_roundw
          case rel =>
            refine ⟨k + 1, by omega, by go_num, Lib.hid ?_, hbl.trans (below_draws _ _ _)⟩
            intro j hj
            by_cases hjk : j = k
            · rw [hjk, ← HX.out, ← HY.out, HXY.out]
            · exact HS.out j (by omega)
          case measure => simp [intOf]; omega
        · have t1 : (x != y) = true := by simp [hxy]
          have HXY := Lib.hid hxy; clear hxy
          go_wp2
          go_quiet (fail)
          go_wp2
          go_ret
          refine ⟨?_, hbl.trans (below_draws _ _ _)⟩
          have : xs ≠ ys := fun e => HXY.out (by rw [HX.out, HY.out, e])
          simp [this]
      · have hkn : k = n := by omega
        have HK := Lib.hid hkn; clear hkn
        go_wp2
        go_ret
        refine ⟨?_, hbl⟩
        have : xs = ys := eq_of_getD xs ys (HLA.out.trans HLB.out.symm) (by rw [HLA.out, ← HK.out]; exact HS.out)
        simp [this]

theorem l08Same_any (a b : Option Addr) (n m ca cb : Nat) (xs ys : List Int) (w : World) (ha : Reads w a n xs) (hb : Reads w b m ys) (hn : n ≤ maxLen) :
    Calls Try.prog 91 #[.slice a n ca, .slice b m cb] w fun e w' => e = .returned (.bool (decide (xs = ys))) ∧ Below w.heap.size w w' := by
  by_cases h : n = m
  · subst h
    exact l08Same_same a b n ca cb xs ys w ha hb hn
  · refine (l08Same_len a b n m ca cb w h).mono fun e w' ⟨he, hw⟩ => ?_
    subst hw
    refine ⟨?_, Below.refl _ _⟩
    have : xs ≠ ys := fun e => h (by rw [← ha.len, ← hb.len, e])
    rw [he]
    simp [this]

set_option maxHeartbeats 1000000 in
theorem slEqual_len (a b : Option Addr) (n m ca cb : Nat) (w : World) (h : n ≠ m) :
    Calls Try.prog 94 #[.slice a n ca, .slice b m cb] w fun e w' => e = .returned (.bool false) ∧ w = w' := by
  have h1 : ((n : Int) != (m : Int)) = true := by simp; omega
  go_enter Try.func94, Try.ntmps94
  go_wp2
  go_ret
  exact ⟨rfl, rfl⟩

set_option maxHeartbeats 400000 in
theorem slEqual_same (a b : Option Addr) (n ca cb : Nat) (xs ys : List Int) (w : World) (ha : Reads w a n xs) (hb : Reads w b n ys) (hn : n ≤ maxLen) :
    Calls Try.prog 94 #[.slice a n ca, .slice b n cb] w fun e w' => e = .returned (.bool (decide (xs = ys))) ∧ Below w.heap.size w w' := by
  unfold maxLen at hn
  have h1 : ((n : Int) != (n : Int)) = false := by simp
  have hla := ha.len
  have hlb := hb.len
  have HLA := Lib.hid hla; clear hla
  have HLB := Lib.hid hlb; clear hlb
  rcases Nat.eq_zero_or_pos n with h0 | h0
  · subst h0
    have HA := Lib.hid ha; clear ha
    have HB := Lib.hid hb; clear hb
    have hx : xs = [] := List.eq_nil_of_length_eq_zero HLA.out
    have hy : ys = [] := List.eq_nil_of_length_eq_zero HLB.out
    have HX := Lib.hid hx; clear hx
    have HY := Lib.hid hy; clear hy
    go_enter Try.func94, Try.ntmps94
    go_wp2
    refine wp_loop_rounds 1 ?_; rw [rounds_succ]
    go_wp2
    go_ret
    rw [HX.out, HY.out]
    exact ⟨rfl, Below.refl _ _⟩
  · obtain ⟨ba, oa, rfl, hba, hca⟩ := ha.cells h0
    obtain ⟨bb, ob, rfl, hbb, hcb⟩ := hb.cells h0
    have HCA := Lib.hid hca; clear hca
    have HCB := Lib.hid hcb; clear hcb
    clear ha hb
    go_enter Try.func94, Try.ntmps94
    go_wp2
    go_loopw [13] (fun i wr => ∃ k : Nat, k ≤ n ∧ i = .int .i64 k ∧ Hid (∀ j, j < k → xs.getD j 0 = ys.getD j 0) ∧ Below w.heap.size w wr) (fun i _ => n - (intOf i).toNat)
    case atStart => exact ⟨0, Nat.zero_le _, rfl, Lib.hid (fun j hj => absurd hj (Nat.not_lt_zero _)), Below.refl _ _⟩
    case round =>
      obtain ⟨k, hk, rfl, HS, hbl⟩ := hrel
      by_cases hlt : k < n
      · obtain ⟨x, hx⟩ : ∃ x, x = xs.getD k 0 := ⟨_, rfl⟩
        obtain ⟨y, hy⟩ : ∃ y, y = ys.getD k 0 := ⟨_, rfl⟩
        have c1 : wr.cell? ⟨ba, oa + k, none⟩ = some (.int .i64 x) := by rw [hx]; exact (hbl.cell (by exact hba)).trans (HCA.out k hlt)
        have c2 : wr.cell? ⟨bb, ob + k, none⟩ = some (.int .i64 y) := by rw [hy]; exact (hbl.cell (by exact hbb)).trans (HCB.out k hlt)
        have HX := Lib.hid hx; clear hx
        have HY := Lib.hid hy; clear hy
        have g0 : 0 ≤ (k : Int) := by omega
        have g1 : (k : Int) < (n : Int) := by omega
        by_cases hxy : x = y
        · have t1 : (x != y) = false := by simp [hxy]
          have HXY := Lib.hid hxy; clear hxy
          go_wp2
          go_quiet (fail)
          go_wp2
          go_roundw
          case rel =>
            refine ⟨k + 1, by omega, by go_num, Lib.hid ?_, hbl.trans (below_draws _ _ _)⟩
            intro j hj
            by_cases hjk : j = k
            · rw [hjk, ← HX.out, ← HY.out, HXY.out]
            · exact HS.out j (by omega)
          case measure => simp [intOf]; omega
        · have t1 : (x != y) = true := by simp [hxy]
          have HXY := Lib.hid hxy; clear hxy
          go_wp2
          go_quiet (fail)
          go_wp2
          go_ret
          refine ⟨?_, hbl.trans (below_draws _ _ _)⟩
          have : xs ≠ ys := fun e => HXY.out (by rw [HX.out, HY.out, e])
          simp [this]
      · have hkn : k = n := by omega
        have HK := Lib.hid hkn; clear hkn
        go_wp2
        go_ret
        refine ⟨?_, hbl⟩
        have : xs = ys := eq_of_getD xs ys (HLA.out.trans HLB.out.symm) (by rw [HLA.out, ← HK.out]; exact HS.out)
        simp [this]

theorem slEqual_any (a b : Option Addr) (n m ca cb : Nat) (xs ys : List Int) (w : World) (ha : Reads w a n xs) (hb : Reads w b m ys) (hn : n ≤ maxLen) :
    Calls Try.prog 94 #[.slice a n ca, .slice b m cb] w fun e w' => e = .returned (.bool (decide (xs = ys))) ∧ Below w.heap.size w w' := by
  by_cases h : n = m
  · subst h
    exact slEqual_same a b n ca cb xs ys w ha hb hn
  · refine (slEqual_len a b n m ca cb w h).mono fun e w' ⟨he, hw⟩ => ?_
    subst hw
    refine ⟨?_, Below.refl _ _⟩
    have : xs ≠ ys := fun e => h (by rw [← ha.len, ← hb.len, e])
    rw [he]
    simp [this]

end Go.Proofs.Ytmlejlediflaaaa
