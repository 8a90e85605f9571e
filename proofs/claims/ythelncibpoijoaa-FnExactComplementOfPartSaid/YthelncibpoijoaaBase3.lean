/- Contracts of the small functions that every law calls, continued: numbers are written into a braid's letters and found there again. -/
import Derived.Test.YthelncibpoijoaaBase2
namespace Go.Proofs.Ythelncibpoijoaa
open Go.RowKit

/-- The block of a slice's address. -/
def rowOf (a : Option Addr) : Option Nat := a.map (·.block)

theorem set_marks (xs : List Int) (m : Int) (n k : Nat) (hl : xs.length = n) (h : k < n) : (marks m k ++ xs.drop k).set k (m + (k : Int)) = marks m (k + 1) ++ xs.drop (k + 1) := by
  rw [marks_snoc, List.append_assoc, List.set_append, if_neg (by rw [marks_length]; omega), marks_length, Nat.sub_self, List.drop_eq_getElem_cons (show k < xs.length by omega)]
  rfl

set_option maxHeartbeats 400000 in
theorem markInt64S_any (B : Nat) (a : Option Addr) (n cap : Nat) (xs : List Int) (m : Int) (w : World) (ho : Own B w a n cap xs) (hn : n ≤ 1048576) (h0 : 0 ≤ m) (h1 : m ≤ 4294967296) :
    Calls Try.prog 64 #[.slice a n cap, .int .i64 m] w fun e w' => e = .returned (.int .i64 (m + n)) ∧ Own B w' a n cap (marks m n) ∧ w.grownBy w' (rowOf a) := by
  have hl := ho.len
  have HL := Lib.hid hl; clear hl
  rcases Nat.eq_zero_or_pos n with hz | hz
  · subst hz
    have HO := Lib.hid ho; clear ho
    go_enter Try.func64, Try.ntmps64
    go_wp2
    refine wp_loop_rounds 1 ?_; rw [rounds_succ]
    go_wp2
    go_ret
    have hx : xs = [] := List.eq_nil_of_length_eq_zero HL.out
    rw [hx] at HO
    exact ⟨by simp, HO.out, World.grownBy.refl _ _⟩
  · obtain ⟨g, rfl, hB, hg⟩ := ho.block hz
    have HO := Lib.hid ho; clear ho
    go_enter Try.func64, Try.ntmps64
    go_wp2
    go_loopw [1, 5] (fun v i wr => ∃ k : Nat, k ≤ n ∧ i = .int .i64 k ∧ v = .int .i64 (m + k) ∧ Own B wr (some ⟨g, 0, none⟩) n cap (marks m k ++ xs.drop k) ∧ w.grownBy wr (some g)) (fun _ i _ => n - (intOf i).toNat)
    case atStart => exact ⟨0, Nat.zero_le _, rfl, by simp, by simpa [marks] using HO.out, World.grownBy.refl _ _⟩
    case round =>
      obtain ⟨k, hk, rfl, rfl, hor, hgr⟩ := hrel
      by_cases hlt : k < n
      · have h2 := hor.cellAt k hlt
        have h3 := hor.frozenAt k
        have HOR := Lib.hid hor; clear hor
        have HGR := Lib.hid hgr; clear hgr
        go_wp2
        go_roundw
        case rel =>
          have := HOR.out.store k (m + (k : Int))
          rw [set_marks xs m n k HL.out hlt] at this
          refine ⟨k + 1, by omega, by go_num, by go_num, by simpa using this.1, ?_⟩
          have hb := this.2
          exact ⟨hb.os.trans HGR.out.os, hb.tape.trans HGR.out.tape, hb.output.trans HGR.out.output, Nat.le_trans HGR.out.size hb.size, fun j hj hne => (hb.block j (Nat.lt_of_lt_of_le hj HGR.out.size) hne).trans (HGR.out.block j hj hne)⟩
        case measure => simp [intOf]; omega
      · have hkn : k = n := by omega
        have HK := Lib.hid hkn; clear hkn
        go_wp2
        go_ret
        have := HK.out
        subst this
        rw [List.drop_of_length_le (by rw [HL.out]; omega), List.append_nil] at hor
        exact ⟨rfl, hor, hgr⟩

/-- A new block, and then a call that writes one row: of what there was before both only that row has turned. -/
theorem grown_behind {w w1 w2 : World} {row : Option Nat} (h : Below w.heap.size w w1) (k : w1.grownBy w2 row) : w.grownBy w2 row :=
  ⟨k.os.trans h.os, k.tape.trans h.tape, k.output.trans h.output, Nat.le_trans h.size k.size, fun j hj hne => (k.block j (Nat.lt_of_lt_of_le hj h.size) hne).trans (h.block j hj)⟩

theorem markBraid_any (B : Nat) (s : Int) (a : Option Addr) (n cap : Nat) (xs : List Int) (m : Int) (w : World) (ho : Own B w a n cap xs) (hn : n ≤ 1048576) (h0 : 0 ≤ m) (h1 : m ≤ 4294967296) :
    Calls Try.prog 30 #[.agg #[.int .i64 s, .slice a n cap], .int .i64 m] w fun e w' => e = .returned (.int .i64 (m + n)) ∧ Own B w' a n cap (marks m n) ∧ w.grownBy w' (rowOf a) := by
  have HO := Lib.hid ho; clear ho
  go_enter Try.func30, Try.ntmps30
  go_wp2_with (go_at_call 64; refine (markInt64S_any B _ _ _ xs _ _ (HO.out.alloc _) hn h0 h1).mono ?_; rintro e w1 ⟨rfl, ho1, hg1⟩)
  go_ret
  exact ⟨rfl, ho1, grown_behind (below1 w _) hg1⟩

set_option maxHeartbeats 400000 in
theorem heldInt64S_any (a : Option Addr) (n cap : Nat) (m : Int) (w : World) (hr : Reads w a n (marks m n)) (hn : n ≤ 1048576) (h0 : 0 ≤ m) (h1 : m ≤ 4294967296) :
    Calls Try.prog 65 #[.slice a n cap, .int .i64 m] w fun e w' => e = .returned (.int .i64 (m + n)) ∧ w = w' := by
  rcases Nat.eq_zero_or_pos n with hz | hz
  · subst hz
    clear hr
    go_enter Try.func65, Try.ntmps65
    go_wp2
    refine wp_loop_rounds 1 ?_; rw [rounds_succ]
    go_wp2
    go_ret
    exact ⟨by simp, rfl⟩
  · obtain ⟨b, off, rfl, hb, hc⟩ := hr.cells hz
    clear hr
    have HC := Lib.hid hc; clear hc
    go_enter Try.func65, Try.ntmps65
    go_wp2
    go_loop [1, 5] (fun v i => ∃ k : Nat, k ≤ n ∧ i = .int .i64 k ∧ v = .int .i64 (m + k)) (fun _ i => n - (intOf i).toNat)
    case atStart => exact ⟨0, Nat.zero_le _, rfl, by simp⟩
    case round =>
      obtain ⟨k, hk, rfl, rfl⟩ := hrel
      by_cases hlt : k < n
      · have h2 : w.cell? ⟨b, off + k, none⟩ = some (.int .i64 (m + (k : Int))) := by rw [HC.out k hlt, marks_getD m n k hlt]
        have t1 : ((m + (k : Int)) != (m + (k : Int))) = false := by simp
        go_wp2
        go_round
        case rel => exact ⟨k + 1, by omega, by go_num, by go_num⟩
        case measure => simp [intOf]; omega
      · have hkn : k = n := by omega
        have HK := Lib.hid hkn; clear hkn
        go_wp2
        go_ret
        rw [HK.out]
        exact ⟨rfl, rfl⟩

theorem heldBraid_any (s : Int) (a : Option Addr) (n cap : Nat) (m : Int) (w : World) (hr : Reads w a n (marks m n)) (hn : n ≤ 1048576) (h0 : 0 ≤ m) (h1 : m ≤ 4294967296) :
    Calls Try.prog 31 #[.agg #[.int .i64 s, .slice a n cap], .int .i64 m] w fun e w' => e = .returned (.int .i64 (m + n)) ∧ Below w.heap.size w w' := by
  have HR := Lib.hid hr; clear hr
  go_enter Try.func31, Try.ntmps31
  go_wp2_with (go_at_call 65; refine (heldInt64S_any _ _ _ _ _ (HR.out.alloc _) hn h0 h1).mono ?_; rintro e w1 ⟨rfl, rfl⟩)
  go_ret
  exact ⟨rfl, below1 w _⟩

end Go.Proofs.Ythelncibpoijoaa
