/- Central normal forms: the model and the program. -/
import Derived.Test.YtgljkffkpmkheaaNSmall
namespace Go.Proofs.Ytgljkffkpmkheaa
open Go.RowKit Go.ChangeShapes

/-- Central? -/
def mCen (s p : Int) (rs : List (List Int)) : Bool × Int := if normB s p rs = true then (decide (rs.length = 0) && (decide (p.tmod 2 = 0) || decide (s < 3)), 0) else (false, 1)

set_option maxHeartbeats 1000000 in
theorem specIsCentral_any (s p : Int) (a : Option Addr) (n cap : Nat) (rs : List (List Int)) (w : World) (hr : ReadsA w a n rs) (hy : BytesA rs) (hn : n ≤ 1048576) (fb : Bool) (fc : Int) (hM : mCen s p rs = (fb, fc)) :
    Calls Try.prog 62 #[.agg #[.int .i64 s, .int .i64 p, .slice a n cap]] w fun e w' => e = .returned (.tuple #[.bool fb, .int .i64 fc]) ∧ Below w.heap.size w w' := by
  have HL := Lib.hid hr.len
  have HR := Lib.hid hr; clear hr
  have HY := Lib.hid hy
  unfold mCen at hM
  cases hB : normB s p rs with
  | true =>
    rw [hB, if_pos rfl, HL.out] at hM
    obtain ⟨hfb, rfl⟩ := Prod.mk.inj hM
    clear hM
    go_enter Try.func62, Try.ntmps62
    have A := Lib.hid (At3.place w (.int .i64 s) (.int .i64 p) (.slice a n cap) 28 w.heap.size rfl)
    have B := Lib.hid (below1 w (.cells #[.int .i64 s, .int .i64 p, .slice a n cap] 28))
    go_wp2_with fail
    refine (l03Is_any s p a n cap rs _ (HR.out.alloc _) HY.out hn).mono ?_
    rw [hB]
    rintro e w1 ⟨rfl, hb⟩
    replace A := Lib.hid (A.out.below hb)
    replace B := Lib.hid (below_go B.out hb B.out.size)
    clear hb HY
    obtain ⟨q1, q2, q3⟩ := A.out.cells
    by_cases h0 : n = 0
    · subst h0
      by_cases h1 : p.tmod 2 = 0
      · obtain rfl : true = fb := by rw [← hfb]; simp [h1]
        clear hfb
        go_wp2
        go_ret2
        exact ⟨rfl, B.out⟩
      · have t1 : (p.tmod 2 == 0) = false := by simpa using h1
        by_cases h2 : s < 3
        · obtain rfl : true = fb := by rw [← hfb]; simp [h1]; omega
          clear hfb
          go_wp2
          go_ret2
          exact ⟨rfl, B.out⟩
        · obtain rfl : false = fb := by rw [← hfb]; simp [h1]; omega
          clear hfb
          have t2 : decide (s < 3) = false := by simpa using h2
          go_wp2
          go_ret2
          refine ⟨?_, B.out⟩
          try rfl
          try rw [t1, t2]; rfl
    · obtain rfl : false = fb := by rw [← hfb]; simp [h0]
      clear hfb
      go_wp2
      go_ret2
      exact ⟨rfl, B.out⟩
  | false =>
    rw [hB, if_neg (by simp)] at hM
    obtain ⟨rfl, rfl⟩ := Prod.mk.inj hM
    clear hM
    go_enter Try.func62, Try.ntmps62
    have B := Lib.hid (below1 w (.cells #[.int .i64 s, .int .i64 p, .slice a n cap] 28))
    go_wp2_with fail
    refine (l03Is_any s p a n cap rs _ (HR.out.alloc _) HY.out hn).mono ?_
    rw [hB]
    rintro e w1 ⟨rfl, hb⟩
    replace B := Lib.hid (below_go B.out hb B.out.size)
    clear hb
    go_wp2
    go_ret2
    exact ⟨rfl, B.out⟩

set_option maxHeartbeats 1000000 in
theorem implIsCentral_any (s p : Int) (a : Option Addr) (n cap : Nat) (rs : List (List Int)) (w : World) (hr : ReadsA w a n rs) (hy : BytesA rs) (hn : n ≤ 1048576) (fb : Bool) (fc : Int) (hM : mCen s p rs = (fb, fc)) :
    Calls Try.prog 63 #[.agg #[.int .i64 s, .int .i64 p, .slice a n cap]] w fun e w' => e = .returned (.tuple #[.bool fb, .int .i64 fc]) ∧ Below w.heap.size w w' := by
  have HL := Lib.hid hr.len
  have HR := Lib.hid hr; clear hr
  have HY := Lib.hid hy
  unfold mCen at hM
  cases hB : normB s p rs with
  | true =>
    rw [hB, if_pos rfl, HL.out] at hM
    obtain ⟨hfb, rfl⟩ := Prod.mk.inj hM
    clear hM
    go_enter Try.func63, Try.ntmps63
    have A := Lib.hid (At3.place w (.int .i64 s) (.int .i64 p) (.slice a n cap) 28 w.heap.size rfl)
    have B := Lib.hid (below1 w (.cells #[.int .i64 s, .int .i64 p, .slice a n cap] 28))
    go_wp2_with fail
    refine (implIsNormal_any s p a n cap rs _ (HR.out.alloc _) hn).mono ?_
    rw [hB]
    rintro e w1 ⟨rfl, hb⟩
    replace A := Lib.hid (A.out.below hb)
    replace B := Lib.hid (below_go B.out hb B.out.size)
    clear hb HY
    obtain ⟨q1, q2, q3⟩ := A.out.cells
    by_cases h0 : n = 0
    · subst h0
      by_cases h1 : p.tmod 2 = 0
      · obtain rfl : true = fb := by rw [← hfb]; simp [h1]
        clear hfb
        go_wp2
        go_ret2
        exact ⟨rfl, B.out⟩
      · have t1 : (p.tmod 2 == 0) = false := by simpa using h1
        by_cases h2 : s ≤ 2
        · obtain rfl : true = fb := by rw [← hfb]; simp [h1]; omega
          clear hfb
          go_wp2
          go_ret2
          exact ⟨rfl, B.out⟩
        · obtain rfl : false = fb := by rw [← hfb]; simp [h1]; omega
          clear hfb
          have t2 : decide (s ≤ 2) = false := by simpa using h2
          go_wp2
          go_ret2
          refine ⟨?_, B.out⟩
          try rfl
          try rw [t1, t2]; rfl
    · obtain rfl : false = fb := by rw [← hfb]; simp [h0]
      clear hfb
      go_wp2
      go_ret2
      exact ⟨rfl, B.out⟩
  | false =>
    rw [hB, if_neg (by simp)] at hM
    obtain ⟨rfl, rfl⟩ := Prod.mk.inj hM
    clear hM
    go_enter Try.func63, Try.ntmps63
    have B := Lib.hid (below1 w (.cells #[.int .i64 s, .int .i64 p, .slice a n cap] 28))
    go_wp2_with fail
    refine (implIsNormal_any s p a n cap rs _ (HR.out.alloc _) hn).mono ?_
    rw [hB]
    rintro e w1 ⟨rfl, hb⟩
    replace B := Lib.hid (below_go B.out hb B.out.size)
    clear hb
    go_wp2
    go_ret2
    exact ⟨rfl, B.out⟩

end Go.Proofs.Ytgljkffkpmkheaa
