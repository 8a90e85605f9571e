/- Positive normal forms, and lengths: the model and the program. -/
import Derived.Test.YtkedkleddpnanaaSNorm
import Derived.Test.YtkedkleddpnanaaLawIsN
import Derived.Test.YtkedkleddpnanaaKit3
namespace Go.Proofs.Ytkedkleddpnanaa
open Go.RowKit Go.ChangeShapes

theorem eqNormal_yesn (s p : Int) (a b : Option Addr) (n m ca cb : Nat) (rs : List (List Int)) (w : World) (ha : ReadsA w a n rs) (hb : ReadsA w b m rs) (hn : n ≤ 1048576) :
    Calls Try.prog 27 #[.agg #[.int .i64 s, .int .i64 p, .slice a n ca], .agg #[.int .i64 s, .int .i64 p, .slice b m cb]] w fun e w' => e = .returned (.bool true) ∧ Below w.heap.size w w' := by
  obtain rfl := ha.same hb
  exact eqNormal_yes s p a b n ca cb rs w ha hb hn

/-- Positive? -/
def mPos (s p : Int) (rs : List (List Int)) : Bool × Int := if normB s p rs = true then (decide (0 ≤ p), 0) else (false, 1)

/-- The lengths. -/
def mLens (s p : Int) (rs : List (List Int)) : List Int × Int := if normB s p rs = true then ([p, p + rs.length, rs.length], 0) else ([], 1)

theorem specIsPositive_any (s p : Int) (a : Option Addr) (n cap : Nat) (rs : List (List Int)) (w : World) (hr : ReadsA w a n rs) (hy : BytesA rs) (hn : n ≤ 1048576) (fb : Bool) (fc : Int) (hM : mPos s p rs = (fb, fc)) :
    Calls Try.prog 50 #[.agg #[.int .i64 s, .int .i64 p, .slice a n cap]] w fun e w' => e = .returned (.tuple #[.bool fb, .int .i64 fc]) ∧ Below w.heap.size w w' := by
  have HR := Lib.hid hr; clear hr
  have HY := Lib.hid hy; clear hy
  unfold mPos at hM
  cases hB : normB s p rs with
  | true =>
    rw [hB, if_pos rfl] at hM
    obtain ⟨rfl, rfl⟩ := Prod.mk.inj hM
    clear hM
    go_enter Try.func50, Try.ntmps50
    have A := Lib.hid (At3.place w (.int .i64 s) (.int .i64 p) (.slice a n cap) 38 w.heap.size rfl)
    have B := Lib.hid (below1 w (.cells #[.int .i64 s, .int .i64 p, .slice a n cap] 38))
    go_wp2_with fail
    refine (l03Is_any s p a n cap rs _ (HR.out.alloc _) HY.out hn).mono ?_
    rw [hB]
    rintro e w1 ⟨rfl, hb⟩
    replace A := Lib.hid (A.out.below hb)
    replace B := Lib.hid (below_go B.out hb B.out.size)
    clear hb
    obtain ⟨q1, q2, q3⟩ := A.out.cells
    go_wp2
    go_ret2
    exact ⟨rfl, B.out⟩
  | false =>
    rw [hB, if_neg (by simp)] at hM
    obtain ⟨rfl, rfl⟩ := Prod.mk.inj hM
    clear hM
    go_enter Try.func50, Try.ntmps50
    have B := Lib.hid (below1 w (.cells #[.int .i64 s, .int .i64 p, .slice a n cap] 38))
    go_wp2_with fail
    refine (l03Is_any s p a n cap rs _ (HR.out.alloc _) HY.out hn).mono ?_
    rw [hB]
    rintro e w1 ⟨rfl, hb⟩
    replace B := Lib.hid (below_go B.out hb B.out.size)
    clear hb
    go_wp2
    go_ret2
    exact ⟨rfl, B.out⟩

theorem implIsPositive_any (s p : Int) (a : Option Addr) (n cap : Nat) (rs : List (List Int)) (w : World) (hr : ReadsA w a n rs) (_hy : BytesA rs) (hn : n ≤ 1048576) (fb : Bool) (fc : Int) (hM : mPos s p rs = (fb, fc)) :
    Calls Try.prog 51 #[.agg #[.int .i64 s, .int .i64 p, .slice a n cap]] w fun e w' => e = .returned (.tuple #[.bool fb, .int .i64 fc]) ∧ Below w.heap.size w w' := by
  have HR := Lib.hid hr; clear hr
  unfold mPos at hM
  cases hB : normB s p rs with
  | true =>
    rw [hB, if_pos rfl] at hM
    obtain ⟨rfl, rfl⟩ := Prod.mk.inj hM
    clear hM
    go_enter Try.func51, Try.ntmps51
    have A := Lib.hid (At3.place w (.int .i64 s) (.int .i64 p) (.slice a n cap) 38 w.heap.size rfl)
    have B := Lib.hid (below1 w (.cells #[.int .i64 s, .int .i64 p, .slice a n cap] 38))
    go_wp2_with fail
    refine (implIsNormal_any s p a n cap rs _ (HR.out.alloc _) hn).mono ?_
    rw [hB]
    rintro e w1 ⟨rfl, hb⟩
    replace A := Lib.hid (A.out.below hb)
    replace B := Lib.hid (below_go B.out hb B.out.size)
    clear hb
    obtain ⟨q1, q2, q3⟩ := A.out.cells
    go_wp2
    go_ret2
    exact ⟨rfl, B.out⟩
  | false =>
    rw [hB, if_neg (by simp)] at hM
    obtain ⟨rfl, rfl⟩ := Prod.mk.inj hM
    clear hM
    go_enter Try.func51, Try.ntmps51
    have B := Lib.hid (below1 w (.cells #[.int .i64 s, .int .i64 p, .slice a n cap] 38))
    go_wp2_with fail
    refine (implIsNormal_any s p a n cap rs _ (HR.out.alloc _) hn).mono ?_
    rw [hB]
    rintro e w1 ⟨rfl, hb⟩
    replace B := Lib.hid (below_go B.out hb B.out.size)
    clear hb
    go_wp2
    go_ret2
    exact ⟨rfl, B.out⟩

theorem norm_small {s p : Int} {rs : List (List Int)} (h : normB s p rs = true) : -200 ≤ p ∧ p ≤ 200 ∧ rs.length ≤ 200 := by
  have := (normB_iff s p rs).1 h
  exact ⟨this.2.1.1, this.2.1.2, this.2.2.1⟩

theorem specLengthsOf_any (s p : Int) (a : Option Addr) (n cap : Nat) (rs : List (List Int)) (w : World) (hr : ReadsA w a n rs) (hy : BytesA rs) (hn : n ≤ 1048576) (fxs : List Int) (fc : Int) (hM : mLens s p rs = (fxs, fc)) :
    Calls Try.prog 44 #[.agg #[.int .i64 s, .int .i64 p, .slice a n cap]] w (RetInts w fxs fc) := by
  have HL := Lib.hid hr.len
  have HR := Lib.hid hr; clear hr
  have HY := Lib.hid hy; clear hy
  unfold mLens at hM
  cases hB : normB s p rs with
  | true =>
    rw [hB, if_pos rfl] at hM
    obtain ⟨rfl, rfl⟩ := Prod.mk.inj hM
    clear hM
    obtain ⟨p1, p2, p3⟩ := norm_small hB
    rw [HL.out] at p3 ⊢
    have hw : IntKind.i64.wrap (p + (n : Int)) = p + (n : Int) := IntWalk.i64_in _ (by omega)
    go_enter Try.func44, Try.ntmps44
    have A := Lib.hid (At3.place w (.int .i64 s) (.int .i64 p) (.slice a n cap) 38 w.heap.size rfl)
    have B := Lib.hid (below1 w (.cells #[.int .i64 s, .int .i64 p, .slice a n cap] 38))
    go_wp2_with fail
    refine (l03Is_any s p a n cap rs _ (HR.out.alloc _) HY.out hn).mono ?_
    rw [hB]
    rintro e w1 ⟨rfl, hb⟩
    replace A := Lib.hid (A.out.below hb)
    replace B := Lib.hid (below_go B.out hb B.out.size)
    clear hb
    obtain ⟨q1, q2, q3⟩ := A.out.cells
    go_wp2
    go_ret2
    refine ⟨some ⟨w1.heap.size, 0, none⟩, 3, 3, rfl, by omega, ?_, B.out.alloc B.out.size _⟩
    have := World.ownsRow_lit (base := w.heap.size) (size := 1) (e := 2) w1 #[Value.int .i64 p, .int .i64 (p + (n : Int)), .int .i64 (n : Int)] 3 B.out.size (by unfold maxLen; omega) rfl
    exact this
  | false =>
    rw [hB, if_neg (by simp)] at hM
    obtain ⟨rfl, rfl⟩ := Prod.mk.inj hM
    clear hM
    go_enter Try.func44, Try.ntmps44
    have B := Lib.hid (below1 w (.cells #[.int .i64 s, .int .i64 p, .slice a n cap] 38))
    go_wp2_with fail
    refine (l03Is_any s p a n cap rs _ (HR.out.alloc _) HY.out hn).mono ?_
    rw [hB]
    rintro e w1 ⟨rfl, hb⟩
    replace B := Lib.hid (below_go B.out hb B.out.size)
    clear hb
    go_wp2
    go_ret2
    exact ⟨none, 0, 0, rfl, by omega, Own.nil _ _, B.out⟩

theorem implLengthsOf_any (s p : Int) (a : Option Addr) (n cap : Nat) (rs : List (List Int)) (w : World) (hr : ReadsA w a n rs) (_hy : BytesA rs) (hn : n ≤ 1048576) (fxs : List Int) (fc : Int) (hM : mLens s p rs = (fxs, fc)) :
    Calls Try.prog 45 #[.agg #[.int .i64 s, .int .i64 p, .slice a n cap]] w (RetInts w fxs fc) := by
  have HL := Lib.hid hr.len
  have HR := Lib.hid hr; clear hr
  unfold mLens at hM
  cases hB : normB s p rs with
  | true =>
    rw [hB, if_pos rfl] at hM
    obtain ⟨rfl, rfl⟩ := Prod.mk.inj hM
    clear hM
    obtain ⟨p1, p2, p3⟩ := norm_small hB
    rw [HL.out] at p3 ⊢
    have hw : IntKind.i64.wrap (p + (n : Int)) = p + (n : Int) := IntWalk.i64_in _ (by omega)
    go_enter Try.func45, Try.ntmps45
    have A := Lib.hid (At3.place w (.int .i64 s) (.int .i64 p) (.slice a n cap) 38 w.heap.size rfl)
    have B := Lib.hid (below1 w (.cells #[.int .i64 s, .int .i64 p, .slice a n cap] 38))
    go_wp2_with fail
    refine (implIsNormal_any s p a n cap rs _ (HR.out.alloc _) hn).mono ?_
    rw [hB]
    rintro e w1 ⟨rfl, hb⟩
    replace A := Lib.hid (A.out.below hb)
    replace B := Lib.hid (below_go B.out hb B.out.size)
    clear hb
    obtain ⟨q1, q2, q3⟩ := A.out.cells
    go_wp2
    go_ret2
    refine ⟨some ⟨w1.heap.size, 0, none⟩, 3, 3, rfl, by omega, ?_, B.out.alloc B.out.size _⟩
    have := World.ownsRow_lit (base := w.heap.size) (size := 1) (e := 2) w1 #[Value.int .i64 p, .int .i64 (p + (n : Int)), .int .i64 (n : Int)] 3 B.out.size (by unfold maxLen; omega) rfl
    exact this
  | false =>
    rw [hB, if_neg (by simp)] at hM
    obtain ⟨rfl, rfl⟩ := Prod.mk.inj hM
    clear hM
    go_enter Try.func45, Try.ntmps45
    have B := Lib.hid (below1 w (.cells #[.int .i64 s, .int .i64 p, .slice a n cap] 38))
    go_wp2_with fail
    refine (implIsNormal_any s p a n cap rs _ (HR.out.alloc _) hn).mono ?_
    rw [hB]
    rintro e w1 ⟨rfl, hb⟩
    replace B := Lib.hid (below_go B.out hb B.out.size)
    clear hb
    go_wp2
    go_ret2
    exact ⟨none, 0, 0, rfl, by omega, Own.nil _ _, B.out⟩

end Go.Proofs.Ytkedkleddpnanaa
