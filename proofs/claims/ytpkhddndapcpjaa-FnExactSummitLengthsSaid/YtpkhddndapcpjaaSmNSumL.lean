/- Lengths of summits: the model and the program. -/
import Derived.Test.YtpkhddndapcpjaaSmSSum
namespace Go.Proofs.Ytpkhddndapcpjaa
open Go.RowKit Go.ChangeShapes

/-- The lengths of the summit, or the code. -/
def mSumL (s p : Int) (rs : List (List Int)) : List Int × Int := if normB s p rs = true then ([(summitN s.toNat (stepsN s.toNat) rs.length (p, rs)).1, ((summitN s.toNat (stepsN s.toNat) rs.length (p, rs)).2.length : Int)], 0) else ([], 1)

set_option maxRecDepth 100000 in
set_option maxHeartbeats 1000000 in
theorem specSummitLengths_any (s p : Int) (a : Option Addr) (n cap : Nat) (rs : List (List Int)) (w : World) (hr : ReadsA w a n rs) (hy : BytesA rs) (hn : n ≤ 1048576) (hcap : n ≤ cap) (fxs : List Int) (fc : Int) (hM : mSumL s p rs = (fxs, fc)) :
  Calls Try.prog 13 #[.agg #[.int .i64 s, .int .i64 p, .slice a n cap]] w (RetInts w fxs fc) := by
 have HL := Lib.hid hr.len
 have HR := Lib.hid hr; clear hr
 have HY := Lib.hid hy; clear hy
 have HCP := Lib.hid hcap; clear hcap
 unfold mSumL at hM
 cases hB : normB s p rs with
 | true =>
  rw [hB, if_pos rfl] at hM
  obtain ⟨m, rfl, m1, m8, hnl, hp, hlen⟩ := norm_nl HR.out.rows hB
  have HN := Lib.hid hnl; clear hnl
  rw [Int.toNat_natCast] at hM
  obtain ⟨e0, kf, hk⟩ : ∃ e0 kf, summitN m (stepsN m) rs.length (p, rs) = (e0, kf) := ⟨_, _, rfl⟩
  rw [hk] at hM
  obtain ⟨rfl, rfl⟩ := Prod.mk.inj hM
  clear hM
  have HK2 : Hid (summitN m (stepsN m) n (p, rs) = (e0, kf)) := Lib.hid (by rw [← HL.out]; exact hk)
  clear hk
  rw [HL.out] at hlen
  go_enter Try.func13, Try.ntmps13
  have A := Lib.hid (At3.place w (.int .i64 m) (.int .i64 p) (.slice a n cap) 28 w.heap.size rfl)
  have B := Lib.hid (below1 w (.cells #[.int .i64 m, .int .i64 p, .slice a n cap] 28))
  go_wp2_with fail
  refine (l03Is_any m p a n cap rs _ (HR.out.alloc _) HY.out hn).mono ?_
  rw [hB]
  rintro e w1 ⟨rfl, hb⟩
  replace A := Lib.hid (A.out.below hb)
  replace B := Lib.hid (below_go B.out hb B.out.size)
  clear hb
  obtain ⟨q1, q2, q3⟩ := A.out.cells
  go_wp2_with fail
  refine (l04Summit_any m m1 m8 p (by omega) a n cap HCP.out rs _ (HR.out.below B.out) HN.out (by omega) e0 kf HK2.out).mono ?_
  rintro e w2 ⟨a2, n2, c2, rfl, hc2, ho, gg⟩
  have hn2 : n2 = kf.length := ho.len.symm
  have B2 := Lib.hid ((below_go B.out gg B.out.size).alloc (by have := B.out.size; have := gg.size; omega) (.cells #[.int .i64 m, .int .i64 e0, .slice a2 n2 c2] 28))
  have OB := Lib.hid (At3.place w2 (.int .i64 m) (.int .i64 e0) (.slice a2 n2 c2) 28 w2.heap.size rfl)
  have hs2 : w.heap.size ≤ w2.heap.size + 1 := by have := B.out.size; have := gg.size; omega
  clear gg q1 q2 q3 ho
  have HN2 := Lib.hid hn2
  clear hn2
  obtain ⟨q1, q2, q3⟩ := OB.out.all
  go_wp2
  go_ret2
  rw [← HN2.out]
  refine ⟨some ⟨w2.heap.size + 1, 0, none⟩, 2, 2, rfl, by omega, ?_, B2.out.alloc B2.out.size _⟩
  have := World.ownsRow_lit (base := w.heap.size) (size := 1) (e := 2) (w2.alloc (.cells #[.int .i64 m, .int .i64 e0, .slice a2 n2 c2] 28)) #[Value.int .i64 e0, .int .i64 (n2 : Int)] 2 (by simpa using hs2) (by unfold maxLen; omega) rfl
  rw [World.size_alloc] at this
  exact this
 | false =>
  rw [hB, if_neg (by simp)] at hM
  obtain ⟨rfl, rfl⟩ := Prod.mk.inj hM
  clear hM
  go_enter Try.func13, Try.ntmps13
  have B := Lib.hid (below1 w (.cells #[.int .i64 s, .int .i64 p, .slice a n cap] 28))
  go_wp2_with fail
  refine (l03Is_any s p a n cap rs _ (HR.out.alloc _) HY.out hn).mono ?_
  rw [hB]
  rintro e w1 ⟨rfl, hb⟩
  replace B := Lib.hid (below_go B.out hb B.out.size)
  clear hb
  go_wp2
  go_ret2
  exact ⟨none, 0, 0, rfl, by omega, Own.nil _ _, B.out⟩

set_option maxRecDepth 100000 in
set_option maxHeartbeats 1000000 in
theorem implSummitLengths_any (s p : Int) (a : Option Addr) (n cap : Nat) (rs : List (List Int)) (w : World) (hr : ReadsA w a n rs) (_hy : BytesA rs) (hn : n ≤ 1048576) (_hcap : n ≤ cap) (fxs : List Int) (fc : Int) (hM : mSumL s p rs = (fxs, fc)) :
  Calls Try.prog 14 #[.agg #[.int .i64 s, .int .i64 p, .slice a n cap]] w (RetInts w fxs fc) := by
 have HL := Lib.hid hr.len
 have HR := Lib.hid hr; clear hr
 unfold mSumL at hM
 cases hB : normB s p rs with
 | true =>
  rw [hB, if_pos rfl] at hM
  obtain ⟨m, rfl, m1, m8, hnl, hp, hlen⟩ := norm_nl HR.out.rows hB
  have HN := Lib.hid hnl; clear hnl
  rw [Int.toNat_natCast] at hM
  obtain ⟨e0, kf, hk⟩ : ∃ e0 kf, summitN m (stepsN m) rs.length (p, rs) = (e0, kf) := ⟨_, _, rfl⟩
  rw [hk] at hM
  obtain ⟨rfl, rfl⟩ := Prod.mk.inj hM
  clear hM
  have HK2 : Hid (summitN m (stepsN m) n (p, rs) = (e0, kf)) := Lib.hid (by rw [← HL.out]; exact hk)
  clear hk
  rw [HL.out] at hlen
  go_enter Try.func14, Try.ntmps14
  have A := Lib.hid (At3.place w (.int .i64 m) (.int .i64 p) (.slice a n cap) 28 w.heap.size rfl)
  have B := Lib.hid (below1 w (.cells #[.int .i64 m, .int .i64 p, .slice a n cap] 28))
  go_wp2_with fail
  refine (implIsNormal_any m p a n cap rs _ (HR.out.alloc _) hn).mono ?_
  rw [hB]
  rintro e w1 ⟨rfl, hb⟩
  replace A := Lib.hid (A.out.below hb)
  replace B := Lib.hid (below_go B.out hb B.out.size)
  clear hb
  obtain ⟨q1, q2, q3⟩ := A.out.cells
  go_wp2_with fail
  refine (summit_any m m1 m8 p (by omega) a n cap rs _ (HR.out.below B.out) HN.out (by omega) e0 kf HK2.out).mono ?_
  rintro e w2 ⟨a2, n2, c2, rfl, hc2, ho, gg⟩
  have hn2 : n2 = kf.length := ho.len.symm
  have B2 := Lib.hid ((below_go B.out gg B.out.size).alloc (by have := B.out.size; have := gg.size; omega) (.cells #[.int .i64 m, .int .i64 e0, .slice a2 n2 c2] 28))
  have OB := Lib.hid (At3.place w2 (.int .i64 m) (.int .i64 e0) (.slice a2 n2 c2) 28 w2.heap.size rfl)
  have hs2 : w.heap.size ≤ w2.heap.size + 1 := by have := B.out.size; have := gg.size; omega
  clear gg q1 q2 q3 ho
  have HN2 := Lib.hid hn2
  clear hn2
  obtain ⟨q1, q2, q3⟩ := OB.out.all
  go_wp2
  go_ret2
  rw [← HN2.out]
  refine ⟨some ⟨w2.heap.size + 1, 0, none⟩, 2, 2, rfl, by omega, ?_, B2.out.alloc B2.out.size _⟩
  have := World.ownsRow_lit (base := w.heap.size) (size := 1) (e := 2) (w2.alloc (.cells #[.int .i64 m, .int .i64 e0, .slice a2 n2 c2] 28)) #[Value.int .i64 e0, .int .i64 (n2 : Int)] 2 (by simpa using hs2) (by unfold maxLen; omega) rfl
  rw [World.size_alloc] at this
  exact this
 | false =>
  rw [hB, if_neg (by simp)] at hM
  obtain ⟨rfl, rfl⟩ := Prod.mk.inj hM
  clear hM
  go_enter Try.func14, Try.ntmps14
  have B := Lib.hid (below1 w (.cells #[.int .i64 s, .int .i64 p, .slice a n cap] 28))
  go_wp2_with fail
  refine (implIsNormal_any s p a n cap rs _ (HR.out.alloc _) hn).mono ?_
  rw [hB]
  rintro e w1 ⟨rfl, hb⟩
  replace B := Lib.hid (below_go B.out hb B.out.size)
  clear hb
  go_wp2
  go_ret2
  exact ⟨none, 0, 0, rfl, by omega, Own.nil _ _, B.out⟩

end Go.Proofs.Ytpkhddndapcpjaa

