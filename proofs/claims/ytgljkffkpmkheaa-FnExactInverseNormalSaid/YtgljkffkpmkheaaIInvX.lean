/- Inverses of normal forms: the program. -/
import Derived.Test.YtgljkffkpmkheaaIInv
import Derived.Test.YtgljkffkpmkheaaIFit
import Derived.Test.YtgljkffkpmkheaaSInvX
namespace Go.Proofs.Ytgljkffkpmkheaa
open Go.RowKit Go.ChangeShapes

set_option maxRecDepth 100000 in
set_option maxHeartbeats 2000000 in
theorem implInverseNormal_any (s p : Int) (a : Option Addr) (n cap : Nat) (rs : List (List Int)) (w : World) (hr : ReadsA w a n rs) (_hy : BytesA rs) (hn : n ≤ 1048576) (fs fp : Int) (frs : List (List Int)) (fc : Int) (hM : mInvN s p rs = (fs, fp, frs, fc)) :
    Calls Try.prog 36 #[.agg #[.int .i64 s, .int .i64 p, .slice a n cap]] w (RetNC w fs fp frs fc) := by
  have HL := Lib.hid hr.len
  have HR := Lib.hid hr; clear hr
  unfold mInvN at hM
  cases hB : normB s p rs with
  | true =>
    rw [hB, if_pos rfl] at hM
    obtain ⟨m, rfl, m1, m8, hnl, hp, hlen⟩ := norm_nl HR.out.rows hB
    rw [Int.toNat_natCast] at hM
    have HN := Lib.hid hnl; clear hnl
    rw [HL.out] at hlen
    have HM := Lib.hid hM; clear hM
    go_enter Try.func36, Try.ntmps36
    have A := Lib.hid ((At3.place w (.int .i64 m) (.int .i64 p) (.slice a n cap) 28 w.heap.size rfl).alloc (.cells #[.int .i64 0, .int .i64 0, .slice none 0 0] 28))
    have Z := Lib.hid (At3.place (w.alloc (.cells #[.int .i64 m, .int .i64 p, .slice a n cap] 28)) (.int .i64 0) (.int .i64 0) (.slice none 0 0) 28 (w.heap.size + 1) (by simp))
    have B := Lib.hid ((below1 w (.cells #[.int .i64 m, .int .i64 p, .slice a n cap] 28)).alloc (by simp) (.cells #[.int .i64 0, .int .i64 0, .slice none 0 0] 28))
    go_wp2_with fail
    refine (implIsNormal_any m p a n cap rs _ ((HR.out.alloc _).alloc _) hn).mono ?_
    rw [hB]
    rintro e w1 ⟨rfl, hb⟩
    have hz1 : w.heap.size + 1 + 1 ≤ w1.heap.size := by have := hb.size; simp at this; omega
    replace A := Lib.hid (A.out.below hb)
    replace Z := Lib.hid (Z.out.below hb)
    replace B := Lib.hid (below_go B.out hb (by simp; omega))
    have RD := Lib.hid (HR.out.below B.out)
    clear hb
    obtain ⟨q1, q2, q3⟩ := A.out.all
    go_wp2_with fail
    rw [HL.out] at HM
    refine (inverse_any m p (by omega) a n cap rs _ RD.out HN.out.sims (by omega)).mono ?_
    rintro e w2 ⟨a2, n2, c2, rfl, ho, hb⟩
    have hz2 : w1.heap.size ≤ w2.heap.size := hb.size
    have O := Lib.hid ho
    have ON := Lib.hid ho.len
    replace Z := Lib.hid (Z.out.below hb)
    replace B := Lib.hid (below_go B.out hb (by omega))
    clear hb ho q1 q2 q3 A
    by_cases hfit : -200 ≤ -(n : Int) - p ∧ -(n : Int) - p ≤ 200 ∧ n2 ≤ 200
    · have hM2 := HM.out
      unfold fitN at hM2
      rw [if_pos (by rw [ON.out]; exact hfit)] at hM2
      simp only [Prod.mk.injEq] at hM2
      obtain ⟨rfl, rfl, rfl, rfl⟩ := hM2
      go_wp2_with fail
      refine (limited_yes m (-(n : Int) - p) a2 n2 c2 _ hfit).mono ?_
      rintro e w3 ⟨rfl, hb⟩
      have hz3 : w2.heap.size ≤ w3.heap.size := hb.size
      replace O := Lib.hid (O.out.below hb)
      replace Z := Lib.hid (Z.out.below hb)
      replace B := Lib.hid (below_go B.out hb (by omega))
      clear hb
      obtain ⟨x0, ⟨x1, x2, x3⟩, y1, y2, y3⟩ := Z.out
      go_wp2
      try rw [Exit.noGoto_ret]
      obtain ⟨_, ⟨e1, e2, e3⟩, _⟩ := ((Z.out.fill (.int .i64 (m)) (.int .i64 (-(n : Int) - p)) (.slice a2 n2 c2)))
      exact bodyPost_ret (v := .tuple #[.agg #[.int .i64 (m), .int .i64 (-(n : Int) - p), .slice a2 n2 c2], .int .i64 0]) (by simp [results, Try.results36, go_sem, e1, e2, e3]) rfl ⟨_, _, _, rfl, by omega, ((((O.out).set3 (by omega) _ _ _)).mono (by omega)), (below_set3 B.out (by omega) _ _ _)⟩
    · have hM2 := HM.out
      unfold fitN at hM2
      rw [if_neg (by rw [ON.out]; exact hfit)] at hM2
      simp only [Prod.mk.injEq] at hM2
      obtain ⟨rfl, rfl, rfl, rfl⟩ := hM2
      go_wp2_with fail
      refine (limited_no m (-(n : Int) - p) a2 n2 c2 _ hfit).mono ?_
      rintro e w3 ⟨rfl, hb⟩
      have hz3 : w2.heap.size ≤ w3.heap.size := hb.size
      replace O := Lib.hid (O.out.below hb)
      replace Z := Lib.hid (Z.out.below hb)
      replace B := Lib.hid (below_go B.out hb (by omega))
      clear hb
      obtain ⟨x0, ⟨x1, x2, x3⟩, y1, y2, y3⟩ := Z.out
      go_wp2
      try rw [Exit.noGoto_ret]
      obtain ⟨_, ⟨e1, e2, e3⟩, _⟩ := ((Z.out.fill (.int .i64 (0)) (.int .i64 (0)) (.slice none 0 0)))
      exact bodyPost_ret (v := .tuple #[.agg #[.int .i64 (0), .int .i64 (0), .slice none 0 0], .int .i64 3]) (by simp [results, Try.results36, go_sem, e1, e2, e3]) rfl ⟨_, _, _, rfl, by omega, (OwnA.nil _ _), (below_set3 B.out (by omega) _ _ _)⟩
  | false =>
    rw [hB, if_neg (by simp)] at hM
    simp only [Prod.mk.injEq] at hM
    obtain ⟨rfl, rfl, rfl, rfl⟩ := hM
    go_enter Try.func36, Try.ntmps36
    have Z := Lib.hid (At3.place (w.alloc (.cells #[.int .i64 s, .int .i64 p, .slice a n cap] 28)) (.int .i64 0) (.int .i64 0) (.slice none 0 0) 28 (w.heap.size + 1) (by simp))
    have B := Lib.hid ((below1 w (.cells #[.int .i64 s, .int .i64 p, .slice a n cap] 28)).alloc (by simp) (.cells #[.int .i64 0, .int .i64 0, .slice none 0 0] 28))
    go_wp2_with fail
    refine (implIsNormal_any s p a n cap rs _ ((HR.out.alloc _).alloc _) hn).mono ?_
    rw [hB]
    rintro e w1 ⟨rfl, hb⟩
    have hz1 : w.heap.size + 1 + 1 ≤ w1.heap.size := by have := hb.size; simp at this; omega
    replace Z := Lib.hid (Z.out.below hb)
    replace B := Lib.hid (below_go B.out hb (by simp; omega))
    clear hb
    obtain ⟨x0, ⟨x1, x2, x3⟩, y1, y2, y3⟩ := Z.out
    go_wp2
    try rw [Exit.noGoto_ret]
    obtain ⟨_, ⟨e1, e2, e3⟩, _⟩ := Z.out.fill (.int .i64 0) (.int .i64 0) (.slice none 0 0)
    exact bodyPost_ret (v := .tuple #[.agg #[.int .i64 0, .int .i64 0, .slice none 0 0], .int .i64 1]) (by simp [results, Try.results36, go_sem, e1, e2, e3]) rfl ⟨none, 0, 0, rfl, by omega, OwnA.nil _ _, below_set3 B.out (by omega) _ _ _⟩

end Go.Proofs.Ytgljkffkpmkheaa
