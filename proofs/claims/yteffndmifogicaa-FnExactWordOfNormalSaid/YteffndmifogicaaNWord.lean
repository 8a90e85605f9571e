/- Words of normal forms: the model and the program. -/
import Derived.Test.YteffndmifogicaaSNWord
import Derived.Test.YteffndmifogicaaIBrd
import Derived.Test.YteffndmifogicaaMapG
namespace Go.Proofs.Yteffndmifogicaa
open Go.RowKit Go.ChangeShapes

theorem norm_strands {s p : Int} {rs : List (List Int)} (h : normB s p rs = true) : ∃ m : Nat, s = m ∧ 1 ≤ m ∧ m ≤ 8 := by
  have := ((normB_iff s p rs).1 h).1
  exact ⟨s.toNat, by omega, by omega, by omega⟩

theorem mNWord_bad {s p : Int} {rs : List (List Int)} (h : normB s p rs = false) : mNWord s p rs = ([], 1) := by unfold mNWord; rw [h]; rfl
theorem mNWord_long {m : Nat} {p : Int} {rs : List (List Int)} (h : normB m p rs = true) (h2 : 200 < (wordN m p rs).length) : mNWord m p rs = ([], 3) := by
  unfold mNWord; rw [if_pos h, if_neg (by rw [Int.toNat_natCast]; omega)]
theorem mNWord_fits {m : Nat} {p : Int} {rs : List (List Int)} (h : normB m p rs = true) (h2 : (wordN m p rs).length ≤ 200) : mNWord m p rs = (wordN m p rs, 0) := by
  unfold mNWord; rw [if_pos h, if_pos (by rw [Int.toNat_natCast]; omega), Int.toNat_natCast]

set_option maxHeartbeats 1000000 in
theorem specWordOfNormal_any (s p : Int) (a : Option Addr) (n cap : Nat) (rs : List (List Int)) (w : World) (hr : ReadsA w a n rs) (hy : BytesA rs) (hn : n ≤ 1048576) (fxs : List Int) (fc : Int) (hM : mNWord s p rs = (fxs, fc)) :
    Calls Try.prog 19 #[.agg #[.int .i64 s, .int .i64 p, .slice a n cap]] w (RetInts w fxs fc) := by
  have HR := Lib.hid hr; clear hr
  have HY := Lib.hid hy; clear hy
  cases hB : normB s p rs with
  | true =>
    obtain ⟨m, rfl, m1, m8⟩ := norm_strands hB
    have HM := Lib.hid hM; clear hM
    go_enter Try.func19, Try.ntmps19
    have A := Lib.hid (At3.place w (.int .i64 m) (.int .i64 p) (.slice a n cap) 28 w.heap.size rfl)
    have B := Lib.hid (below1 w (.cells #[.int .i64 m, .int .i64 p, .slice a n cap] 28))
    replace HR := Lib.hid (HR.out.alloc (.cells #[.int .i64 m, .int .i64 p, .slice a n cap] 28))
    obtain ⟨q1, q2, q3⟩ := A.out.cells
    go_wp2_with fail
    refine (l03Is_any m p a n cap rs _ HR.out HY.out hn).mono ?_
    rw [hB]
    rintro e w1 ⟨rfl, hb⟩
    clear q1 q2 q3
    replace A := Lib.hid (A.out.below hb)
    replace B := Lib.hid (below_go B.out hb B.out.size)
    replace HR := Lib.hid (HR.out.below hb)
    clear hb
    have HB := Lib.hid hB
    clear hB
    obtain ⟨q1, q2, q3⟩ := A.out.cells
    go_wp2_with fail
    refine (l03Word_any m p a n cap rs _ HR.out HB.out).mono ?_
    rintro e w2 ⟨a2, n2, c2, rfl, hl, ho, hb⟩
    clear q1 q2 q3
    replace A := Lib.hid (A.out.below hb)
    have HO := Lib.hid (ho.mono B.out.size)
    have hlen := ho.len
    replace B := Lib.hid (below_go B.out hb B.out.size)
    clear ho hb
    by_cases h200 : n2 ≤ 200
    · have hM := HM.out
      rw [mNWord_fits HB.out (by omega)] at hM
      obtain ⟨rfl, rfl⟩ := Prod.mk.inj hM
      clear hM HM
      have HLn := Lib.hid hlen; clear hlen
      go_wp2
      go_ret2
      exact ⟨a2, _, c2, rfl, hl, HO.out, B.out⟩
    · have hM := HM.out
      rw [mNWord_long HB.out (by omega)] at hM
      obtain ⟨rfl, rfl⟩ := Prod.mk.inj hM
      clear hM HM
      have HLn := Lib.hid hlen; clear hlen
      go_wp2
      go_ret2
      exact ⟨none, 0, 0, rfl, by omega, Own.nil _ _, B.out⟩
  | false =>
    rw [mNWord_bad hB] at hM
    obtain ⟨rfl, rfl⟩ := Prod.mk.inj hM
    clear hM
    go_enter Try.func19, Try.ntmps19
    have B := Lib.hid (below1 w (.cells #[.int .i64 s, .int .i64 p, .slice a n cap] 28))
    go_wp2_with fail
    refine (l03Is_any s p a n cap rs _ (HR.out.alloc _) HY.out hn).mono ?_
    rw [hB]
    rintro e w1 ⟨rfl, hb⟩
    replace B := Lib.hid (below_go B.out hb B.out.size)
    clear hb
    go_wp2
    go_ret2
    exact ⟨none, 0, 0, rfl, by omega, Own.nil _ _, B.out⟩

end Go.Proofs.Yteffndmifogicaa
