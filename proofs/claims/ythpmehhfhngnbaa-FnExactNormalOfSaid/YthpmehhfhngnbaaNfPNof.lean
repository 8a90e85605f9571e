/- The normal form of a braid: the program's exported function. -/
import Derived.Test.YthpmehhfhngnbaaNfSNof
import Derived.Test.YthpmehhfhngnbaaNfINof
import Derived.Test.YthpmehhfhngnbaaNfIs2
namespace Go.Proofs.Ythpmehhfhngnbaa
open Go.RowKit Go.ChangeShapes

set_option maxRecDepth 100000 in
set_option maxHeartbeats 800000 in
theorem implNormalOf_any (s : Int) (a : Option Addr) (n cap : Nat) (xs : List Int) (w : World) (hr : Reads w a n xs) (_hf : Fits xs) (hn : n ≤ 1048576) (fs fp : Int) (frs : List (List Int)) (fc : Int) (hM : mOf s xs = (fs, fp, frs, fc)) :
  Calls Try.prog 17 #[.agg #[.int .i64 s, .slice a n cap]] w (RetNCS w fs fp frs fc) := by
 have HL := Lib.hid hr.len
 have HR := Lib.hid hr; clear hr
 unfold mOf at hM
 cases hB : isBraid s xs with
 | true =>
  rw [hB, if_pos rfl] at hM
  obtain ⟨m, rfl⟩ : ∃ m : Nat, s = m := ⟨s.toNat, by have := (isBraid_iff _ _).1 hB; omega⟩
  obtain ⟨m1, m8, hlen, hlet⟩ := letters_of hB
  have HT := Lib.hid hlet; clear hlet
  rw [Int.toNat_natCast] at hM
  rw [HL.out] at hlen
  obtain ⟨e0, kf, hk⟩ : ∃ e0 kf, ofW m xs = (e0, kf) := ⟨_, _, rfl⟩
  rw [hk] at hM
  have HK := Lib.hid hk; clear hk
  simp only [Prod.mk.injEq] at hM
  obtain ⟨rfl, rfl, rfl, rfl⟩ := hM
  have hbd := ofW_len (m := m) xs HK.out
  rw [HL.out] at hbd
  go_enter Try.func17, Try.ntmps17
  have A := Lib.hid ((At2.place w (.int .i64 m) (.slice a n cap) 31 w.heap.size rfl).alloc (.cells #[.int .i64 0, .int .i64 0, .slice none 0 0] 28))
  have Z := Lib.hid (At3.place (w.alloc (.cells #[.int .i64 m, .slice a n cap] 31)) (.int .i64 0) (.int .i64 0) (.slice none 0 0) 28 (w.heap.size + 1) (by simp))
  have B := Lib.hid ((below1 w (.cells #[.int .i64 m, .slice a n cap] 31)).alloc (by simp) (.cells #[.int .i64 0, .int .i64 0, .slice none 0 0] 28))
  go_wp2_with fail
  refine (implIsBraid_any m a n cap xs _ (HR.out.below B.out) hn).mono ?_
  rw [hB]
  rintro e w1 ⟨rfl, hb⟩
  have hz1 : w.heap.size + 1 + 1 ≤ w1.heap.size := by have := hb.size; simp at this; omega
  replace A := Lib.hid (A.out.below hb)
  replace Z := Lib.hid (Z.out.below hb)
  replace B := Lib.hid (below_go B.out hb (by simp; omega))
  clear hb
  obtain ⟨q0, q1, q2, q3, q4⟩ := A.out
  go_wp2_with fail
  refine (normalOf_any m m1 m8 a n cap xs _ (HR.out.below B.out) HT.out (by omega) e0 kf HK.out).mono ?_
  rintro e w2 ⟨a2, n2, c2, rfl, hc2, ho, hb⟩
  have hz2 : w1.heap.size ≤ w2.heap.size := hb.size
  replace Z := Lib.hid (Z.out.below hb)
  replace B := Lib.hid (below_go B.out hb (by omega))
  have O := Lib.hid ho
  have hn2 : n2 ≤ 1048576 := by have := ho.len; omega
  clear ho hb q0 q1 q2 q3 q4
  obtain ⟨x0, ⟨x1, x2, x3⟩, y1, y2, y3⟩ := Z.out
  go_wp2
  try rw [Exit.noGoto_ret]
  obtain ⟨_, ⟨e1, e2, e3⟩, _⟩ := Z.out.fill (.int .i64 m) (.int .i64 e0) (.slice a2 n2 c2)
  exact bodyPost_ret (v := .tuple #[.agg #[.int .i64 m, .int .i64 e0, .slice a2 n2 c2], .int .i64 0]) (by simp [results, Try.results17, go_sem, e1, e2, e3]) rfl ⟨_, _, _, rfl, hn2, ((O.out.set3 (by omega) _ _ _).mono (by omega)), below_set3 B.out (by omega) _ _ _⟩
 | false =>
  rw [hB, if_neg (by simp)] at hM
  simp only [Prod.mk.injEq] at hM
  obtain ⟨rfl, rfl, rfl, rfl⟩ := hM
  go_enter Try.func17, Try.ntmps17
  have Z := Lib.hid (At3.place (w.alloc (.cells #[.int .i64 s, .slice a n cap] 31)) (.int .i64 0) (.int .i64 0) (.slice none 0 0) 28 (w.heap.size + 1) (by simp))
  have B := Lib.hid ((below1 w (.cells #[.int .i64 s, .slice a n cap] 31)).alloc (by simp) (.cells #[.int .i64 0, .int .i64 0, .slice none 0 0] 28))
  go_wp2_with fail
  refine (implIsBraid_any s a n cap xs _ (HR.out.below B.out) hn).mono ?_
  rw [hB]
  rintro e w1 ⟨rfl, hb⟩
  have hz1 : w.heap.size + 1 + 1 ≤ w1.heap.size := by have := hb.size; simp at this; omega
  replace Z := Lib.hid (Z.out.below hb)
  replace B := Lib.hid (below_go B.out hb (by simp; omega))
  clear hb
  obtain ⟨x0, ⟨x1, x2, x3⟩, y1, y2, y3⟩ := Z.out
  go_wp2
  try rw [Exit.noGoto_ret]
  obtain ⟨_, ⟨e1, e2, e3⟩, _⟩ := Z.out.fill (.int .i64 0) (.int .i64 0) (.slice none 0 0)
  exact bodyPost_ret (v := .tuple #[.agg #[.int .i64 0, .int .i64 0, .slice none 0 0], .int .i64 1]) (by simp [results, Try.results17, go_sem, e1, e2, e3]) rfl ⟨none, 0, 0, rfl, by omega, OwnS.nil _ _ _, below_set3 B.out (by omega) _ _ _⟩

end Go.Proofs.Ythpmehhfhngnbaa

