/- The program: is it a normal form? -/
import Derived.Test.YtpkhddndapcpjaaSmIWgh
import Derived.Test.YtpkhddndapcpjaaSmIIs
namespace Go.Proofs.Ytpkhddndapcpjaa
open Go.RowKit Go.ChangeShapes

set_option maxRecDepth 100000 in
set_option maxHeartbeats 1000000 in
theorem isWeighed_any (n : Nat) (a x : List Int) (sa : Sim n a) (sx : Sim n x) (w : World) :
  Calls Try.prog 47 #[arr8 .u8 a, arr8 .u8 x, .int .i64 n] w fun e w' => e = .returned (.bool (weightB n a x)) ∧ Below w.heap.size w w' := by
 have SA := Lib.hid sa
 have SX := Lib.hid sx
 have HE := Lib.hid (weigh_same sa sx)
 have SP := Lib.hid (backR_sim (weighR_sim (backR_sim sa) sx).1)
 have SQ := Lib.hid (weighR_sim (backR_sim sa) sx).2
 clear sa sx
 obtain ⟨p, hp⟩ : ∃ p, p = backR n (weighR n (backR n a) x).1 := ⟨_, rfl⟩
 obtain ⟨q, hq⟩ : ∃ q, q = (weighR n (backR n a) x).2 := ⟨_, rfl⟩
 have HW := Lib.hid (fun W => weigh_any n a x SA.out SX.out W)
 rw [← hp] at HE HW SP
 rw [← hq] at HW SQ
 clear hp hq
 go_enter Try.func47, Try.ntmps47
 have RA := Lib.hid ((Row8.place w .u8 a 53 w.heap.size rfl SA.out.len).alloc (.cells #[.int .u8 (at8 x 0), .int .u8 (at8 x 1), .int .u8 (at8 x 2), .int .u8 (at8 x 3), .int .u8 (at8 x 4), .int .u8 (at8 x 5), .int .u8 (at8 x 6), .int .u8 (at8 x 7)] 53))
 have RX := Lib.hid (Row8.place (w.alloc (.cells #[.int .u8 (at8 a 0), .int .u8 (at8 a 1), .int .u8 (at8 a 2), .int .u8 (at8 a 3), .int .u8 (at8 a 4), .int .u8 (at8 a 5), .int .u8 (at8 a 6), .int .u8 (at8 a 7)] 53)) .u8 x 53 (w.heap.size + 1) (by simp) SX.out.len)
 have BB := Lib.hid (below2 w (.cells #[.int .u8 (at8 a 0), .int .u8 (at8 a 1), .int .u8 (at8 a 2), .int .u8 (at8 a 3), .int .u8 (at8 a 4), .int .u8 (at8 a 5), .int .u8 (at8 a 6), .int .u8 (at8 a 7)] 53) (.cells #[.int .u8 (at8 x 0), .int .u8 (at8 x 1), .int .u8 (at8 x 2), .int .u8 (at8 x 3), .int .u8 (at8 x 4), .int .u8 (at8 x 5), .int .u8 (at8 x 6), .int .u8 (at8 x 7)] 53))
 go_wp2_with fail
 refine (HW.out _).mono ?_
 rintro e w2 ⟨rfl, hb⟩
 replace RA := Lib.hid (RA.out.below hb)
 replace BB := Lib.hid (below_go BB.out hb BB.out.size)
 clear hb RX
 have zb := BB.out.size
 have za := RA.out.lt
 have heq := fun W => equal8 p a SP.out.len SA.out.len W
 obtain ⟨⟨q0, q1, q2, q3⟩, q4, q5, q6, q7⟩ := RA.out.all
 go_wp2
 go_ret
 exact ⟨ret_bool HE.out, (BB.out.alloc zb _).alloc (by simp; omega) _⟩

/-- Are the power and the number of factors within the limits? -/
def limB (p : Int) (n : Nat) : Bool := inB p (-200) 200 && decide (n ≤ 200)

set_option maxRecDepth 100000 in
set_option maxHeartbeats 1000000 in
theorem within_any (s p : Int) (a : Option Addr) (n cap : Nat) (w : World) (hn : n ≤ maxLen) :
  Calls Try.prog 43 #[.agg #[.int .i64 s, .int .i64 p, .slice a n cap]] w fun e w' => e = .returned (.bool (limB p n)) ∧ Below w.heap.size w w' := by
 unfold maxLen at hn
 by_cases g1 : -200 ≤ p
 ·by_cases g2 : p ≤ 200
  ·by_cases g3 : n ≤ 200
   ·have HE : Hid (limB p n = true) := Lib.hid (by unfold limB inB; simp [g1, g2, g3])
    have t3 : decide ((n : Int) ≤ 200) = true := decide_eq_true (by omega)
    go_enter Try.func43, Try.ntmps43
    go_wp2
    go_ret
    exact ⟨ret_bool HE.out.symm, below1 w _⟩
   ·have HE : Hid (limB p n = false) := Lib.hid (by unfold limB inB; simp [g3])
    have t3 : decide ((n : Int) ≤ 200) = false := decide_eq_false (by omega)
    go_enter Try.func43, Try.ntmps43
    go_wp2
    go_ret
    exact ⟨ret_bool HE.out.symm, below1 w _⟩
  ·have HE : Hid (limB p n = false) := Lib.hid (by unfold limB inB; simp [g2])
   go_enter Try.func43, Try.ntmps43
   go_wp2
   go_ret
   exact ⟨ret_bool HE.out.symm, below1 w _⟩
 ·have HE : Hid (limB p n = false) := Lib.hid (by unfold limB inB; simp [g1])
  go_enter Try.func43, Try.ntmps43
  go_wp2
  go_ret
  exact ⟨ret_bool HE.out.symm, below1 w _⟩

theorem normB_head {s p : Int} {rs : List (List Int)} (h : ¬ (1 ≤ s ∧ s ≤ 8 ∧ limB p rs.length = true ∧ (2 ≤ s ∨ p = 0))) : normB s p rs = false := by
 rw [← Bool.not_eq_true, normB_iff]
 rintro ⟨h1, h2, h3, h4, _⟩
 exact h ⟨h1.1, h1.2, by unfold limB; simp [inB_iff, h2, h3], h4⟩

theorem normB_all {s p : Int} {rs : List (List Int)} {m : Nat} (hs : s = m) (h : 1 ≤ s ∧ s ≤ 8 ∧ limB p rs.length = true ∧ (2 ≤ s ∨ p = 0)) (hall : ∀ j, j < rs.length → okFac m rs j = true) : normB s p rs = true := by
 rw [normB_iff]
 obtain ⟨h1, h2, h3, h4⟩ := h
 unfold limB at h3
 simp only [Bool.and_eq_true, inB_iff, decide_eq_true_eq] at h3
 exact ⟨⟨h1, h2⟩, h3.1, h3.2, h4, fun j hj => by rw [hs, Int.toNat_natCast]; exact hall j hj⟩

theorem okFac_no1 {n : Nat} {rs : List (List Int)} {j : Nat} (h : simB n (rowAt rs j) = false) : okFac n rs j = false := by unfold okFac; rw [h, Bool.false_and]
theorem okFac_no2 {n : Nat} {rs : List (List Int)} {j : Nat} (h : rowAt rs j = sameR n) : okFac n rs j = false := by unfold okFac; simp [h]
theorem okFac_no3 {n : Nat} {rs : List (List Int)} {j : Nat} (h : rowAt rs j = halfR n) : okFac n rs j = false := by unfold okFac; simp [h]
theorem okFac_no4 {n : Nat} {rs : List (List Int)} {j : Nat} (h0 : j ≠ 0) (h : weightB n (rowAt rs (j - 1)) (rowAt rs j) = false) : okFac n rs j = false := by unfold okFac; simp [h, h0]
theorem okFac_yes {n : Nat} {rs : List (List Int)} {j : Nat} (h1 : simB n (rowAt rs j) = true) (h2 : rowAt rs j ≠ sameR n) (h3 : rowAt rs j ≠ halfR n) (h4 : j = 0 ∨ weightB n (rowAt rs (j - 1)) (rowAt rs j) = true) : okFac n rs j = true := by
 unfold okFac
 simp only [h1, Bool.true_and, Bool.and_eq_true, Bool.not_eq_true', decide_eq_false_iff_not, Bool.or_eq_true, decide_eq_true_eq]
 exact ⟨h2, h3, h4⟩

end Go.Proofs.Ytpkhddndapcpjaa

