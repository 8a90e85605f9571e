/- Words that are the same braid: the model and the program. -/
import Derived.Test.YteffndmifogicaaNfSNof
import Derived.Test.YteffndmifogicaaNfEqN
namespace Go.Proofs.Yteffndmifogicaa
open Go.RowKit Go.ChangeShapes

/-- Whether two words are the same braid, and the code. -/
def mSame (s : Int) (xs : List Int) (t : Int) (ys : List Int) : Bool × Int :=
 if isBraid s xs = true ∧ isBraid t ys = true then (if s = t then (decide (ofW s.toNat xs = ofW t.toNat ys), 0) else (false, 2)) else (false, 1)

theorem same_parts {m : Nat} {xs ys : List Int} {e1 e2 : Int} {k1 k2 : List (List Int)} {fb : Bool} (h1 : ofW m xs = (e1, k1)) (h2 : ofW m ys = (e2, k2)) (h : decide (ofW m xs = ofW m ys) = fb) : decide ((m : Int) = (m : Int) ∧ e1 = e2 ∧ k1 = k2) = fb := by
 rw [← h, h1, h2, Bool.eq_iff_iff]
 simp [Prod.ext_iff]

set_option maxRecDepth 100000 in
set_option maxHeartbeats 2000000 in
theorem l03Equal_any (m : Nat) (m1 : 1 ≤ m) (m8 : m ≤ 8) (a b : Option Addr) (n k ca cb : Nat) (xs ys : List Int) (w : World) (hr : Reads w a n xs) (hr2 : Reads w b k ys) (hx : Letters m xs) (hy : Letters m ys) (hn : n ≤ 200) (hk : k ≤ 200) (fb : Bool) (hM : decide (ofW m xs = ofW m ys) = fb) :
  Calls Try.prog 43 #[.int .i64 m, .slice a n ca, .slice b k cb] w fun e w' => e = .returned (.bool fb) ∧ Below w.heap.size w w' := by
 obtain ⟨e1, k1, h1⟩ : ∃ e1 k1, ofW m xs = (e1, k1) := ⟨_, _, rfl⟩
 obtain ⟨e2, k2, h2⟩ : ∃ e2 k2, ofW m ys = (e2, k2) := ⟨_, _, rfl⟩
 have HE := Lib.hid (same_parts h1 h2 hM)
 have hb1 := ofW_len xs h1
 rw [hr.len] at hb1
 have H1 := Lib.hid h1
 have H2 := Lib.hid h2
 clear h1 h2 hM
 have HR := Lib.hid hr
 have HR2 := Lib.hid hr2
 have HX := Lib.hid hx
 have HY := Lib.hid hy
 clear hr hr2 hx hy
 go_enter Try.func43, Try.ntmps43
 go_wp2_with fail
 refine (l03Of_any m m1 m8 a n ca xs _ HR.out HX.out (by omega) e1 k1 H1.out).mono ?_
 rintro e w1 ⟨a1, n1, c1, rfl, hc1, ho, hb⟩
 have B := Lib.hid hb
 have O1 := Lib.hid ho
 clear ho hb
 go_wp2_with fail
 refine (l03Of_any m m1 m8 b k cb ys _ (HR2.out.below B.out) HY.out (by omega) e2 k2 H2.out).mono ?_
 rintro e w2 ⟨a2, n2, c2, rfl, hc2, ho, hb⟩
 replace O1 := Lib.hid (O1.out.below hb)
 replace B := Lib.hid (below_go B.out hb B.out.size)
 have O2 := Lib.hid ho
 have hn1 : n1 ≤ 100000 := by have := O1.out.len; omega
 clear ho hb
 go_wp2_with fail
 refine (l03Like_any m e1 m e2 a1 a2 n1 n2 c1 c2 k1 k2 _ O1.out.reads O2.out.reads hn1 fb (by simpa using HE.out)).mono ?_
 rintro e w3 ⟨rfl, hb⟩
 replace B := Lib.hid (below_go B.out hb B.out.size)
 go_wp2
 go_ret
 exact ⟨rfl, B.out⟩

set_option maxRecDepth 100000 in
set_option maxHeartbeats 4000000 in
theorem specSameBraid_any (s : Int) (a : Option Addr) (n ca : Nat) (xs : List Int) (t : Int) (b : Option Addr) (k cb : Nat) (ys : List Int) (w : World) (hr : Reads w a n xs) (hf : Fits xs) (hn : n ≤ 1048576) (hr2 : Reads w b k ys) (hf2 : Fits ys) (hk : k ≤ 1048576) (fb : Bool) (fc : Int) (hM : mSame s xs t ys = (fb, fc)) :
  Calls Try.prog 15 #[.agg #[.int .i64 s, .slice a n ca], .agg #[.int .i64 t, .slice b k cb]] w fun e w' => e = .returned (.tuple #[.bool fb, .int .i64 fc]) ∧ Below w.heap.size w w' := by
 have HL := Lib.hid hr.len
 have HL2 := Lib.hid hr2.len
 have HR := Lib.hid hr
 have HR2 := Lib.hid hr2
 have HF := Lib.hid hf
 have HF2 := Lib.hid hf2
 clear hr hr2 hf hf2
 unfold mSame at hM
 cases hB : isBraid s xs with
 | false =>
  rw [hB, if_neg (by simp)] at hM
  simp only [Prod.mk.injEq] at hM
  obtain ⟨rfl, rfl⟩ := hM
  go_enter Try.func15, Try.ntmps15
  have A := Lib.hid ((At2.place w (.int .i64 s) (.slice a n ca) 41 w.heap.size rfl).alloc (.cells #[.int .i64 t, .slice b k cb] 41))
  have A2 := Lib.hid (At2.place (w.alloc (.cells #[.int .i64 s, .slice a n ca] 41)) (.int .i64 t) (.slice b k cb) 41 (w.heap.size + 1) (by simp))
  have B := Lib.hid (below2 w (.cells #[.int .i64 s, .slice a n ca] 41) (.cells #[.int .i64 t, .slice b k cb] 41))
  obtain ⟨q0, q1, q2, q3, q4⟩ := A.out
  obtain ⟨r0, r1, r2, r3, r4⟩ := A2.out
  go_wp2_with fail
  refine (l01Is_any s a n ca xs _ (HR.out.below B.out) HF.out hn).mono ?_
  rw [hB]
  rintro e v1 ⟨rfl, hb⟩
  replace A := Lib.hid (A.out.below hb)
  replace A2 := Lib.hid (A2.out.below hb)
  replace B := Lib.hid (below_go B.out hb B.out.size)
  clear hb
  go_wp2
  go_ret2
  exact ⟨rfl, B.out⟩
 | true =>
  cases hB2 : isBraid t ys with
  | false =>
   rw [hB, hB2, if_neg (by simp)] at hM
   simp only [Prod.mk.injEq] at hM
   obtain ⟨rfl, rfl⟩ := hM
   go_enter Try.func15, Try.ntmps15
   have A := Lib.hid ((At2.place w (.int .i64 s) (.slice a n ca) 41 w.heap.size rfl).alloc (.cells #[.int .i64 t, .slice b k cb] 41))
   have A2 := Lib.hid (At2.place (w.alloc (.cells #[.int .i64 s, .slice a n ca] 41)) (.int .i64 t) (.slice b k cb) 41 (w.heap.size + 1) (by simp))
   have B := Lib.hid (below2 w (.cells #[.int .i64 s, .slice a n ca] 41) (.cells #[.int .i64 t, .slice b k cb] 41))
   obtain ⟨q0, q1, q2, q3, q4⟩ := A.out
   obtain ⟨r0, r1, r2, r3, r4⟩ := A2.out
   go_wp2_with fail
   refine (l01Is_any s a n ca xs _ (HR.out.below B.out) HF.out hn).mono ?_
   rw [hB]
   rintro e v1 ⟨rfl, hb⟩
   replace A := Lib.hid (A.out.below hb)
   replace A2 := Lib.hid (A2.out.below hb)
   replace B := Lib.hid (below_go B.out hb B.out.size)
   clear hb
   clear q0 q1 q2 q3 q4 r0 r1 r2 r3 r4
   obtain ⟨q0, q1, q2, q3, q4⟩ := A.out
   obtain ⟨r0, r1, r2, r3, r4⟩ := A2.out
   go_wp2_with fail
   refine (l01Is_any t b k cb ys _ (HR2.out.below B.out) HF2.out hk).mono ?_
   rw [hB2]
   rintro e v2 ⟨rfl, hb⟩
   replace A := Lib.hid (A.out.below hb)
   replace A2 := Lib.hid (A2.out.below hb)
   replace B := Lib.hid (below_go B.out hb B.out.size)
   clear hb
   go_wp2
   go_ret2
   exact ⟨rfl, B.out⟩
  | true =>
   rw [hB, hB2, if_pos ⟨rfl, rfl⟩] at hM
   by_cases hst : s = t
   ·subst hst
    rw [if_pos rfl] at hM
    obtain ⟨m, rfl⟩ : ∃ m : Nat, s = m := ⟨s.toNat, by have := (isBraid_iff _ _).1 hB; omega⟩
    obtain ⟨m1, m8, hlen, hlet⟩ := letters_of hB
    obtain ⟨_, _, hlen2, hlet2⟩ := letters_of hB2
    have HT := Lib.hid hlet
    have HT2 := Lib.hid hlet2
    rw [HL.out] at hlen
    rw [HL2.out] at hlen2
    rw [Int.toNat_natCast] at hM
    simp only [Prod.mk.injEq] at hM
    obtain ⟨hM, rfl⟩ := hM
    have HM := Lib.hid hM
    clear hM hlet hlet2
    have t1 : ((m : Int) != (m : Int)) = false := by simp
    go_enter Try.func15, Try.ntmps15
    have A := Lib.hid ((At2.place w (.int .i64 m) (.slice a n ca) 41 w.heap.size rfl).alloc (.cells #[.int .i64 m, .slice b k cb] 41))
    have A2 := Lib.hid (At2.place (w.alloc (.cells #[.int .i64 m, .slice a n ca] 41)) (.int .i64 m) (.slice b k cb) 41 (w.heap.size + 1) (by simp))
    have B := Lib.hid (below2 w (.cells #[.int .i64 m, .slice a n ca] 41) (.cells #[.int .i64 m, .slice b k cb] 41))
    obtain ⟨q0, q1, q2, q3, q4⟩ := A.out
    obtain ⟨r0, r1, r2, r3, r4⟩ := A2.out
    go_wp2_with fail
    refine (l01Is_any m a n ca xs _ (HR.out.below B.out) HF.out hn).mono ?_
    rw [hB]
    rintro e v1 ⟨rfl, hb⟩
    replace A := Lib.hid (A.out.below hb)
    replace A2 := Lib.hid (A2.out.below hb)
    replace B := Lib.hid (below_go B.out hb B.out.size)
    clear hb
    clear q0 q1 q2 q3 q4 r0 r1 r2 r3 r4
    obtain ⟨q0, q1, q2, q3, q4⟩ := A.out
    obtain ⟨r0, r1, r2, r3, r4⟩ := A2.out
    go_wp2_with fail
    refine (l01Is_any m b k cb ys _ (HR2.out.below B.out) HF2.out hk).mono ?_
    rw [hB2]
    rintro e v2 ⟨rfl, hb⟩
    replace A := Lib.hid (A.out.below hb)
    replace A2 := Lib.hid (A2.out.below hb)
    replace B := Lib.hid (below_go B.out hb B.out.size)
    clear hb
    clear q0 q1 q2 q3 q4 r0 r1 r2 r3 r4
    obtain ⟨q0, q1, q2, q3, q4⟩ := A.out
    obtain ⟨r0, r1, r2, r3, r4⟩ := A2.out
    go_wp2_with (go_at_call 43; refine (l03Equal_any m m1 m8 a b n k ca cb xs ys _ (HR.out.below B.out) (HR2.out.below B.out) HT.out HT2.out hlen hlen2 fb HM.out).mono ?_; rintro e w3 ⟨rfl, hb⟩; replace B := Lib.hid (below_go B.out hb B.out.size))
    go_ret2
    exact ⟨rfl, B.out⟩
   ·rw [if_neg hst] at hM
    simp only [Prod.mk.injEq] at hM
    obtain ⟨rfl, rfl⟩ := hM
    have t1 : (s != t) = true := by simp [hst]
    clear hst
    go_enter Try.func15, Try.ntmps15
    have A := Lib.hid ((At2.place w (.int .i64 s) (.slice a n ca) 41 w.heap.size rfl).alloc (.cells #[.int .i64 t, .slice b k cb] 41))
    have A2 := Lib.hid (At2.place (w.alloc (.cells #[.int .i64 s, .slice a n ca] 41)) (.int .i64 t) (.slice b k cb) 41 (w.heap.size + 1) (by simp))
    have B := Lib.hid (below2 w (.cells #[.int .i64 s, .slice a n ca] 41) (.cells #[.int .i64 t, .slice b k cb] 41))
    obtain ⟨q0, q1, q2, q3, q4⟩ := A.out
    obtain ⟨r0, r1, r2, r3, r4⟩ := A2.out
    go_wp2_with fail
    refine (l01Is_any s a n ca xs _ (HR.out.below B.out) HF.out hn).mono ?_
    rw [hB]
    rintro e v1 ⟨rfl, hb⟩
    replace A := Lib.hid (A.out.below hb)
    replace A2 := Lib.hid (A2.out.below hb)
    replace B := Lib.hid (below_go B.out hb B.out.size)
    clear hb
    clear q0 q1 q2 q3 q4 r0 r1 r2 r3 r4
    obtain ⟨q0, q1, q2, q3, q4⟩ := A.out
    obtain ⟨r0, r1, r2, r3, r4⟩ := A2.out
    go_wp2_with fail
    refine (l01Is_any t b k cb ys _ (HR2.out.below B.out) HF2.out hk).mono ?_
    rw [hB2]
    rintro e v2 ⟨rfl, hb⟩
    replace A := Lib.hid (A.out.below hb)
    replace A2 := Lib.hid (A2.out.below hb)
    replace B := Lib.hid (below_go B.out hb B.out.size)
    clear hb
    clear q0 q1 q2 q3 q4 r0 r1 r2 r3 r4
    obtain ⟨q0, q1, q2, q3, q4⟩ := A.out
    obtain ⟨r0, r1, r2, r3, r4⟩ := A2.out
    go_wp2
    go_ret2
    exact ⟨rfl, B.out⟩

end Go.Proofs.Yteffndmifogicaa

