/- LengthOfSimple: the model's answer, the program's. -/
import Derived.Test.YtinflgcpkeomlaaSIs
import Derived.Test.YtinflgcpkeomlaaIIs
import Derived.Test.YtinflgcpkeomlaaSLen
import Derived.Test.YtinflgcpkeomlaaILen
namespace Go.Proofs.Ytinflgcpkeomlaa
open Go.RowKit Go.ChangeShapes

/-- What LengthOfSimple gives. -/
def mLengthOfSimple (n : Int) (a : List Int) : Int × Int := if (simB n a) = true then (lenR a n.toNat, 0) else (0, 1)

set_option maxRecDepth 100000 in
set_option maxHeartbeats 1000000 in
theorem specLengthOfSimple_no1 (n : Int) (a : List Int) (la : a.length = 8) (ya : Bytes8 a) (HA : Hid (simB n a = false)) (w : World) :
    Calls Try.prog 32 #[arr8 .u8 a, .int .i64 n] w (fun e w' => e = .returned (.tuple #[.int .i64 (0), .int .i64 1]) ∧ Below w.heap.size w w') := by
  have LA := Lib.hid la
  have YA := Lib.hid ya
  clear ya
  go_enter Try.func32, Try.ntmps32
  have RA := Lib.hid (Row8.place w .u8 a 40 w.heap.size rfl la)
  have BB := Lib.hid (below1 w (.cells #[.int .u8 (at8 a 0), .int .u8 (at8 a 1), .int .u8 (at8 a 2), .int .u8 (at8 a 3), .int .u8 (at8 a 4), .int .u8 (at8 a 5), .int .u8 (at8 a 6), .int .u8 (at8 a 7)] 40))
  clear la
  obtain ⟨⟨qRA0, qRA1, qRA2, qRA3⟩, qRA4, qRA5, qRA6, qRA7⟩ := RA.out.all
  go_wp2_with fail
  refine (l02Is_any _ a LA.out YA.out _).mono ?_
  rw [HA.out]
  rintro e w2 ⟨rfl, hb⟩
  clear qRA0 qRA1 qRA2 qRA3 qRA4 qRA5 qRA6 qRA7
  replace RA := Lib.hid (RA.out.below hb)
  replace BB := Lib.hid (below_go BB.out hb BB.out.size)
  clear hb
  go_wp2
  go_ret2
  exact ⟨rfl, BB.out⟩

set_option maxRecDepth 100000 in
set_option maxHeartbeats 1000000 in
theorem specLengthOfSimple_yes (n : Nat) (a : List Int) (la : a.length = 8) (ya : Bytes8 a) (sa : Sim n a) (w : World) :
    Calls Try.prog 32 #[arr8 .u8 a, .int .i64 n] w (fun e w' => e = .returned (.tuple #[.int .i64 ((lenR a n)), .int .i64 0]) ∧ Below w.heap.size w w') := by
  have HA := Lib.hid ((simB_iff _ _ la).2 ⟨n, rfl, sa⟩)
  have SA := Lib.hid sa
  have h1 := sa.lo
  have h8 := sa.hi
  clear sa
  have LA := Lib.hid la
  have YA := Lib.hid ya
  clear ya
  go_enter Try.func32, Try.ntmps32
  have RA := Lib.hid (Row8.place w .u8 a 40 w.heap.size rfl la)
  have BB := Lib.hid (below1 w (.cells #[.int .u8 (at8 a 0), .int .u8 (at8 a 1), .int .u8 (at8 a 2), .int .u8 (at8 a 3), .int .u8 (at8 a 4), .int .u8 (at8 a 5), .int .u8 (at8 a 6), .int .u8 (at8 a 7)] 40))
  clear la
  obtain ⟨⟨qRA0, qRA1, qRA2, qRA3⟩, qRA4, qRA5, qRA6, qRA7⟩ := RA.out.all
  go_wp2_with fail
  refine (l02Is_any _ a LA.out YA.out _).mono ?_
  rw [HA.out]
  rintro e w2 ⟨rfl, hb⟩
  clear qRA0 qRA1 qRA2 qRA3 qRA4 qRA5 qRA6 qRA7
  replace RA := Lib.hid (RA.out.below hb)
  replace BB := Lib.hid (below_go BB.out hb BB.out.size)
  clear hb
  obtain ⟨⟨qRA0, qRA1, qRA2, qRA3⟩, qRA4, qRA5, qRA6, qRA7⟩ := RA.out.all
  go_wp2_with fail
  refine (l02Length_any n h8 a LA.out _).mono ?_
  rintro e w4 ⟨rfl, hb⟩
  clear qRA0 qRA1 qRA2 qRA3 qRA4 qRA5 qRA6 qRA7
  replace RA := Lib.hid (RA.out.below hb)
  replace BB := Lib.hid (below_go BB.out hb BB.out.size)
  clear hb
  go_wp2
  go_ret2
  exact ⟨rfl, BB.out⟩

theorem specLengthOfSimple_any (n : Int) (a : List Int) (la : a.length = 8) (ya : Bytes8 a) (r : Int) (c : Int) (hM : mLengthOfSimple n a = (r, c)) (w : World) :
    Calls Try.prog 32 #[arr8 .u8 a, .int .i64 n] w (fun e w' => e = .returned (.tuple #[.int .i64 (r), .int .i64 c]) ∧ Below w.heap.size w w') := by
    by_cases h : (simB n a) = true
    · simp only [mLengthOfSimple, if_pos h, Prod.mk.injEq] at hM
      obtain ⟨rfl, rfl⟩ := hM
      obtain ⟨k, hk, hs⟩ := (simB_iff n a la).1 h
      subst hk
      rw [Int.toNat_natCast]
      exact specLengthOfSimple_yes k a la ya hs w
    · simp only [mLengthOfSimple, if_neg h, Prod.mk.injEq] at hM
      obtain ⟨rfl, rfl⟩ := hM
      exact specLengthOfSimple_no1 n a la ya (Lib.hid (by simpa using h)) w

set_option maxRecDepth 100000 in
set_option maxHeartbeats 1000000 in
theorem implLengthOfSimple_no1 (n : Int) (a : List Int) (la : a.length = 8) (ya : Bytes8 a) (HA : Hid (simB n a = false)) (w : World) :
    Calls Try.prog 33 #[arr8 .u8 a, .int .i64 n] w (fun e w' => e = .returned (.tuple #[.int .i64 (0), .int .i64 1]) ∧ Below w.heap.size w w') := by
  have LA := Lib.hid la
  have YA := Lib.hid ya
  clear ya
  go_enter Try.func33, Try.ntmps33
  have RA := Lib.hid (Row8.place w .u8 a 40 w.heap.size rfl la)
  have BB := Lib.hid (below1 w (.cells #[.int .u8 (at8 a 0), .int .u8 (at8 a 1), .int .u8 (at8 a 2), .int .u8 (at8 a 3), .int .u8 (at8 a 4), .int .u8 (at8 a 5), .int .u8 (at8 a 6), .int .u8 (at8 a 7)] 40))
  clear la
  obtain ⟨⟨qRA0, qRA1, qRA2, qRA3⟩, qRA4, qRA5, qRA6, qRA7⟩ := RA.out.all
  go_wp2_with fail
  refine (isSimple_any _ a LA.out _).mono ?_
  rw [HA.out]
  rintro e w2 ⟨rfl, hb⟩
  clear qRA0 qRA1 qRA2 qRA3 qRA4 qRA5 qRA6 qRA7
  replace RA := Lib.hid (RA.out.below hb)
  replace BB := Lib.hid (below_go BB.out hb BB.out.size)
  clear hb
  go_wp2
  go_ret2
  exact ⟨rfl, BB.out⟩

set_option maxRecDepth 100000 in
set_option maxHeartbeats 1000000 in
theorem implLengthOfSimple_yes (n : Nat) (a : List Int) (la : a.length = 8) (ya : Bytes8 a) (sa : Sim n a) (w : World) :
    Calls Try.prog 33 #[arr8 .u8 a, .int .i64 n] w (fun e w' => e = .returned (.tuple #[.int .i64 ((lenR a n)), .int .i64 0]) ∧ Below w.heap.size w w') := by
  have HA := Lib.hid ((simB_iff _ _ la).2 ⟨n, rfl, sa⟩)
  have SA := Lib.hid sa
  have h1 := sa.lo
  have h8 := sa.hi
  clear sa
  have LA := Lib.hid la
  have YA := Lib.hid ya
  clear ya
  go_enter Try.func33, Try.ntmps33
  have RA := Lib.hid (Row8.place w .u8 a 40 w.heap.size rfl la)
  have BB := Lib.hid (below1 w (.cells #[.int .u8 (at8 a 0), .int .u8 (at8 a 1), .int .u8 (at8 a 2), .int .u8 (at8 a 3), .int .u8 (at8 a 4), .int .u8 (at8 a 5), .int .u8 (at8 a 6), .int .u8 (at8 a 7)] 40))
  clear la
  obtain ⟨⟨qRA0, qRA1, qRA2, qRA3⟩, qRA4, qRA5, qRA6, qRA7⟩ := RA.out.all
  go_wp2_with fail
  refine (isSimple_any _ a LA.out _).mono ?_
  rw [HA.out]
  rintro e w2 ⟨rfl, hb⟩
  clear qRA0 qRA1 qRA2 qRA3 qRA4 qRA5 qRA6 qRA7
  replace RA := Lib.hid (RA.out.below hb)
  replace BB := Lib.hid (below_go BB.out hb BB.out.size)
  clear hb
  obtain ⟨⟨qRA0, qRA1, qRA2, qRA3⟩, qRA4, qRA5, qRA6, qRA7⟩ := RA.out.all
  go_wp2_with fail
  refine (length_any n h8 a LA.out _).mono ?_
  rintro e w4 ⟨rfl, hb⟩
  clear qRA0 qRA1 qRA2 qRA3 qRA4 qRA5 qRA6 qRA7
  replace RA := Lib.hid (RA.out.below hb)
  replace BB := Lib.hid (below_go BB.out hb BB.out.size)
  clear hb
  go_wp2
  go_ret2
  exact ⟨rfl, BB.out⟩

theorem implLengthOfSimple_any (n : Int) (a : List Int) (la : a.length = 8) (ya : Bytes8 a) (r : Int) (c : Int) (hM : mLengthOfSimple n a = (r, c)) (w : World) :
    Calls Try.prog 33 #[arr8 .u8 a, .int .i64 n] w (fun e w' => e = .returned (.tuple #[.int .i64 (r), .int .i64 c]) ∧ Below w.heap.size w w') := by
    by_cases h : (simB n a) = true
    · simp only [mLengthOfSimple, if_pos h, Prod.mk.injEq] at hM
      obtain ⟨rfl, rfl⟩ := hM
      obtain ⟨k, hk, hs⟩ := (simB_iff n a la).1 h
      subst hk
      rw [Int.toNat_natCast]
      exact implLengthOfSimple_yes k a la ya hs w
    · simp only [mLengthOfSimple, if_neg h, Prod.mk.injEq] at hM
      obtain ⟨rfl, rfl⟩ := hM
      exact implLengthOfSimple_no1 n a la ya (Lib.hid (by simpa using h)) w

end Go.Proofs.Ytinflgcpkeomlaa
