/- EndingLetters: the model's answer, the program's. -/
import Derived.Test.YtinflgcpkeomlaaSIs
import Derived.Test.YtinflgcpkeomlaaIIs
import Derived.Test.YtinflgcpkeomlaaSBack
import Derived.Test.YtinflgcpkeomlaaIRows
import Derived.Test.YtinflgcpkeomlaaSBeg
import Derived.Test.YtinflgcpkeomlaaIBeg
namespace Go.Proofs.Ytinflgcpkeomlaa
open Go.RowKit Go.ChangeShapes

/-- What EndingLetters gives. -/
def mEndingLetters (n : Int) (a : List Int) : List Int × Int := if (simB n a) = true then (begR (backR n.toNat a) (n.toNat - 1), 0) else ([], 1)

set_option maxRecDepth 100000 in
set_option maxHeartbeats 1000000 in
theorem specEndingLetters_no1 (n : Int) (a : List Int) (la : a.length = 8) (ya : Bytes8 a) (HA : Hid (simB n a = false)) (w : World) :
    Calls Try.prog 43 #[arr8 .u8 a, .int .i64 n] w (RetInts w [] 1) := by
  have LA := Lib.hid la
  have YA := Lib.hid ya
  clear ya
  go_enter Try.func43, Try.ntmps43
  have RA := Lib.hid (Row8.place w .u8 a 40 w.heap.size rfl la)
  have BB := Lib.hid (below1 w (.cells #[.int .u8 (at8 a 0), .int .u8 (at8 a 1), .int .u8 (at8 a 2), .int .u8 (at8 a 3), .int .u8 (at8 a 4), .int .u8 (at8 a 5), .int .u8 (at8 a 6), .int .u8 (at8 a 7)] 40))
  clear la
  obtain ⟨⟨qRA0, qRA1, qRA2, qRA3⟩, qRA4, qRA5, qRA6, qRA7⟩ := RA.out.all
  go_wp2_with fail
  refine (l02Is_any _ a LA.out YA.out _).mono ?_
  rw [HA.out]
  rintro e w2 ⟨rfl, hb⟩
  clear qRA0 qRA1 qRA2 qRA3 qRA4 qRA5 qRA6 qRA7
  replace RA := Lib.hid (RA.out.below hb)
  replace BB := Lib.hid (below_go BB.out hb BB.out.size)
  clear hb
  go_wp2
  go_ret2
  exact ⟨none, 0, 0, rfl, by omega, Own.nil _ _, BB.out⟩

set_option maxRecDepth 100000 in
set_option maxHeartbeats 1000000 in
theorem specEndingLetters_yes (n : Nat) (a : List Int) (la : a.length = 8) (ya : Bytes8 a) (sa : Sim n a) (w : World) :
    Calls Try.prog 43 #[arr8 .u8 a, .int .i64 n] w (RetInts w (begR (backR n a) (n - 1)) 0) := by
  have HA := Lib.hid ((simB_iff _ _ la).2 ⟨n, rfl, sa⟩)
  have SA := Lib.hid sa
  have h1 := sa.lo
  have h8 := sa.hi
  clear sa
  have LA := Lib.hid la
  have YA := Lib.hid ya
  clear ya
  go_enter Try.func43, Try.ntmps43
  have RA := Lib.hid (Row8.place w .u8 a 40 w.heap.size rfl la)
  have BB := Lib.hid (below1 w (.cells #[.int .u8 (at8 a 0), .int .u8 (at8 a 1), .int .u8 (at8 a 2), .int .u8 (at8 a 3), .int .u8 (at8 a 4), .int .u8 (at8 a 5), .int .u8 (at8 a 6), .int .u8 (at8 a 7)] 40))
  clear la
  obtain ⟨⟨qRA0, qRA1, qRA2, qRA3⟩, qRA4, qRA5, qRA6, qRA7⟩ := RA.out.all
  go_wp2_with fail
  refine (l02Is_any _ a LA.out YA.out _).mono ?_
  rw [HA.out]
  rintro e w2 ⟨rfl, hb⟩
  clear qRA0 qRA1 qRA2 qRA3 qRA4 qRA5 qRA6 qRA7
  replace RA := Lib.hid (RA.out.below hb)
  replace BB := Lib.hid (below_go BB.out hb BB.out.size)
  clear hb
  obtain ⟨⟨qRA0, qRA1, qRA2, qRA3⟩, qRA4, qRA5, qRA6, qRA7⟩ := RA.out.all
  go_wp2_with fail
  refine (l02Back_any n a SA.out _).mono ?_
  rintro e w4 ⟨rfl, hb⟩
  clear qRA0 qRA1 qRA2 qRA3 qRA4 qRA5 qRA6 qRA7
  replace RA := Lib.hid (RA.out.below hb)
  replace BB := Lib.hid (below_go BB.out hb BB.out.size)
  clear hb
  have zb := BB.out.size
  obtain ⟨⟨qRA0, qRA1, qRA2, qRA3⟩, qRA4, qRA5, qRA6, qRA7⟩ := RA.out.all
  go_wp2_with fail
  refine (l02Begins_any n h1 h8 (backR n a) (mapR_len _ _ h8) _).mono ?_
  rintro e w6 ⟨a1, c1, rfl, ho, hb⟩
  have HO := Lib.hid ho
  clear ho
  clear qRA0 qRA1 qRA2 qRA3 qRA4 qRA5 qRA6 qRA7
  replace RA := Lib.hid (RA.out.below hb)
  replace BB := Lib.hid (below_go BB.out hb BB.out.size)
  clear hb
  go_wp2
  go_ret2
  exact ⟨a1, _, c1, rfl, by have := begR_len (backR n a) (n - 1); omega, HO.out.mono zb, BB.out⟩

theorem specEndingLetters_any (n : Int) (a : List Int) (la : a.length = 8) (ya : Bytes8 a) (r : List Int) (c : Int) (hM : mEndingLetters n a = (r, c)) (w : World) :
    Calls Try.prog 43 #[arr8 .u8 a, .int .i64 n] w (RetInts w r c) := by
    by_cases h : (simB n a) = true
    · simp only [mEndingLetters, if_pos h, Prod.mk.injEq] at hM
      obtain ⟨rfl, rfl⟩ := hM
      obtain ⟨k, hk, hs⟩ := (simB_iff n a la).1 h
      subst hk
      rw [Int.toNat_natCast]
      exact specEndingLetters_yes k a la ya hs w
    · simp only [mEndingLetters, if_neg h, Prod.mk.injEq] at hM
      obtain ⟨rfl, rfl⟩ := hM
      exact specEndingLetters_no1 n a la ya (Lib.hid (by simpa using h)) w

set_option maxRecDepth 100000 in
set_option maxHeartbeats 1000000 in
theorem implEndingLetters_no1 (n : Int) (a : List Int) (la : a.length = 8) (ya : Bytes8 a) (HA : Hid (simB n a = false)) (w : World) :
    Calls Try.prog 44 #[arr8 .u8 a, .int .i64 n] w (RetInts w [] 1) := by
  have LA := Lib.hid la
  have YA := Lib.hid ya
  clear ya
  go_enter Try.func44, Try.ntmps44
  have RA := Lib.hid (Row8.place w .u8 a 40 w.heap.size rfl la)
  have BB := Lib.hid (below1 w (.cells #[.int .u8 (at8 a 0), .int .u8 (at8 a 1), .int .u8 (at8 a 2), .int .u8 (at8 a 3), .int .u8 (at8 a 4), .int .u8 (at8 a 5), .int .u8 (at8 a 6), .int .u8 (at8 a 7)] 40))
  clear la
  obtain ⟨⟨qRA0, qRA1, qRA2, qRA3⟩, qRA4, qRA5, qRA6, qRA7⟩ := RA.out.all
  go_wp2_with fail
  refine (isSimple_any _ a LA.out _).mono ?_
  rw [HA.out]
  rintro e w2 ⟨rfl, hb⟩
  clear qRA0 qRA1 qRA2 qRA3 qRA4 qRA5 qRA6 qRA7
  replace RA := Lib.hid (RA.out.below hb)
  replace BB := Lib.hid (below_go BB.out hb BB.out.size)
  clear hb
  go_wp2
  go_ret2
  exact ⟨none, 0, 0, rfl, by omega, Own.nil _ _, BB.out⟩

set_option maxRecDepth 100000 in
set_option maxHeartbeats 1000000 in
theorem implEndingLetters_yes (n : Nat) (a : List Int) (la : a.length = 8) (ya : Bytes8 a) (sa : Sim n a) (w : World) :
    Calls Try.prog 44 #[arr8 .u8 a, .int .i64 n] w (RetInts w (begR (backR n a) (n - 1)) 0) := by
  have HA := Lib.hid ((simB_iff _ _ la).2 ⟨n, rfl, sa⟩)
  have SA := Lib.hid sa
  have h1 := sa.lo
  have h8 := sa.hi
  clear sa
  have LA := Lib.hid la
  have YA := Lib.hid ya
  clear ya
  go_enter Try.func44, Try.ntmps44
  have RA := Lib.hid (Row8.place w .u8 a 40 w.heap.size rfl la)
  have BB := Lib.hid (below1 w (.cells #[.int .u8 (at8 a 0), .int .u8 (at8 a 1), .int .u8 (at8 a 2), .int .u8 (at8 a 3), .int .u8 (at8 a 4), .int .u8 (at8 a 5), .int .u8 (at8 a 6), .int .u8 (at8 a 7)] 40))
  clear la
  obtain ⟨⟨qRA0, qRA1, qRA2, qRA3⟩, qRA4, qRA5, qRA6, qRA7⟩ := RA.out.all
  go_wp2_with fail
  refine (isSimple_any _ a LA.out _).mono ?_
  rw [HA.out]
  rintro e w2 ⟨rfl, hb⟩
  clear qRA0 qRA1 qRA2 qRA3 qRA4 qRA5 qRA6 qRA7
  replace RA := Lib.hid (RA.out.below hb)
  replace BB := Lib.hid (below_go BB.out hb BB.out.size)
  clear hb
  obtain ⟨⟨qRA0, qRA1, qRA2, qRA3⟩, qRA4, qRA5, qRA6, qRA7⟩ := RA.out.all
  go_wp2_with fail
  refine (back_any n a SA.out _).mono ?_
  rintro e w4 ⟨rfl, hb⟩
  clear qRA0 qRA1 qRA2 qRA3 qRA4 qRA5 qRA6 qRA7
  replace RA := Lib.hid (RA.out.below hb)
  replace BB := Lib.hid (below_go BB.out hb BB.out.size)
  clear hb
  have zb := BB.out.size
  obtain ⟨⟨qRA0, qRA1, qRA2, qRA3⟩, qRA4, qRA5, qRA6, qRA7⟩ := RA.out.all
  go_wp2_with fail
  refine (beginningLetters_any n h1 h8 (backR n a) (mapR_len _ _ h8) _).mono ?_
  rintro e w6 ⟨a1, c1, rfl, ho, hb⟩
  have HO := Lib.hid ho
  clear ho
  clear qRA0 qRA1 qRA2 qRA3 qRA4 qRA5 qRA6 qRA7
  replace RA := Lib.hid (RA.out.below hb)
  replace BB := Lib.hid (below_go BB.out hb BB.out.size)
  clear hb
  go_wp2
  go_ret2
  exact ⟨a1, _, c1, rfl, by have := begR_len (backR n a) (n - 1); omega, HO.out.mono zb, BB.out⟩

theorem implEndingLetters_any (n : Int) (a : List Int) (la : a.length = 8) (ya : Bytes8 a) (r : List Int) (c : Int) (hM : mEndingLetters n a = (r, c)) (w : World) :
    Calls Try.prog 44 #[arr8 .u8 a, .int .i64 n] w (RetInts w r c) := by
    by_cases h : (simB n a) = true
    · simp only [mEndingLetters, if_pos h, Prod.mk.injEq] at hM
      obtain ⟨rfl, rfl⟩ := hM
      obtain ⟨k, hk, hs⟩ := (simB_iff n a la).1 h
      subst hk
      rw [Int.toNat_natCast]
      exact implEndingLetters_yes k a la ya hs w
    · simp only [mEndingLetters, if_neg h, Prod.mk.injEq] at hM
      obtain ⟨rfl, rfl⟩ := hM
      exact implEndingLetters_no1 n a la ya (Lib.hid (by simpa using h)) w

end Go.Proofs.Ytinflgcpkeomlaa
