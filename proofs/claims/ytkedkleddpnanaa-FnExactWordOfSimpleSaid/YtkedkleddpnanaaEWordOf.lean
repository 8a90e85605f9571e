/- WordOfSimple: the model's answer, the program's. -/
import Derived.Test.YtkedkleddpnanaaMapH
import Derived.Test.YtkedkleddpnanaaMapG
import Derived.Test.YtkedkleddpnanaaSIs
import Derived.Test.YtkedkleddpnanaaIIs
namespace Go.Proofs.Ytkedkleddpnanaa
open Go.RowKit Go.ChangeShapes

/-- What WordOfSimple gives. -/
def mWordOfSimple (n : Int) (a : List Int) : List Int × Int := if (simB n a) = true then (takeR n.toNat [a], 0) else ([], 1)

set_option maxRecDepth 100000 in
set_option maxHeartbeats 1000000 in
theorem specWordOfSimple_no1 (n : Int) (a : List Int) (la : a.length = 8) (ya : Bytes8 a) (HA : Hid (simB n a = false)) (w : World) :
    Calls Try.prog 17 #[arr8 .u8 a, .int .i64 n] w (RetInts w [] 1) := by
  have LA := Lib.hid la
  have YA := Lib.hid ya
  clear ya
  go_enter Try.func17, Try.ntmps17
  have RA := Lib.hid (Row8.place w .u8 a 26 w.heap.size rfl la)
  have BB := Lib.hid (below1 w (.cells #[.int .u8 (at8 a 0), .int .u8 (at8 a 1), .int .u8 (at8 a 2), .int .u8 (at8 a 3), .int .u8 (at8 a 4), .int .u8 (at8 a 5), .int .u8 (at8 a 6), .int .u8 (at8 a 7)] 26))
  clear la
  obtain ⟨⟨qRA0, qRA1, qRA2, qRA3⟩, qRA4, qRA5, qRA6, qRA7⟩ := RA.out.all
  go_wp2_with fail
  refine (l02Is_any _ a LA.out YA.out _).mono ?_
  rw [HA.out]
  rintro e w2 ⟨rfl, hb⟩
  clear qRA0 qRA1 qRA2 qRA3 qRA4 qRA5 qRA6 qRA7
  replace RA := Lib.hid (RA.out.below hb)
  replace BB := Lib.hid (below_go BB.out hb BB.out.size)
  clear hb
  go_wp2
  go_ret2
  exact ⟨none, 0, 0, rfl, by omega, Own.nil _ _, BB.out⟩

set_option maxRecDepth 100000 in
set_option maxHeartbeats 1000000 in
theorem specWordOfSimple_yes (n : Nat) (a : List Int) (la : a.length = 8) (ya : Bytes8 a) (sa : Sim n a) (w : World) :
    Calls Try.prog 17 #[arr8 .u8 a, .int .i64 n] w (RetInts w (takeR n [a]) 0) := by
  have HA := Lib.hid ((simB_iff _ _ la).2 ⟨n, rfl, sa⟩)
  have SA := Lib.hid sa
  have h1 := sa.lo
  have h8 := sa.hi
  clear sa
  have LA := Lib.hid la
  have YA := Lib.hid ya
  clear ya
  go_enter Try.func17, Try.ntmps17
  have RA := Lib.hid (Row8.place w .u8 a 26 w.heap.size rfl la)
  have BB := Lib.hid (below1 w (.cells #[.int .u8 (at8 a 0), .int .u8 (at8 a 1), .int .u8 (at8 a 2), .int .u8 (at8 a 3), .int .u8 (at8 a 4), .int .u8 (at8 a 5), .int .u8 (at8 a 6), .int .u8 (at8 a 7)] 26))
  clear la
  obtain ⟨⟨qRA0, qRA1, qRA2, qRA3⟩, qRA4, qRA5, qRA6, qRA7⟩ := RA.out.all
  go_wp2_with fail
  refine (l02Is_any _ a LA.out YA.out _).mono ?_
  rw [HA.out]
  rintro e w2 ⟨rfl, hb⟩
  clear qRA0 qRA1 qRA2 qRA3 qRA4 qRA5 qRA6 qRA7
  replace RA := Lib.hid (RA.out.below hb)
  replace BB := Lib.hid (below_go BB.out hb BB.out.size)
  clear hb
  have zb := BB.out.size
  obtain ⟨⟨qRA0, qRA1, qRA2, qRA3⟩, qRA4, qRA5, qRA6, qRA7⟩ := RA.out.all
  go_wp2_with fail
  refine (l02Word_any n a SA.out _).mono ?_
  rintro e w4 ⟨a1, m1, c1, rfl, hm1, ho, hb⟩
  have HO := Lib.hid ho
  clear ho
  clear qRA0 qRA1 qRA2 qRA3 qRA4 qRA5 qRA6 qRA7
  replace RA := Lib.hid (RA.out.below hb)
  replace BB := Lib.hid (below_go BB.out hb BB.out.size)
  clear hb
  go_wp2
  go_ret2
  exact ⟨a1, _, c1, rfl, by omega, HO.out.mono zb, BB.out⟩

theorem specWordOfSimple_any (n : Int) (a : List Int) (la : a.length = 8) (ya : Bytes8 a) (r : List Int) (c : Int) (hM : mWordOfSimple n a = (r, c)) (w : World) :
    Calls Try.prog 17 #[arr8 .u8 a, .int .i64 n] w (RetInts w r c) := by
    by_cases h : (simB n a) = true
    · simp only [mWordOfSimple, if_pos h, Prod.mk.injEq] at hM
      obtain ⟨rfl, rfl⟩ := hM
      obtain ⟨k, hk, hs⟩ := (simB_iff n a la).1 h
      subst hk
      rw [Int.toNat_natCast]
      exact specWordOfSimple_yes k a la ya hs w
    · simp only [mWordOfSimple, if_neg h, Prod.mk.injEq] at hM
      obtain ⟨rfl, rfl⟩ := hM
      exact specWordOfSimple_no1 n a la ya (Lib.hid (by simpa using h)) w

theorem implWordOfSimple_any (n : Int) (a : List Int) (la : a.length = 8) (ya : Bytes8 a) (r : List Int) (c : Int) (hM : mWordOfSimple n a = (r, c)) (w : World) :
    Calls Try.prog 19 #[arr8 .u8 a, .int .i64 n] w (RetInts w r c) := by
    by_cases h : (simB n a) = true
    · simp only [mWordOfSimple, if_pos h, Prod.mk.injEq] at hM
      obtain ⟨rfl, rfl⟩ := hM
      obtain ⟨k, hk, hs⟩ := (simB_iff n a la).1 h
      subst hk
      rw [Int.toNat_natCast]
      exact implWordOfSimple_yes k a la ya hs w
    · simp only [mWordOfSimple, if_neg h, Prod.mk.injEq] at hM
      obtain ⟨rfl, rfl⟩ := hM
      exact implWordOfSimple_no1 n a la ya (Lib.hid (by simpa using h)) w

end Go.Proofs.Ytkedkleddpnanaa
