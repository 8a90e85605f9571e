/- RankOf: the model's answer, the program's. -/
import Derived.Test.YthelncibpoijoaaPSIs
import Derived.Test.YthelncibpoijoaaPIIs
import Derived.Test.YthelncibpoijoaaPSBlk
namespace Go.Proofs.Ythelncibpoijoaa
open Go.RowKit Go.ChangeShapes

/-- What RankOf gives. -/
noncomputable def mRankOf (n : Int) (a : List Int) : Int × Int := if isPt n a = true then (rankP n.toNat a, 0) else (0, 1)

set_option maxRecDepth 100000 in
set_option maxHeartbeats 1000000 in
theorem specRankOf_no1 (n : Int) (a : List Int) (la : a.length = 8) (ya : Bytes8 a) (HA : Hid (isPt n a = false)) (w : World) :
    Calls Try.prog 16 #[arr8 .u8 a, .int .i64 n] w (fun e w' => e = .returned (.tuple #[.int .i64 (0), .int .i64 1]) ∧ Below w.heap.size w w') := by
  have LA := Lib.hid la
  have YA := Lib.hid ya
  clear ya
  go_enter Try.func16, Try.ntmps16
  have RA := Lib.hid (Row8.place w .u8 a 24 w.heap.size rfl la)
  have BB := Lib.hid (below1 w (.cells #[.int .u8 (at8 a 0), .int .u8 (at8 a 1), .int .u8 (at8 a 2), .int .u8 (at8 a 3), .int .u8 (at8 a 4), .int .u8 (at8 a 5), .int .u8 (at8 a 6), .int .u8 (at8 a 7)] 24))
  clear la
  obtain ⟨⟨qRA0, qRA1, qRA2, qRA3⟩, qRA4, qRA5, qRA6, qRA7⟩ := RA.out.all
  go_wp2_with fail
  refine (l07Is_any n a LA.out YA.out _).mono ?_
  rw [HA.out]
  rintro e w2 ⟨rfl, hb⟩
  clear qRA0 qRA1 qRA2 qRA3 qRA4 qRA5 qRA6 qRA7
  replace RA := Lib.hid (RA.out.below hb)
  replace BB := Lib.hid (below_go BB.out hb BB.out.size)
  clear hb
  go_wp2
  go_ret2
  exact ⟨rfl, BB.out⟩

set_option maxRecDepth 100000 in
set_option maxHeartbeats 1000000 in
theorem specRankOf_yes (n : Nat) (a : List Int) (la : a.length = 8) (ya : Bytes8 a) (HA : Hid (isPt n a = true)) (sa : Sim n a) (w : World) :
    Calls Try.prog 16 #[arr8 .u8 a, .int .i64 n] w (fun e w' => e = .returned (.tuple #[.int .i64 (rankP n a), .int .i64 0]) ∧ Below w.heap.size w w') := by
  have h1 := sa.lo
  have h8 := sa.hi
  have SA := Lib.hid sa
  clear sa
  have LA := Lib.hid la
  have YA := Lib.hid ya
  clear ya
  go_enter Try.func16, Try.ntmps16
  have RA := Lib.hid (Row8.place w .u8 a 24 w.heap.size rfl la)
  have BB := Lib.hid (below1 w (.cells #[.int .u8 (at8 a 0), .int .u8 (at8 a 1), .int .u8 (at8 a 2), .int .u8 (at8 a 3), .int .u8 (at8 a 4), .int .u8 (at8 a 5), .int .u8 (at8 a 6), .int .u8 (at8 a 7)] 24))
  clear la
  obtain ⟨⟨qRA0, qRA1, qRA2, qRA3⟩, qRA4, qRA5, qRA6, qRA7⟩ := RA.out.all
  go_wp2_with fail
  refine (l07Is_any _ a LA.out YA.out _).mono ?_
  rw [HA.out]
  rintro e w2 ⟨rfl, hb⟩
  clear qRA0 qRA1 qRA2 qRA3 qRA4 qRA5 qRA6 qRA7
  replace RA := Lib.hid (RA.out.below hb)
  replace BB := Lib.hid (below_go BB.out hb BB.out.size)
  clear hb
  obtain ⟨⟨qRA0, qRA1, qRA2, qRA3⟩, qRA4, qRA5, qRA6, qRA7⟩ := RA.out.all
  go_wp2_with fail
  refine (l07Blocks_any n a SA.out _).mono ?_
  rintro e w9 ⟨ad, cap, rs, rfl, hrs, _, hb⟩
  clear qRA0 qRA1 qRA2 qRA3 qRA4 qRA5 qRA6 qRA7
  have BB2 := Lib.hid (below_go BB.out hb BB.out.size)
  have hlen : (cycL n a n).length = rs.length := by rw [← blkS_len, ← hrs, List.length_map]
  have hle := cycL_len n a n
  have HR : Hid (rankP n a = (n : Int) - rs.length) := Lib.hid (by unfold rankP; rw [hlen])
  rw [hlen] at hle
  clear hb hrs hlen
  have hw : IntKind.i64.wrap ((n : Int) - rs.length) = (n : Int) - rs.length := IntWalk.i64_in _ (by omega)
  go_wp2
  go_ret2
  exact ⟨by rw [HR.out]; rfl, BB2.out⟩

set_option maxRecDepth 100000 in
set_option maxHeartbeats 1000000 in
theorem implRankOf_no1 (n : Int) (a : List Int) (la : a.length = 8) (ya : Bytes8 a) (HA : Hid (isPt n a = false)) (w : World) :
    Calls Try.prog 17 #[arr8 .u8 a, .int .i64 n] w (fun e w' => e = .returned (.tuple #[.int .i64 (0), .int .i64 1]) ∧ Below w.heap.size w w') := by
  have LA := Lib.hid la
  have YA := Lib.hid ya
  clear ya
  go_enter Try.func17, Try.ntmps17
  have RA := Lib.hid (Row8.place w .u8 a 24 w.heap.size rfl la)
  have BB := Lib.hid (below1 w (.cells #[.int .u8 (at8 a 0), .int .u8 (at8 a 1), .int .u8 (at8 a 2), .int .u8 (at8 a 3), .int .u8 (at8 a 4), .int .u8 (at8 a 5), .int .u8 (at8 a 6), .int .u8 (at8 a 7)] 24))
  clear la
  obtain ⟨⟨qRA0, qRA1, qRA2, qRA3⟩, qRA4, qRA5, qRA6, qRA7⟩ := RA.out.all
  go_wp2_with fail
  refine (implIsPart_any n a LA.out _).mono ?_
  rw [HA.out]
  rintro e w2 ⟨rfl, hb⟩
  clear qRA0 qRA1 qRA2 qRA3 qRA4 qRA5 qRA6 qRA7
  replace RA := Lib.hid (RA.out.below hb)
  replace BB := Lib.hid (below_go BB.out hb BB.out.size)
  clear hb
  go_wp2
  go_ret2
  exact ⟨rfl, BB.out⟩

set_option maxRecDepth 100000 in
set_option maxHeartbeats 1000000 in
theorem implRankOf_yes (n : Nat) (a : List Int) (la : a.length = 8) (ya : Bytes8 a) (HA : Hid (isPt n a = true)) (sa : Sim n a) (w : World) :
    Calls Try.prog 17 #[arr8 .u8 a, .int .i64 n] w (fun e w' => e = .returned (.tuple #[.int .i64 (rankP n a), .int .i64 0]) ∧ Below w.heap.size w w') := by
  have h1 := sa.lo
  have h8 := sa.hi
  have SA := Lib.hid sa
  clear sa
  have LA := Lib.hid la
  have YA := Lib.hid ya
  clear ya
  go_enter Try.func17, Try.ntmps17
  have RA := Lib.hid (Row8.place w .u8 a 24 w.heap.size rfl la)
  have BB := Lib.hid (below1 w (.cells #[.int .u8 (at8 a 0), .int .u8 (at8 a 1), .int .u8 (at8 a 2), .int .u8 (at8 a 3), .int .u8 (at8 a 4), .int .u8 (at8 a 5), .int .u8 (at8 a 6), .int .u8 (at8 a 7)] 24))
  clear la
  obtain ⟨⟨qRA0, qRA1, qRA2, qRA3⟩, qRA4, qRA5, qRA6, qRA7⟩ := RA.out.all
  go_wp2_with fail
  refine (implIsPart_any _ a LA.out _).mono ?_
  rw [HA.out]
  rintro e w2 ⟨rfl, hb⟩
  clear qRA0 qRA1 qRA2 qRA3 qRA4 qRA5 qRA6 qRA7
  replace RA := Lib.hid (RA.out.below hb)
  replace BB := Lib.hid (below_go BB.out hb BB.out.size)
  clear hb
  obtain ⟨⟨qRA0, qRA1, qRA2, qRA3⟩, qRA4, qRA5, qRA6, qRA7⟩ := RA.out.all
  go_wp2_with fail
  refine (pRank_any n a SA.out _).mono ?_
  rintro e w4 ⟨rfl, hb⟩
  clear qRA0 qRA1 qRA2 qRA3 qRA4 qRA5 qRA6 qRA7
  replace RA := Lib.hid (RA.out.below hb)
  replace BB := Lib.hid (below_go BB.out hb BB.out.size)
  clear hb
  go_wp2
  go_ret2
  exact ⟨rfl, BB.out⟩

theorem specRankOf_any (n : Int) (a : List Int) (la : a.length = 8) (ya : Bytes8 a) (r : Int) (c : Int) (hM : mRankOf n a = (r, c)) (w : World) :
    Calls Try.prog 16 #[arr8 .u8 a, .int .i64 n] w (fun e w' => e = .returned (.tuple #[.int .i64 (r), .int .i64 c]) ∧ Below w.heap.size w w') := by
  by_cases h : isPt n a = true
  · simp only [mRankOf, if_pos h, Prod.mk.injEq] at hM
    obtain ⟨rfl, rfl⟩ := hM
    obtain ⟨k, rfl, hs⟩ := isPt_sim la h
    rw [Int.toNat_natCast]
    exact specRankOf_yes k a la ya (Lib.hid h) hs w
  · simp only [mRankOf, if_neg h, Prod.mk.injEq] at hM
    obtain ⟨rfl, rfl⟩ := hM
    exact specRankOf_no1 n a la ya (Lib.hid (by simpa using h)) w

theorem implRankOf_any (n : Int) (a : List Int) (la : a.length = 8) (ya : Bytes8 a) (r : Int) (c : Int) (hM : mRankOf n a = (r, c)) (w : World) :
    Calls Try.prog 17 #[arr8 .u8 a, .int .i64 n] w (fun e w' => e = .returned (.tuple #[.int .i64 (r), .int .i64 c]) ∧ Below w.heap.size w w') := by
  by_cases h : isPt n a = true
  · simp only [mRankOf, if_pos h, Prod.mk.injEq] at hM
    obtain ⟨rfl, rfl⟩ := hM
    obtain ⟨k, rfl, hs⟩ := isPt_sim la h
    rw [Int.toNat_natCast]
    exact implRankOf_yes k a la ya (Lib.hid h) hs w
  · simp only [mRankOf, if_neg h, Prod.mk.injEq] at hM
    obtain ⟨rfl, rfl⟩ := hM
    exact implRankOf_no1 n a la ya (Lib.hid (by simpa using h)) w

end Go.Proofs.Ythelncibpoijoaa
