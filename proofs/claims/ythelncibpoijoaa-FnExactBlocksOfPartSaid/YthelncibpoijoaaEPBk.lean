/- BlocksOfPart: the model's answer, the program's. -/
import Derived.Test.YthelncibpoijoaaPSIs
import Derived.Test.YthelncibpoijoaaPIIs
import Derived.Test.YthelncibpoijoaaPSBlk
namespace Go.Proofs.Ythelncibpoijoaa
open Go.RowKit Go.ChangeShapes

/-- What BlocksOfPart gives. -/
noncomputable def mBlocksOf (n : Int) (a : List Int) : List (List Int) × Int := if isPt n a = true then (blkS n.toNat a n.toNat, 0) else ([], 1)

theorem mBlocksOf_len {n : Int} {a : List Int} {r : List (List Int)} {c : Int} (la : a.length = 8) (h : mBlocksOf n a = (r, c)) : r.length ≤ 8 := by
  unfold mBlocksOf at h
  split at h
  · rename_i hs
    obtain ⟨rfl, rfl⟩ := Prod.mk.inj h
    obtain ⟨k, rfl, hk⟩ := isPt_sim la hs
    rw [Int.toNat_natCast, blkS_len]
    exact Nat.le_trans (cycL_len k a k) hk.hi
  · obtain ⟨rfl, rfl⟩ := Prod.mk.inj h
    exact Nat.zero_le _

/-- What a function that hands back a slice of slices and a code gives. -/
def RetSSC (w : World) (ls : List (List Int)) (c : Int) (e : Ending) (w' : World) : Prop :=
  ∃ a cap rs, e = .returned (.tuple #[.slice a rs.length cap, .int .i64 c]) ∧ rs.map RowV.xs = ls ∧ GrowSS w.heap.size w' (.slice a rs.length cap) rs.length rs ∧ Below w.heap.size w w'

theorem totS_le (rs : List RowV) (h : ∀ x ∈ rs, x.n ≤ 1048576) : totS rs ≤ rs.length * 1048576 := by
  induction rs with
  | nil => exact Nat.zero_le _
  | cons x l ih =>
    have h1 := h x (by simp)
    have h2 := ih fun y hy => h y (by simp [hy])
    simp only [totS, List.length_cons]
    omega

set_option maxRecDepth 100000 in
set_option maxHeartbeats 1000000 in
theorem specBlocksOfPart_no1 (n : Int) (a : List Int) (la : a.length = 8) (ya : Bytes8 a) (HA : Hid (isPt n a = false)) (w : World) :
    Calls Try.prog 39 #[arr8 .u8 a, .int .i64 n] w (RetSSC w [] 1) := by
  have LA := Lib.hid la
  have YA := Lib.hid ya
  clear ya
  go_enter Try.func39, Try.ntmps39
  have RA := Lib.hid (Row8.place w .u8 a 24 w.heap.size rfl la)
  have BB := Lib.hid (below1 w (.cells #[.int .u8 (at8 a 0), .int .u8 (at8 a 1), .int .u8 (at8 a 2), .int .u8 (at8 a 3), .int .u8 (at8 a 4), .int .u8 (at8 a 5), .int .u8 (at8 a 6), .int .u8 (at8 a 7)] 24))
  clear la
  obtain ⟨⟨qRA0, qRA1, qRA2, qRA3⟩, qRA4, qRA5, qRA6, qRA7⟩ := RA.out.all
  go_wp2_with fail
  refine (l07Is_any n a LA.out YA.out _).mono ?_
  rw [HA.out]
  rintro e w2 ⟨rfl, hb⟩
  clear qRA0 qRA1 qRA2 qRA3 qRA4 qRA5 qRA6 qRA7
  replace RA := Lib.hid (RA.out.below hb)
  replace BB := Lib.hid (below_go BB.out hb BB.out.size)
  clear hb
  go_wp2
  go_ret2
  exact ⟨none, 0, [], rfl, rfl, GrowSS.nil _ _, BB.out⟩

set_option maxRecDepth 100000 in
set_option maxHeartbeats 1000000 in
theorem specBlocksOfPart_yes (n : Nat) (a : List Int) (la : a.length = 8) (ya : Bytes8 a) (HA : Hid (isPt n a = true)) (sa : Sim n a) (w : World) :
    Calls Try.prog 39 #[arr8 .u8 a, .int .i64 n] w (RetSSC w (blkS n a n) 0) := by
  have h1 := sa.lo
  have h8 := sa.hi
  have SA := Lib.hid sa
  clear sa
  have LA := Lib.hid la
  have YA := Lib.hid ya
  clear ya
  go_enter Try.func39, Try.ntmps39
  have RA := Lib.hid (Row8.place w .u8 a 24 w.heap.size rfl la)
  have BB := Lib.hid (below1 w (.cells #[.int .u8 (at8 a 0), .int .u8 (at8 a 1), .int .u8 (at8 a 2), .int .u8 (at8 a 3), .int .u8 (at8 a 4), .int .u8 (at8 a 5), .int .u8 (at8 a 6), .int .u8 (at8 a 7)] 24))
  clear la
  obtain ⟨⟨qRA0, qRA1, qRA2, qRA3⟩, qRA4, qRA5, qRA6, qRA7⟩ := RA.out.all
  go_wp2_with fail
  refine (l07Is_any _ a LA.out YA.out _).mono ?_
  rw [HA.out]
  rintro e w2 ⟨rfl, hb⟩
  clear qRA0 qRA1 qRA2 qRA3 qRA4 qRA5 qRA6 qRA7
  replace RA := Lib.hid (RA.out.below hb)
  replace BB := Lib.hid (below_go BB.out hb BB.out.size)
  clear hb
  obtain ⟨⟨qRA0, qRA1, qRA2, qRA3⟩, qRA4, qRA5, qRA6, qRA7⟩ := RA.out.all
  go_wp2_with fail
  refine (l07Blocks_any n a SA.out _).mono ?_
  rintro e w9 ⟨ad, cap, rs, rfl, hrs, hg, hb⟩
  clear qRA0 qRA1 qRA2 qRA3 qRA4 qRA5 qRA6 qRA7
  have BB2 := Lib.hid (below_go BB.out hb BB.out.size)
  have GG := Lib.hid (hg.low BB.out.size)
  have HRS := Lib.hid hrs
  clear hb hrs hg
  go_wp2
  go_ret2
  exact ⟨ad, cap, rs, rfl, HRS.out, GG.out, BB2.out⟩

set_option maxRecDepth 100000 in
set_option maxHeartbeats 1000000 in
theorem implBlocksOfPart_no1 (n : Int) (a : List Int) (la : a.length = 8) (ya : Bytes8 a) (HA : Hid (isPt n a = false)) (w : World) :
    Calls Try.prog 40 #[arr8 .u8 a, .int .i64 n] w (RetSSC w [] 1) := by
  have LA := Lib.hid la
  have YA := Lib.hid ya
  clear ya
  go_enter Try.func40, Try.ntmps40
  have RA := Lib.hid (Row8.place w .u8 a 24 w.heap.size rfl la)
  have BB := Lib.hid (below1 w (.cells #[.int .u8 (at8 a 0), .int .u8 (at8 a 1), .int .u8 (at8 a 2), .int .u8 (at8 a 3), .int .u8 (at8 a 4), .int .u8 (at8 a 5), .int .u8 (at8 a 6), .int .u8 (at8 a 7)] 24))
  clear la
  obtain ⟨⟨qRA0, qRA1, qRA2, qRA3⟩, qRA4, qRA5, qRA6, qRA7⟩ := RA.out.all
  go_wp2_with fail
  refine (implIsPart_any n a LA.out _).mono ?_
  rw [HA.out]
  rintro e w2 ⟨rfl, hb⟩
  clear qRA0 qRA1 qRA2 qRA3 qRA4 qRA5 qRA6 qRA7
  replace RA := Lib.hid (RA.out.below hb)
  replace BB := Lib.hid (below_go BB.out hb BB.out.size)
  clear hb
  go_wp2
  go_ret2
  exact ⟨none, 0, [], rfl, rfl, GrowSS.nil _ _, BB.out⟩

set_option maxRecDepth 100000 in
set_option maxHeartbeats 1000000 in
theorem implBlocksOfPart_yes (n : Nat) (a : List Int) (la : a.length = 8) (ya : Bytes8 a) (HA : Hid (isPt n a = true)) (sa : Sim n a) (w : World) :
    Calls Try.prog 40 #[arr8 .u8 a, .int .i64 n] w (RetSSC w (blkS n a n) 0) := by
  have h1 := sa.lo
  have h8 := sa.hi
  have SA := Lib.hid sa
  clear sa
  have LA := Lib.hid la
  have YA := Lib.hid ya
  clear ya
  go_enter Try.func40, Try.ntmps40
  have RA := Lib.hid (Row8.place w .u8 a 24 w.heap.size rfl la)
  have BB := Lib.hid (below1 w (.cells #[.int .u8 (at8 a 0), .int .u8 (at8 a 1), .int .u8 (at8 a 2), .int .u8 (at8 a 3), .int .u8 (at8 a 4), .int .u8 (at8 a 5), .int .u8 (at8 a 6), .int .u8 (at8 a 7)] 24))
  clear la
  obtain ⟨⟨qRA0, qRA1, qRA2, qRA3⟩, qRA4, qRA5, qRA6, qRA7⟩ := RA.out.all
  go_wp2_with fail
  refine (implIsPart_any _ a LA.out _).mono ?_
  rw [HA.out]
  rintro e w2 ⟨rfl, hb⟩
  clear qRA0 qRA1 qRA2 qRA3 qRA4 qRA5 qRA6 qRA7
  replace RA := Lib.hid (RA.out.below hb)
  replace BB := Lib.hid (below_go BB.out hb BB.out.size)
  clear hb
  obtain ⟨⟨qRA0, qRA1, qRA2, qRA3⟩, qRA4, qRA5, qRA6, qRA7⟩ := RA.out.all
  go_wp2_with fail
  refine (pBlocks_any n a SA.out _).mono ?_
  rintro e w9 ⟨ad, cap, rs, rfl, hrs, hg, hb⟩
  clear qRA0 qRA1 qRA2 qRA3 qRA4 qRA5 qRA6 qRA7
  have BB2 := Lib.hid (below_go BB.out hb BB.out.size)
  have GG := Lib.hid (hg.low BB.out.size)
  have HRS := Lib.hid hrs
  clear hb hrs hg
  go_wp2
  go_ret2
  exact ⟨ad, cap, rs, rfl, by rw [HRS.out]; exact blk_cyc SA.out (asc_of HA.out), GG.out, BB2.out⟩

theorem specBlocksOfPart_any (n : Int) (a : List Int) (la : a.length = 8) (ya : Bytes8 a) (r : List (List Int)) (c : Int) (hM : mBlocksOf n a = (r, c)) (w : World) :
    Calls Try.prog 39 #[arr8 .u8 a, .int .i64 n] w (RetSSC w r c) := by
  by_cases h : isPt n a = true
  · simp only [mBlocksOf, if_pos h, Prod.mk.injEq] at hM
    obtain ⟨rfl, rfl⟩ := hM
    obtain ⟨k, rfl, hs⟩ := isPt_sim la h
    rw [Int.toNat_natCast]
    exact specBlocksOfPart_yes k a la ya (Lib.hid h) hs w
  · simp only [mBlocksOf, if_neg h, Prod.mk.injEq] at hM
    obtain ⟨rfl, rfl⟩ := hM
    exact specBlocksOfPart_no1 n a la ya (Lib.hid (by simpa using h)) w

theorem implBlocksOfPart_any (n : Int) (a : List Int) (la : a.length = 8) (ya : Bytes8 a) (r : List (List Int)) (c : Int) (hM : mBlocksOf n a = (r, c)) (w : World) :
    Calls Try.prog 40 #[arr8 .u8 a, .int .i64 n] w (RetSSC w r c) := by
  by_cases h : isPt n a = true
  · simp only [mBlocksOf, if_pos h, Prod.mk.injEq] at hM
    obtain ⟨rfl, rfl⟩ := hM
    obtain ⟨k, rfl, hs⟩ := isPt_sim la h
    rw [Int.toNat_natCast]
    exact implBlocksOfPart_yes k a la ya (Lib.hid h) hs w
  · simp only [mBlocksOf, if_neg h, Prod.mk.injEq] at hM
    obtain ⟨rfl, rfl⟩ := hM
    exact implBlocksOfPart_no1 n a la ya (Lib.hid (by simpa using h)) w

end Go.Proofs.Ythelncibpoijoaa
