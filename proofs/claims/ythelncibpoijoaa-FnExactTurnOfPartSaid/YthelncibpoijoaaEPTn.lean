/- TurnOfPart: the model's answer, the program's. -/
import Derived.Test.YthelncibpoijoaaPTwo
import Derived.Test.YthelncibpoijoaaPSTrn
import Derived.Test.YthelncibpoijoaaPIReg
namespace Go.Proofs.Ythelncibpoijoaa
open Go.RowKit Go.ChangeShapes

/-- What TurnOfPart gives. -/
noncomputable def mTurnOfPart (n : Int) (a : List Int) : List Int × Int := if (isPt n a) = true then (turnP n.toNat a, 0) else (zeros8, 1)

theorem mTurnOfPart_len {n : Int} {a : List Int} {r : List Int} {c : Int} (la : a.length = 8) (h : mTurnOfPart n a = (r, c)) : r.length = 8 := by
  unfold mTurnOfPart at h
  split at h
  · rename_i hs
    obtain ⟨rfl, rfl⟩ := Prod.mk.inj h
    skip
    obtain ⟨k, rfl, hk⟩ := isPt_sim la hs
    refine mapR_len _ _ ?_
    rw [Int.toNat_natCast]
    exact hk.hi
  · obtain ⟨rfl, rfl⟩ := Prod.mk.inj h
    rfl

set_option maxRecDepth 100000 in
set_option maxHeartbeats 1000000 in
theorem specTurnOfPart_no1 (n : Int) (a : List Int) (la : a.length = 8) (ya : Bytes8 a) (HA : Hid (isPt n a = false)) (w : World) :
    Calls Try.prog 25 #[arr8 .u8 a, .int .i64 n] w (fun e w' => e = .returned (.tuple #[arr8 .u8 (zeros8), .int .i64 1]) ∧ Below w.heap.size w w') := by
  have LA := Lib.hid la
  have YA := Lib.hid ya
  clear ya
  go_enter Try.func25, Try.ntmps25
  have RA := Lib.hid ((Row8.place w .u8 a 24 w.heap.size rfl la).alloc (.cells #[.int .u8 0, .int .u8 0, .int .u8 0, .int .u8 0, .int .u8 0, .int .u8 0, .int .u8 0, .int .u8 0] 24))
  have RZ := Lib.hid (Row8.zeros (w.alloc (.cells #[.int .u8 (at8 a 0), .int .u8 (at8 a 1), .int .u8 (at8 a 2), .int .u8 (at8 a 3), .int .u8 (at8 a 4), .int .u8 (at8 a 5), .int .u8 (at8 a 6), .int .u8 (at8 a 7)] 24)) .u8 24 (w.heap.size + 1) (by simp))
  have BB := Lib.hid (below2 w (.cells #[.int .u8 (at8 a 0), .int .u8 (at8 a 1), .int .u8 (at8 a 2), .int .u8 (at8 a 3), .int .u8 (at8 a 4), .int .u8 (at8 a 5), .int .u8 (at8 a 6), .int .u8 (at8 a 7)] 24) (.cells #[.int .u8 0, .int .u8 0, .int .u8 0, .int .u8 0, .int .u8 0, .int .u8 0, .int .u8 0, .int .u8 0] 24))
  clear la
  obtain ⟨⟨qRA0, qRA1, qRA2, qRA3⟩, qRA4, qRA5, qRA6, qRA7⟩ := RA.out.all
  go_wp2_with fail
  refine (l07Is_any n a LA.out YA.out _).mono ?_
  rw [HA.out]
  rintro e w2 ⟨rfl, hb⟩
  clear qRA0 qRA1 qRA2 qRA3 qRA4 qRA5 qRA6 qRA7
  replace RA := Lib.hid (RA.out.below hb)
  replace RZ := Lib.hid (RZ.out.below hb)
  replace BB := Lib.hid (below_go BB.out hb BB.out.size)
  clear hb
  obtain ⟨⟨d0, d1, d2, d3⟩, d4, d5, d6, d7⟩ := RZ.out.all
  obtain ⟨⟨f0, f1, f2, f3⟩, f4, f5, f6, f7⟩ := RZ.out.frees
  have zq := RZ.out.lt
  go_wp2
  obtain ⟨⟨e0, e1, e2, e3⟩, e4, e5, e6, e7⟩ := RZ.out.fillz
  refine bodyPost_ret (v := .tuple #[arr8 .u8 zeros8, .int .i64 1]) (by simp [results, Try.results25, go_sem, e0, e1, e2, e3, e4, e5, e6, e7, zeros8, at8]) rfl ⟨rfl, ?_⟩
  exact below_fill8 BB.out _ (by omega) _ _ _ _ _ _ _ _

set_option maxRecDepth 100000 in
set_option maxHeartbeats 1000000 in
theorem specTurnOfPart_yes (n : Nat) (a : List Int) (la : a.length = 8) (ya : Bytes8 a) (HA : Hid (isPt n a = true)) (sa : Sim n a) (w : World) :
    Calls Try.prog 25 #[arr8 .u8 a, .int .i64 n] w (fun e w' => e = .returned (.tuple #[arr8 .u8 ((turnP n a)), .int .i64 0]) ∧ Below w.heap.size w w') := by
  have h1 := sa.lo
  have h8 := sa.hi
  have SA := Lib.hid sa
  clear sa
  have LA := Lib.hid la
  have YA := Lib.hid ya
  clear ya
  go_enter Try.func25, Try.ntmps25
  have RA := Lib.hid ((Row8.place w .u8 a 24 w.heap.size rfl la).alloc (.cells #[.int .u8 0, .int .u8 0, .int .u8 0, .int .u8 0, .int .u8 0, .int .u8 0, .int .u8 0, .int .u8 0] 24))
  have RZ := Lib.hid (Row8.zeros (w.alloc (.cells #[.int .u8 (at8 a 0), .int .u8 (at8 a 1), .int .u8 (at8 a 2), .int .u8 (at8 a 3), .int .u8 (at8 a 4), .int .u8 (at8 a 5), .int .u8 (at8 a 6), .int .u8 (at8 a 7)] 24)) .u8 24 (w.heap.size + 1) (by simp))
  have BB := Lib.hid (below2 w (.cells #[.int .u8 (at8 a 0), .int .u8 (at8 a 1), .int .u8 (at8 a 2), .int .u8 (at8 a 3), .int .u8 (at8 a 4), .int .u8 (at8 a 5), .int .u8 (at8 a 6), .int .u8 (at8 a 7)] 24) (.cells #[.int .u8 0, .int .u8 0, .int .u8 0, .int .u8 0, .int .u8 0, .int .u8 0, .int .u8 0, .int .u8 0] 24))
  clear la
  obtain ⟨⟨qRA0, qRA1, qRA2, qRA3⟩, qRA4, qRA5, qRA6, qRA7⟩ := RA.out.all
  go_wp2_with fail
  refine (l07Is_any _ a LA.out YA.out _).mono ?_
  rw [HA.out]
  rintro e w2 ⟨rfl, hb⟩
  clear qRA0 qRA1 qRA2 qRA3 qRA4 qRA5 qRA6 qRA7
  replace RA := Lib.hid (RA.out.below hb)
  replace RZ := Lib.hid (RZ.out.below hb)
  replace BB := Lib.hid (below_go BB.out hb BB.out.size)
  clear hb
  obtain ⟨⟨qRA0, qRA1, qRA2, qRA3⟩, qRA4, qRA5, qRA6, qRA7⟩ := RA.out.all
  go_wp2_with fail
  refine (l07Turn_any _ 1 (by omega) a SA.out _).mono ?_
  rw [rotR_one SA.out]
  rintro e w4 ⟨rfl, hb⟩
  clear qRA0 qRA1 qRA2 qRA3 qRA4 qRA5 qRA6 qRA7
  replace RA := Lib.hid (RA.out.below hb)
  replace RZ := Lib.hid (RZ.out.below hb)
  replace BB := Lib.hid (below_go BB.out hb BB.out.size)
  clear hb
  obtain ⟨⟨d0, d1, d2, d3⟩, d4, d5, d6, d7⟩ := RZ.out.all
  obtain ⟨⟨f0, f1, f2, f3⟩, f4, f5, f6, f7⟩ := RZ.out.frees
  have zq := RZ.out.lt
  go_wp2
  obtain ⟨⟨e0, e1, e2, e3⟩, e4, e5, e6, e7⟩ := (RZ.out.fill (turnP _ a) (mapR_len _ _ h8)).all
  refine bodyPost_ret (v := .tuple #[arr8 .u8 (turnP _ a), .int .i64 0]) (by simp [results, Try.results25, go_sem, e0, e1, e2, e3, e4, e5, e6, e7]) rfl ⟨rfl, ?_⟩
  exact below_fill8 BB.out _ (by omega) _ _ _ _ _ _ _ _

theorem specTurnOfPart_any (n : Int) (a : List Int) (la : a.length = 8) (ya : Bytes8 a) (r : List Int) (c : Int) (hM : mTurnOfPart n a = (r, c)) (w : World) :
    Calls Try.prog 25 #[arr8 .u8 a, .int .i64 n] w (fun e w' => e = .returned (.tuple #[arr8 .u8 (r), .int .i64 c]) ∧ Below w.heap.size w w') := by
  by_cases h : (isPt n a) = true
  · simp only [mTurnOfPart, if_pos h, Prod.mk.injEq] at hM
    obtain ⟨rfl, rfl⟩ := hM
    obtain ⟨k, rfl, hs⟩ := isPt_sim la h
    rw [Int.toNat_natCast]
    exact specTurnOfPart_yes k a la ya (Lib.hid h) hs w
  · simp only [mTurnOfPart, if_neg h, Prod.mk.injEq] at hM
    obtain ⟨rfl, rfl⟩ := hM
    exact specTurnOfPart_no1 n a la ya (Lib.hid (by simpa using h)) w

set_option maxRecDepth 100000 in
set_option maxHeartbeats 1000000 in
theorem implTurnOfPart_no1 (n : Int) (a : List Int) (la : a.length = 8) (ya : Bytes8 a) (HA : Hid (isPt n a = false)) (w : World) :
    Calls Try.prog 26 #[arr8 .u8 a, .int .i64 n] w (fun e w' => e = .returned (.tuple #[arr8 .u8 (zeros8), .int .i64 1]) ∧ Below w.heap.size w w') := by
  have LA := Lib.hid la
  have YA := Lib.hid ya
  clear ya
  go_enter Try.func26, Try.ntmps26
  have RA := Lib.hid ((Row8.place w .u8 a 24 w.heap.size rfl la).alloc (.cells #[.int .u8 0, .int .u8 0, .int .u8 0, .int .u8 0, .int .u8 0, .int .u8 0, .int .u8 0, .int .u8 0] 24))
  have RZ := Lib.hid (Row8.zeros (w.alloc (.cells #[.int .u8 (at8 a 0), .int .u8 (at8 a 1), .int .u8 (at8 a 2), .int .u8 (at8 a 3), .int .u8 (at8 a 4), .int .u8 (at8 a 5), .int .u8 (at8 a 6), .int .u8 (at8 a 7)] 24)) .u8 24 (w.heap.size + 1) (by simp))
  have BB := Lib.hid (below2 w (.cells #[.int .u8 (at8 a 0), .int .u8 (at8 a 1), .int .u8 (at8 a 2), .int .u8 (at8 a 3), .int .u8 (at8 a 4), .int .u8 (at8 a 5), .int .u8 (at8 a 6), .int .u8 (at8 a 7)] 24) (.cells #[.int .u8 0, .int .u8 0, .int .u8 0, .int .u8 0, .int .u8 0, .int .u8 0, .int .u8 0, .int .u8 0] 24))
  clear la
  obtain ⟨⟨qRA0, qRA1, qRA2, qRA3⟩, qRA4, qRA5, qRA6, qRA7⟩ := RA.out.all
  go_wp2_with fail
  refine (partOne_no1 _ n a LA.out HA _).mono ?_
  rintro e w2 ⟨rfl, hb⟩
  clear qRA0 qRA1 qRA2 qRA3 qRA4 qRA5 qRA6 qRA7
  replace RA := Lib.hid (RA.out.below hb)
  replace RZ := Lib.hid (RZ.out.below hb)
  replace BB := Lib.hid (below_go BB.out hb BB.out.size)
  clear hb
  obtain ⟨⟨d0, d1, d2, d3⟩, d4, d5, d6, d7⟩ := RZ.out.all
  obtain ⟨⟨f0, f1, f2, f3⟩, f4, f5, f6, f7⟩ := RZ.out.frees
  have zq := RZ.out.lt
  go_wp2
  obtain ⟨⟨e0, e1, e2, e3⟩, e4, e5, e6, e7⟩ := RZ.out.fillz
  refine bodyPost_ret (v := .tuple #[arr8 .u8 zeros8, .int .i64 1]) (by simp [results, Try.results26, go_sem, e0, e1, e2, e3, e4, e5, e6, e7, zeros8, at8]) rfl ⟨rfl, ?_⟩
  exact below_fill8 BB.out _ (by omega) _ _ _ _ _ _ _ _

set_option maxRecDepth 100000 in
set_option maxHeartbeats 1000000 in
theorem implTurnOfPart_yes (n : Nat) (a : List Int) (la : a.length = 8) (ya : Bytes8 a) (HA : Hid (isPt n a = true)) (sa : Sim n a) (w : World) :
    Calls Try.prog 26 #[arr8 .u8 a, .int .i64 n] w (fun e w' => e = .returned (.tuple #[arr8 .u8 ((turnP n a)), .int .i64 0]) ∧ Below w.heap.size w w') := by
  have h1 := sa.lo
  have h8 := sa.hi
  have SA := Lib.hid sa
  clear sa
  have LA := Lib.hid la
  have YA := Lib.hid ya
  clear ya
  go_enter Try.func26, Try.ntmps26
  have RA := Lib.hid ((Row8.place w .u8 a 24 w.heap.size rfl la).alloc (.cells #[.int .u8 0, .int .u8 0, .int .u8 0, .int .u8 0, .int .u8 0, .int .u8 0, .int .u8 0, .int .u8 0] 24))
  have RZ := Lib.hid (Row8.zeros (w.alloc (.cells #[.int .u8 (at8 a 0), .int .u8 (at8 a 1), .int .u8 (at8 a 2), .int .u8 (at8 a 3), .int .u8 (at8 a 4), .int .u8 (at8 a 5), .int .u8 (at8 a 6), .int .u8 (at8 a 7)] 24)) .u8 24 (w.heap.size + 1) (by simp))
  have BB := Lib.hid (below2 w (.cells #[.int .u8 (at8 a 0), .int .u8 (at8 a 1), .int .u8 (at8 a 2), .int .u8 (at8 a 3), .int .u8 (at8 a 4), .int .u8 (at8 a 5), .int .u8 (at8 a 6), .int .u8 (at8 a 7)] 24) (.cells #[.int .u8 0, .int .u8 0, .int .u8 0, .int .u8 0, .int .u8 0, .int .u8 0, .int .u8 0, .int .u8 0] 24))
  clear la
  have HRL : Hid ((turnP n a).length = 8) := Lib.hid (mapR_len _ _ h8)
  obtain ⟨⟨qRA0, qRA1, qRA2, qRA3⟩, qRA4, qRA5, qRA6, qRA7⟩ := RA.out.all
  go_wp2_with fail
  refine (partOne_yes 60 _ a LA.out HA (turnP n a) HRL _ (fun args W => by kernel_rfl) (fun W => pTurn_any _ a SA.out W)).mono ?_
  rintro e w2 ⟨rfl, hb⟩
  clear qRA0 qRA1 qRA2 qRA3 qRA4 qRA5 qRA6 qRA7
  replace RA := Lib.hid (RA.out.below hb)
  replace RZ := Lib.hid (RZ.out.below hb)
  replace BB := Lib.hid (below_go BB.out hb BB.out.size)
  clear hb
  obtain ⟨⟨d0, d1, d2, d3⟩, d4, d5, d6, d7⟩ := RZ.out.all
  obtain ⟨⟨f0, f1, f2, f3⟩, f4, f5, f6, f7⟩ := RZ.out.frees
  have zq := RZ.out.lt
  go_wp2
  obtain ⟨⟨e0, e1, e2, e3⟩, e4, e5, e6, e7⟩ := (RZ.out.fill (turnP n a) HRL.out).all
  refine bodyPost_ret (v := .tuple #[arr8 .u8 (turnP n a), .int .i64 0]) (by simp [results, Try.results26, go_sem, e0, e1, e2, e3, e4, e5, e6, e7]) rfl ⟨rfl, ?_⟩
  exact below_fill8 BB.out _ (by omega) _ _ _ _ _ _ _ _

theorem implTurnOfPart_any (n : Int) (a : List Int) (la : a.length = 8) (ya : Bytes8 a) (r : List Int) (c : Int) (hM : mTurnOfPart n a = (r, c)) (w : World) :
    Calls Try.prog 26 #[arr8 .u8 a, .int .i64 n] w (fun e w' => e = .returned (.tuple #[arr8 .u8 (r), .int .i64 c]) ∧ Below w.heap.size w w') := by
  by_cases h : (isPt n a) = true
  · simp only [mTurnOfPart, if_pos h, Prod.mk.injEq] at hM
    obtain ⟨rfl, rfl⟩ := hM
    obtain ⟨k, rfl, hs⟩ := isPt_sim la h
    rw [Int.toNat_natCast]
    exact implTurnOfPart_yes k a la ya (Lib.hid h) hs w
  · simp only [mTurnOfPart, if_neg h, Prod.mk.injEq] at hM
    obtain ⟨rfl, rfl⟩ := hM
    exact implTurnOfPart_no1 n a la ya (Lib.hid (by simpa using h)) w

end Go.Proofs.Ythelncibpoijoaa
