/- MeetOf: the model's answer, the program's. -/
import Derived.Test.YtinflgcpkeomlabMapL
import Derived.Test.YtinflgcpkeomlabMapM
import Derived.Test.YtinflgcpkeomlabSBoth
import Derived.Test.YtinflgcpkeomlabIIs
namespace Go.Proofs.Ytinflgcpkeomlab
open Go.RowKit Go.ChangeShapes

theorem meet_any (n : Nat) (a b : List Int) (sa : Sim n a) (sb : Sim n b) (w : World) :
    Calls Try.prog 58 #[arr8 .u8 a, arr8 .u8 b, .int .i64 n] w (RetArr .u8 w (exsR n (takeR n [a, b]))) := by
  by_cases h : a = b
  · subst h
    exact meet_eq n a sa w
  · exact meet_ne n a b sa sb h w

theorem exsR_len8 (n : Nat) (xs : List Int) (h8 : n ≤ 8) : (exsR n xs).length = 8 := by
  have h : ∀ (l s : List Int), s.length = 8 → (l.foldl (fun s x => thenR n s (exR n (x - 1).toNat)) s).length = 8 := by
    intro l
    induction l with
    | nil => exact fun s h => h
    | cons x l ih => exact fun s _ => ih _ (mapR_len _ _ h8)
  exact h xs (sameR n) (mapR_len _ _ h8)

/-- What MeetOf gives. -/
def mMeetOf (n : Int) (a b : List Int) : List Int × Int := if (simB n a && simB n b) = true then (exsR n.toNat (takeR n.toNat [a, b]), 0) else (zeros8, 1)

theorem mMeetOf_len {n : Int} {a b : List Int} {r : List Int} {c : Int} (h : mMeetOf n a b = (r, c)) : r.length = 8 := by
  unfold mMeetOf at h
  split at h
  · rename_i hs
    obtain ⟨rfl, rfl⟩ := Prod.mk.inj h
    refine exsR_len8 _ _ ?_
    have hs := (Bool.and_eq_true _ _).mp hs |>.1
    unfold simB at hs
    simp only [Bool.and_eq_true, decide_eq_true_eq] at hs
    omega
  · obtain ⟨rfl, rfl⟩ := Prod.mk.inj h
    rfl

set_option maxRecDepth 100000 in
set_option maxHeartbeats 1000000 in
theorem specMeetOf_no1 (n : Int) (a : List Int) (la : a.length = 8) (ya : Bytes8 a) (b : List Int) (lb : b.length = 8) (yb : Bytes8 b) (HA : Hid (simB n a = false)) (w : World) :
    Calls Try.prog 14 #[arr8 .u8 a, arr8 .u8 b, .int .i64 n] w (fun e w' => e = .returned (.tuple #[arr8 .u8 (zeros8), .int .i64 1]) ∧ Below w.heap.size w w') := by
  have LA := Lib.hid la
  have YA := Lib.hid ya
  clear ya
  have LB := Lib.hid lb
  have YB := Lib.hid yb
  clear yb
  go_enter Try.func14, Try.ntmps14
  have RA := Lib.hid (((Row8.place w .u8 a 23 w.heap.size rfl la).alloc (.cells #[.int .u8 (at8 b 0), .int .u8 (at8 b 1), .int .u8 (at8 b 2), .int .u8 (at8 b 3), .int .u8 (at8 b 4), .int .u8 (at8 b 5), .int .u8 (at8 b 6), .int .u8 (at8 b 7)] 23)).alloc (.cells #[.int .u8 0, .int .u8 0, .int .u8 0, .int .u8 0, .int .u8 0, .int .u8 0, .int .u8 0, .int .u8 0] 23))
  have RB := Lib.hid ((Row8.place (w.alloc (.cells #[.int .u8 (at8 a 0), .int .u8 (at8 a 1), .int .u8 (at8 a 2), .int .u8 (at8 a 3), .int .u8 (at8 a 4), .int .u8 (at8 a 5), .int .u8 (at8 a 6), .int .u8 (at8 a 7)] 23)) .u8 b 23 (w.heap.size + 1) (by simp) lb).alloc (.cells #[.int .u8 0, .int .u8 0, .int .u8 0, .int .u8 0, .int .u8 0, .int .u8 0, .int .u8 0, .int .u8 0] 23))
  have RZ := Lib.hid (Row8.zeros ((w.alloc (.cells #[.int .u8 (at8 a 0), .int .u8 (at8 a 1), .int .u8 (at8 a 2), .int .u8 (at8 a 3), .int .u8 (at8 a 4), .int .u8 (at8 a 5), .int .u8 (at8 a 6), .int .u8 (at8 a 7)] 23)).alloc (.cells #[.int .u8 (at8 b 0), .int .u8 (at8 b 1), .int .u8 (at8 b 2), .int .u8 (at8 b 3), .int .u8 (at8 b 4), .int .u8 (at8 b 5), .int .u8 (at8 b 6), .int .u8 (at8 b 7)] 23)) .u8 23 (w.heap.size + 1 + 1) (by simp))
  have BB := Lib.hid (below3 w (.cells #[.int .u8 (at8 a 0), .int .u8 (at8 a 1), .int .u8 (at8 a 2), .int .u8 (at8 a 3), .int .u8 (at8 a 4), .int .u8 (at8 a 5), .int .u8 (at8 a 6), .int .u8 (at8 a 7)] 23) (.cells #[.int .u8 (at8 b 0), .int .u8 (at8 b 1), .int .u8 (at8 b 2), .int .u8 (at8 b 3), .int .u8 (at8 b 4), .int .u8 (at8 b 5), .int .u8 (at8 b 6), .int .u8 (at8 b 7)] 23) (.cells #[.int .u8 0, .int .u8 0, .int .u8 0, .int .u8 0, .int .u8 0, .int .u8 0, .int .u8 0, .int .u8 0] 23))
  clear la lb
  obtain ⟨⟨qRA0, qRA1, qRA2, qRA3⟩, qRA4, qRA5, qRA6, qRA7⟩ := RA.out.all
  obtain ⟨⟨qRB0, qRB1, qRB2, qRB3⟩, qRB4, qRB5, qRB6, qRB7⟩ := RB.out.all
  go_wp2_with fail
  refine (l02Both_no1 _ a b LA.out LB.out YA.out YB.out HA _).mono ?_
  rintro e w2 ⟨rfl, hb⟩
  clear qRA0 qRA1 qRA2 qRA3 qRA4 qRA5 qRA6 qRA7 qRB0 qRB1 qRB2 qRB3 qRB4 qRB5 qRB6 qRB7
  replace RA := Lib.hid (RA.out.below hb)
  replace RB := Lib.hid (RB.out.below hb)
  replace RZ := Lib.hid (RZ.out.below hb)
  replace BB := Lib.hid (below_go BB.out hb BB.out.size)
  clear hb
  obtain ⟨⟨d0, d1, d2, d3⟩, d4, d5, d6, d7⟩ := RZ.out.all
  obtain ⟨⟨f0, f1, f2, f3⟩, f4, f5, f6, f7⟩ := RZ.out.frees
  have zq := RZ.out.lt
  go_wp2
  obtain ⟨⟨e0, e1, e2, e3⟩, e4, e5, e6, e7⟩ := RZ.out.fillz
  refine bodyPost_ret (v := .tuple #[arr8 .u8 zeros8, .int .i64 1]) (by simp [results, Try.results14, go_sem, e0, e1, e2, e3, e4, e5, e6, e7, zeros8, at8]) rfl ⟨rfl, ?_⟩
  exact below_fill8 BB.out _ (by omega) _ _ _ _ _ _ _ _

set_option maxRecDepth 100000 in
set_option maxHeartbeats 1000000 in
theorem specMeetOf_no2 (n : Int) (a : List Int) (la : a.length = 8) (ya : Bytes8 a) (b : List Int) (lb : b.length = 8) (yb : Bytes8 b) (HA : Hid (simB n a = true)) (HB : Hid (simB n b = false)) (w : World) :
    Calls Try.prog 14 #[arr8 .u8 a, arr8 .u8 b, .int .i64 n] w (fun e w' => e = .returned (.tuple #[arr8 .u8 (zeros8), .int .i64 1]) ∧ Below w.heap.size w w') := by
  have LA := Lib.hid la
  have YA := Lib.hid ya
  clear ya
  have LB := Lib.hid lb
  have YB := Lib.hid yb
  clear yb
  go_enter Try.func14, Try.ntmps14
  have RA := Lib.hid (((Row8.place w .u8 a 23 w.heap.size rfl la).alloc (.cells #[.int .u8 (at8 b 0), .int .u8 (at8 b 1), .int .u8 (at8 b 2), .int .u8 (at8 b 3), .int .u8 (at8 b 4), .int .u8 (at8 b 5), .int .u8 (at8 b 6), .int .u8 (at8 b 7)] 23)).alloc (.cells #[.int .u8 0, .int .u8 0, .int .u8 0, .int .u8 0, .int .u8 0, .int .u8 0, .int .u8 0, .int .u8 0] 23))
  have RB := Lib.hid ((Row8.place (w.alloc (.cells #[.int .u8 (at8 a 0), .int .u8 (at8 a 1), .int .u8 (at8 a 2), .int .u8 (at8 a 3), .int .u8 (at8 a 4), .int .u8 (at8 a 5), .int .u8 (at8 a 6), .int .u8 (at8 a 7)] 23)) .u8 b 23 (w.heap.size + 1) (by simp) lb).alloc (.cells #[.int .u8 0, .int .u8 0, .int .u8 0, .int .u8 0, .int .u8 0, .int .u8 0, .int .u8 0, .int .u8 0] 23))
  have RZ := Lib.hid (Row8.zeros ((w.alloc (.cells #[.int .u8 (at8 a 0), .int .u8 (at8 a 1), .int .u8 (at8 a 2), .int .u8 (at8 a 3), .int .u8 (at8 a 4), .int .u8 (at8 a 5), .int .u8 (at8 a 6), .int .u8 (at8 a 7)] 23)).alloc (.cells #[.int .u8 (at8 b 0), .int .u8 (at8 b 1), .int .u8 (at8 b 2), .int .u8 (at8 b 3), .int .u8 (at8 b 4), .int .u8 (at8 b 5), .int .u8 (at8 b 6), .int .u8 (at8 b 7)] 23)) .u8 23 (w.heap.size + 1 + 1) (by simp))
  have BB := Lib.hid (below3 w (.cells #[.int .u8 (at8 a 0), .int .u8 (at8 a 1), .int .u8 (at8 a 2), .int .u8 (at8 a 3), .int .u8 (at8 a 4), .int .u8 (at8 a 5), .int .u8 (at8 a 6), .int .u8 (at8 a 7)] 23) (.cells #[.int .u8 (at8 b 0), .int .u8 (at8 b 1), .int .u8 (at8 b 2), .int .u8 (at8 b 3), .int .u8 (at8 b 4), .int .u8 (at8 b 5), .int .u8 (at8 b 6), .int .u8 (at8 b 7)] 23) (.cells #[.int .u8 0, .int .u8 0, .int .u8 0, .int .u8 0, .int .u8 0, .int .u8 0, .int .u8 0, .int .u8 0] 23))
  clear la lb
  obtain ⟨⟨qRA0, qRA1, qRA2, qRA3⟩, qRA4, qRA5, qRA6, qRA7⟩ := RA.out.all
  obtain ⟨⟨qRB0, qRB1, qRB2, qRB3⟩, qRB4, qRB5, qRB6, qRB7⟩ := RB.out.all
  go_wp2_with fail
  refine (l02Both_no2 _ a b LA.out LB.out YA.out YB.out HA HB _).mono ?_
  rintro e w2 ⟨rfl, hb⟩
  clear qRA0 qRA1 qRA2 qRA3 qRA4 qRA5 qRA6 qRA7 qRB0 qRB1 qRB2 qRB3 qRB4 qRB5 qRB6 qRB7
  replace RA := Lib.hid (RA.out.below hb)
  replace RB := Lib.hid (RB.out.below hb)
  replace RZ := Lib.hid (RZ.out.below hb)
  replace BB := Lib.hid (below_go BB.out hb BB.out.size)
  clear hb
  obtain ⟨⟨d0, d1, d2, d3⟩, d4, d5, d6, d7⟩ := RZ.out.all
  obtain ⟨⟨f0, f1, f2, f3⟩, f4, f5, f6, f7⟩ := RZ.out.frees
  have zq := RZ.out.lt
  go_wp2
  obtain ⟨⟨e0, e1, e2, e3⟩, e4, e5, e6, e7⟩ := RZ.out.fillz
  refine bodyPost_ret (v := .tuple #[arr8 .u8 zeros8, .int .i64 1]) (by simp [results, Try.results14, go_sem, e0, e1, e2, e3, e4, e5, e6, e7, zeros8, at8]) rfl ⟨rfl, ?_⟩
  exact below_fill8 BB.out _ (by omega) _ _ _ _ _ _ _ _

set_option maxRecDepth 100000 in
set_option maxHeartbeats 1000000 in
theorem specMeetOf_yes (n : Nat) (a : List Int) (la : a.length = 8) (ya : Bytes8 a) (b : List Int) (lb : b.length = 8) (yb : Bytes8 b) (sa : Sim n a) (sb : Sim n b) (w : World) :
    Calls Try.prog 14 #[arr8 .u8 a, arr8 .u8 b, .int .i64 n] w (fun e w' => e = .returned (.tuple #[arr8 .u8 ((exsR n (takeR n [a, b]))), .int .i64 0]) ∧ Below w.heap.size w w') := by
  have HA := Lib.hid ((simB_iff _ _ la).2 ⟨n, rfl, sa⟩)
  have SA := Lib.hid sa
  have HB := Lib.hid ((simB_iff _ _ lb).2 ⟨n, rfl, sb⟩)
  have SB := Lib.hid sb
  have h1 := sa.lo
  have h8 := sa.hi
  clear sa sb
  have LA := Lib.hid la
  have YA := Lib.hid ya
  clear ya
  have LB := Lib.hid lb
  have YB := Lib.hid yb
  clear yb
  go_enter Try.func14, Try.ntmps14
  have RA := Lib.hid (((Row8.place w .u8 a 23 w.heap.size rfl la).alloc (.cells #[.int .u8 (at8 b 0), .int .u8 (at8 b 1), .int .u8 (at8 b 2), .int .u8 (at8 b 3), .int .u8 (at8 b 4), .int .u8 (at8 b 5), .int .u8 (at8 b 6), .int .u8 (at8 b 7)] 23)).alloc (.cells #[.int .u8 0, .int .u8 0, .int .u8 0, .int .u8 0, .int .u8 0, .int .u8 0, .int .u8 0, .int .u8 0] 23))
  have RB := Lib.hid ((Row8.place (w.alloc (.cells #[.int .u8 (at8 a 0), .int .u8 (at8 a 1), .int .u8 (at8 a 2), .int .u8 (at8 a 3), .int .u8 (at8 a 4), .int .u8 (at8 a 5), .int .u8 (at8 a 6), .int .u8 (at8 a 7)] 23)) .u8 b 23 (w.heap.size + 1) (by simp) lb).alloc (.cells #[.int .u8 0, .int .u8 0, .int .u8 0, .int .u8 0, .int .u8 0, .int .u8 0, .int .u8 0, .int .u8 0] 23))
  have RZ := Lib.hid (Row8.zeros ((w.alloc (.cells #[.int .u8 (at8 a 0), .int .u8 (at8 a 1), .int .u8 (at8 a 2), .int .u8 (at8 a 3), .int .u8 (at8 a 4), .int .u8 (at8 a 5), .int .u8 (at8 a 6), .int .u8 (at8 a 7)] 23)).alloc (.cells #[.int .u8 (at8 b 0), .int .u8 (at8 b 1), .int .u8 (at8 b 2), .int .u8 (at8 b 3), .int .u8 (at8 b 4), .int .u8 (at8 b 5), .int .u8 (at8 b 6), .int .u8 (at8 b 7)] 23)) .u8 23 (w.heap.size + 1 + 1) (by simp))
  have BB := Lib.hid (below3 w (.cells #[.int .u8 (at8 a 0), .int .u8 (at8 a 1), .int .u8 (at8 a 2), .int .u8 (at8 a 3), .int .u8 (at8 a 4), .int .u8 (at8 a 5), .int .u8 (at8 a 6), .int .u8 (at8 a 7)] 23) (.cells #[.int .u8 (at8 b 0), .int .u8 (at8 b 1), .int .u8 (at8 b 2), .int .u8 (at8 b 3), .int .u8 (at8 b 4), .int .u8 (at8 b 5), .int .u8 (at8 b 6), .int .u8 (at8 b 7)] 23) (.cells #[.int .u8 0, .int .u8 0, .int .u8 0, .int .u8 0, .int .u8 0, .int .u8 0, .int .u8 0, .int .u8 0] 23))
  clear la lb
  obtain ⟨⟨qRA0, qRA1, qRA2, qRA3⟩, qRA4, qRA5, qRA6, qRA7⟩ := RA.out.all
  obtain ⟨⟨qRB0, qRB1, qRB2, qRB3⟩, qRB4, qRB5, qRB6, qRB7⟩ := RB.out.all
  go_wp2_with fail
  refine (l02Both_yes _ a b LA.out LB.out YA.out YB.out HA HB _).mono ?_
  rintro e w2 ⟨rfl, hb⟩
  clear qRA0 qRA1 qRA2 qRA3 qRA4 qRA5 qRA6 qRA7 qRB0 qRB1 qRB2 qRB3 qRB4 qRB5 qRB6 qRB7
  replace RA := Lib.hid (RA.out.below hb)
  replace RB := Lib.hid (RB.out.below hb)
  replace RZ := Lib.hid (RZ.out.below hb)
  replace BB := Lib.hid (below_go BB.out hb BB.out.size)
  clear hb
  obtain ⟨⟨qRA0, qRA1, qRA2, qRA3⟩, qRA4, qRA5, qRA6, qRA7⟩ := RA.out.all
  obtain ⟨⟨qRB0, qRB1, qRB2, qRB3⟩, qRB4, qRB5, qRB6, qRB7⟩ := RB.out.all
  go_wp2_with fail
  refine (l02Meet_any n a b SA.out SB.out _).mono ?_
  rintro e w4 ⟨rfl, hb⟩
  clear qRA0 qRA1 qRA2 qRA3 qRA4 qRA5 qRA6 qRA7 qRB0 qRB1 qRB2 qRB3 qRB4 qRB5 qRB6 qRB7
  replace RA := Lib.hid (RA.out.below hb)
  replace RB := Lib.hid (RB.out.below hb)
  replace RZ := Lib.hid (RZ.out.below hb)
  replace BB := Lib.hid (below_go BB.out hb BB.out.size)
  clear hb
  obtain ⟨⟨d0, d1, d2, d3⟩, d4, d5, d6, d7⟩ := RZ.out.all
  obtain ⟨⟨f0, f1, f2, f3⟩, f4, f5, f6, f7⟩ := RZ.out.frees
  have zq := RZ.out.lt
  go_wp2
  obtain ⟨⟨e0, e1, e2, e3⟩, e4, e5, e6, e7⟩ := (RZ.out.fill (exsR n (takeR n [a, b])) (exsR_len8 _ _ h8)).all
  refine bodyPost_ret (v := .tuple #[arr8 .u8 (exsR n (takeR n [a, b])), .int .i64 0]) (by simp [results, Try.results14, go_sem, e0, e1, e2, e3, e4, e5, e6, e7]) rfl ⟨rfl, ?_⟩
  exact below_fill8 BB.out _ (by omega) _ _ _ _ _ _ _ _

theorem specMeetOf_any (n : Int) (a : List Int) (la : a.length = 8) (ya : Bytes8 a) (b : List Int) (lb : b.length = 8) (yb : Bytes8 b) (r : List Int) (c : Int) (hM : mMeetOf n a b = (r, c)) (w : World) :
    Calls Try.prog 14 #[arr8 .u8 a, arr8 .u8 b, .int .i64 n] w (fun e w' => e = .returned (.tuple #[arr8 .u8 (r), .int .i64 c]) ∧ Below w.heap.size w w') := by
    by_cases h : (simB n a && simB n b) = true
    · simp only [mMeetOf, if_pos h, Prod.mk.injEq] at hM
      obtain ⟨rfl, rfl⟩ := hM
      rw [Bool.and_eq_true] at h
      obtain ⟨k, hk, hs⟩ := (simB_iff n a la).1 h.1
      obtain ⟨k2, hk2, hs2⟩ := (simB_iff n b lb).1 h.2
      have : k2 = k := by omega
      subst this
      subst hk
      rw [Int.toNat_natCast]
      exact specMeetOf_yes k2 a la ya b lb yb hs hs2 w
    · have h0 : (simB n a && simB n b) = false := by simpa using h
      simp only [mMeetOf, if_neg h, Prod.mk.injEq] at hM
      obtain ⟨rfl, rfl⟩ := hM
      cases ha : simB n a with
      | false => exact specMeetOf_no1 n a la ya b lb yb (Lib.hid ha) w
      | true => exact specMeetOf_no2 n a la ya b lb yb (Lib.hid ha) (Lib.hid (by rw [ha, Bool.true_and] at h0; exact h0)) w

set_option maxRecDepth 100000 in
set_option maxHeartbeats 1000000 in
theorem implMeetOf_no1 (n : Int) (a : List Int) (la : a.length = 8) (ya : Bytes8 a) (b : List Int) (lb : b.length = 8) (yb : Bytes8 b) (HA : Hid (simB n a = false)) (w : World) :
    Calls Try.prog 15 #[arr8 .u8 a, arr8 .u8 b, .int .i64 n] w (fun e w' => e = .returned (.tuple #[arr8 .u8 (zeros8), .int .i64 1]) ∧ Below w.heap.size w w') := by
  have LA := Lib.hid la
  have YA := Lib.hid ya
  clear ya
  have LB := Lib.hid lb
  have YB := Lib.hid yb
  clear yb
  go_enter Try.func15, Try.ntmps15
  have RA := Lib.hid (((Row8.place w .u8 a 23 w.heap.size rfl la).alloc (.cells #[.int .u8 (at8 b 0), .int .u8 (at8 b 1), .int .u8 (at8 b 2), .int .u8 (at8 b 3), .int .u8 (at8 b 4), .int .u8 (at8 b 5), .int .u8 (at8 b 6), .int .u8 (at8 b 7)] 23)).alloc (.cells #[.int .u8 0, .int .u8 0, .int .u8 0, .int .u8 0, .int .u8 0, .int .u8 0, .int .u8 0, .int .u8 0] 23))
  have RB := Lib.hid ((Row8.place (w.alloc (.cells #[.int .u8 (at8 a 0), .int .u8 (at8 a 1), .int .u8 (at8 a 2), .int .u8 (at8 a 3), .int .u8 (at8 a 4), .int .u8 (at8 a 5), .int .u8 (at8 a 6), .int .u8 (at8 a 7)] 23)) .u8 b 23 (w.heap.size + 1) (by simp) lb).alloc (.cells #[.int .u8 0, .int .u8 0, .int .u8 0, .int .u8 0, .int .u8 0, .int .u8 0, .int .u8 0, .int .u8 0] 23))
  have RZ := Lib.hid (Row8.zeros ((w.alloc (.cells #[.int .u8 (at8 a 0), .int .u8 (at8 a 1), .int .u8 (at8 a 2), .int .u8 (at8 a 3), .int .u8 (at8 a 4), .int .u8 (at8 a 5), .int .u8 (at8 a 6), .int .u8 (at8 a 7)] 23)).alloc (.cells #[.int .u8 (at8 b 0), .int .u8 (at8 b 1), .int .u8 (at8 b 2), .int .u8 (at8 b 3), .int .u8 (at8 b 4), .int .u8 (at8 b 5), .int .u8 (at8 b 6), .int .u8 (at8 b 7)] 23)) .u8 23 (w.heap.size + 1 + 1) (by simp))
  have BB := Lib.hid (below3 w (.cells #[.int .u8 (at8 a 0), .int .u8 (at8 a 1), .int .u8 (at8 a 2), .int .u8 (at8 a 3), .int .u8 (at8 a 4), .int .u8 (at8 a 5), .int .u8 (at8 a 6), .int .u8 (at8 a 7)] 23) (.cells #[.int .u8 (at8 b 0), .int .u8 (at8 b 1), .int .u8 (at8 b 2), .int .u8 (at8 b 3), .int .u8 (at8 b 4), .int .u8 (at8 b 5), .int .u8 (at8 b 6), .int .u8 (at8 b 7)] 23) (.cells #[.int .u8 0, .int .u8 0, .int .u8 0, .int .u8 0, .int .u8 0, .int .u8 0, .int .u8 0, .int .u8 0] 23))
  clear la lb
  obtain ⟨⟨qRA0, qRA1, qRA2, qRA3⟩, qRA4, qRA5, qRA6, qRA7⟩ := RA.out.all
  obtain ⟨⟨qRB0, qRB1, qRB2, qRB3⟩, qRB4, qRB5, qRB6, qRB7⟩ := RB.out.all
  go_wp2_with fail
  refine (isSimple_any _ a LA.out _).mono ?_
  rw [HA.out]
  rintro e w2 ⟨rfl, hb⟩
  clear qRA0 qRA1 qRA2 qRA3 qRA4 qRA5 qRA6 qRA7 qRB0 qRB1 qRB2 qRB3 qRB4 qRB5 qRB6 qRB7
  replace RA := Lib.hid (RA.out.below hb)
  replace RB := Lib.hid (RB.out.below hb)
  replace RZ := Lib.hid (RZ.out.below hb)
  replace BB := Lib.hid (below_go BB.out hb BB.out.size)
  clear hb
  obtain ⟨⟨d0, d1, d2, d3⟩, d4, d5, d6, d7⟩ := RZ.out.all
  obtain ⟨⟨f0, f1, f2, f3⟩, f4, f5, f6, f7⟩ := RZ.out.frees
  have zq := RZ.out.lt
  go_wp2
  obtain ⟨⟨e0, e1, e2, e3⟩, e4, e5, e6, e7⟩ := RZ.out.fillz
  refine bodyPost_ret (v := .tuple #[arr8 .u8 zeros8, .int .i64 1]) (by simp [results, Try.results15, go_sem, e0, e1, e2, e3, e4, e5, e6, e7, zeros8, at8]) rfl ⟨rfl, ?_⟩
  exact below_fill8 BB.out _ (by omega) _ _ _ _ _ _ _ _

set_option maxRecDepth 100000 in
set_option maxHeartbeats 1000000 in
theorem implMeetOf_no2 (n : Int) (a : List Int) (la : a.length = 8) (ya : Bytes8 a) (b : List Int) (lb : b.length = 8) (yb : Bytes8 b) (HA : Hid (simB n a = true)) (HB : Hid (simB n b = false)) (w : World) :
    Calls Try.prog 15 #[arr8 .u8 a, arr8 .u8 b, .int .i64 n] w (fun e w' => e = .returned (.tuple #[arr8 .u8 (zeros8), .int .i64 1]) ∧ Below w.heap.size w w') := by
  have LA := Lib.hid la
  have YA := Lib.hid ya
  clear ya
  have LB := Lib.hid lb
  have YB := Lib.hid yb
  clear yb
  go_enter Try.func15, Try.ntmps15
  have RA := Lib.hid (((Row8.place w .u8 a 23 w.heap.size rfl la).alloc (.cells #[.int .u8 (at8 b 0), .int .u8 (at8 b 1), .int .u8 (at8 b 2), .int .u8 (at8 b 3), .int .u8 (at8 b 4), .int .u8 (at8 b 5), .int .u8 (at8 b 6), .int .u8 (at8 b 7)] 23)).alloc (.cells #[.int .u8 0, .int .u8 0, .int .u8 0, .int .u8 0, .int .u8 0, .int .u8 0, .int .u8 0, .int .u8 0] 23))
  have RB := Lib.hid ((Row8.place (w.alloc (.cells #[.int .u8 (at8 a 0), .int .u8 (at8 a 1), .int .u8 (at8 a 2), .int .u8 (at8 a 3), .int .u8 (at8 a 4), .int .u8 (at8 a 5), .int .u8 (at8 a 6), .int .u8 (at8 a 7)] 23)) .u8 b 23 (w.heap.size + 1) (by simp) lb).alloc (.cells #[.int .u8 0, .int .u8 0, .int .u8 0, .int .u8 0, .int .u8 0, .int .u8 0, .int .u8 0, .int .u8 0] 23))
  have RZ := Lib.hid (Row8.zeros ((w.alloc (.cells #[.int .u8 (at8 a 0), .int .u8 (at8 a 1), .int .u8 (at8 a 2), .int .u8 (at8 a 3), .int .u8 (at8 a 4), .int .u8 (at8 a 5), .int .u8 (at8 a 6), .int .u8 (at8 a 7)] 23)).alloc (.cells #[.int .u8 (at8 b 0), .int .u8 (at8 b 1), .int .u8 (at8 b 2), .int .u8 (at8 b 3), .int .u8 (at8 b 4), .int .u8 (at8 b 5), .int .u8 (at8 b 6), .int .u8 (at8 b 7)] 23)) .u8 23 (w.heap.size + 1 + 1) (by simp))
  have BB := Lib.hid (below3 w (.cells #[.int .u8 (at8 a 0), .int .u8 (at8 a 1), .int .u8 (at8 a 2), .int .u8 (at8 a 3), .int .u8 (at8 a 4), .int .u8 (at8 a 5), .int .u8 (at8 a 6), .int .u8 (at8 a 7)] 23) (.cells #[.int .u8 (at8 b 0), .int .u8 (at8 b 1), .int .u8 (at8 b 2), .int .u8 (at8 b 3), .int .u8 (at8 b 4), .int .u8 (at8 b 5), .int .u8 (at8 b 6), .int .u8 (at8 b 7)] 23) (.cells #[.int .u8 0, .int .u8 0, .int .u8 0, .int .u8 0, .int .u8 0, .int .u8 0, .int .u8 0, .int .u8 0] 23))
  clear la lb
  obtain ⟨⟨qRA0, qRA1, qRA2, qRA3⟩, qRA4, qRA5, qRA6, qRA7⟩ := RA.out.all
  obtain ⟨⟨qRB0, qRB1, qRB2, qRB3⟩, qRB4, qRB5, qRB6, qRB7⟩ := RB.out.all
  go_wp2_with fail
  refine (isSimple_any _ a LA.out _).mono ?_
  rw [HA.out]
  rintro e w2 ⟨rfl, hb⟩
  clear qRA0 qRA1 qRA2 qRA3 qRA4 qRA5 qRA6 qRA7 qRB0 qRB1 qRB2 qRB3 qRB4 qRB5 qRB6 qRB7
  replace RA := Lib.hid (RA.out.below hb)
  replace RB := Lib.hid (RB.out.below hb)
  replace RZ := Lib.hid (RZ.out.below hb)
  replace BB := Lib.hid (below_go BB.out hb BB.out.size)
  clear hb
  obtain ⟨⟨qRA0, qRA1, qRA2, qRA3⟩, qRA4, qRA5, qRA6, qRA7⟩ := RA.out.all
  obtain ⟨⟨qRB0, qRB1, qRB2, qRB3⟩, qRB4, qRB5, qRB6, qRB7⟩ := RB.out.all
  go_wp2_with fail
  refine (isSimple_any _ b LB.out _).mono ?_
  rw [HB.out]
  rintro e w4 ⟨rfl, hb⟩
  clear qRA0 qRA1 qRA2 qRA3 qRA4 qRA5 qRA6 qRA7 qRB0 qRB1 qRB2 qRB3 qRB4 qRB5 qRB6 qRB7
  replace RA := Lib.hid (RA.out.below hb)
  replace RB := Lib.hid (RB.out.below hb)
  replace RZ := Lib.hid (RZ.out.below hb)
  replace BB := Lib.hid (below_go BB.out hb BB.out.size)
  clear hb
  obtain ⟨⟨d0, d1, d2, d3⟩, d4, d5, d6, d7⟩ := RZ.out.all
  obtain ⟨⟨f0, f1, f2, f3⟩, f4, f5, f6, f7⟩ := RZ.out.frees
  have zq := RZ.out.lt
  go_wp2
  obtain ⟨⟨e0, e1, e2, e3⟩, e4, e5, e6, e7⟩ := RZ.out.fillz
  refine bodyPost_ret (v := .tuple #[arr8 .u8 zeros8, .int .i64 1]) (by simp [results, Try.results15, go_sem, e0, e1, e2, e3, e4, e5, e6, e7, zeros8, at8]) rfl ⟨rfl, ?_⟩
  exact below_fill8 BB.out _ (by omega) _ _ _ _ _ _ _ _

set_option maxRecDepth 100000 in
set_option maxHeartbeats 1000000 in
theorem implMeetOf_yes (n : Nat) (a : List Int) (la : a.length = 8) (ya : Bytes8 a) (b : List Int) (lb : b.length = 8) (yb : Bytes8 b) (sa : Sim n a) (sb : Sim n b) (w : World) :
    Calls Try.prog 15 #[arr8 .u8 a, arr8 .u8 b, .int .i64 n] w (fun e w' => e = .returned (.tuple #[arr8 .u8 ((exsR n (takeR n [a, b]))), .int .i64 0]) ∧ Below w.heap.size w w') := by
  have HA := Lib.hid ((simB_iff _ _ la).2 ⟨n, rfl, sa⟩)
  have SA := Lib.hid sa
  have HB := Lib.hid ((simB_iff _ _ lb).2 ⟨n, rfl, sb⟩)
  have SB := Lib.hid sb
  have h1 := sa.lo
  have h8 := sa.hi
  clear sa sb
  have LA := Lib.hid la
  have YA := Lib.hid ya
  clear ya
  have LB := Lib.hid lb
  have YB := Lib.hid yb
  clear yb
  go_enter Try.func15, Try.ntmps15
  have RA := Lib.hid (((Row8.place w .u8 a 23 w.heap.size rfl la).alloc (.cells #[.int .u8 (at8 b 0), .int .u8 (at8 b 1), .int .u8 (at8 b 2), .int .u8 (at8 b 3), .int .u8 (at8 b 4), .int .u8 (at8 b 5), .int .u8 (at8 b 6), .int .u8 (at8 b 7)] 23)).alloc (.cells #[.int .u8 0, .int .u8 0, .int .u8 0, .int .u8 0, .int .u8 0, .int .u8 0, .int .u8 0, .int .u8 0] 23))
  have RB := Lib.hid ((Row8.place (w.alloc (.cells #[.int .u8 (at8 a 0), .int .u8 (at8 a 1), .int .u8 (at8 a 2), .int .u8 (at8 a 3), .int .u8 (at8 a 4), .int .u8 (at8 a 5), .int .u8 (at8 a 6), .int .u8 (at8 a 7)] 23)) .u8 b 23 (w.heap.size + 1) (by simp) lb).alloc (.cells #[.int .u8 0, .int .u8 0, .int .u8 0, .int .u8 0, .int .u8 0, .int .u8 0, .int .u8 0, .int .u8 0] 23))
  have RZ := Lib.hid (Row8.zeros ((w.alloc (.cells #[.int .u8 (at8 a 0), .int .u8 (at8 a 1), .int .u8 (at8 a 2), .int .u8 (at8 a 3), .int .u8 (at8 a 4), .int .u8 (at8 a 5), .int .u8 (at8 a 6), .int .u8 (at8 a 7)] 23)).alloc (.cells #[.int .u8 (at8 b 0), .int .u8 (at8 b 1), .int .u8 (at8 b 2), .int .u8 (at8 b 3), .int .u8 (at8 b 4), .int .u8 (at8 b 5), .int .u8 (at8 b 6), .int .u8 (at8 b 7)] 23)) .u8 23 (w.heap.size + 1 + 1) (by simp))
  have BB := Lib.hid (below3 w (.cells #[.int .u8 (at8 a 0), .int .u8 (at8 a 1), .int .u8 (at8 a 2), .int .u8 (at8 a 3), .int .u8 (at8 a 4), .int .u8 (at8 a 5), .int .u8 (at8 a 6), .int .u8 (at8 a 7)] 23) (.cells #[.int .u8 (at8 b 0), .int .u8 (at8 b 1), .int .u8 (at8 b 2), .int .u8 (at8 b 3), .int .u8 (at8 b 4), .int .u8 (at8 b 5), .int .u8 (at8 b 6), .int .u8 (at8 b 7)] 23) (.cells #[.int .u8 0, .int .u8 0, .int .u8 0, .int .u8 0, .int .u8 0, .int .u8 0, .int .u8 0, .int .u8 0] 23))
  clear la lb
  obtain ⟨⟨qRA0, qRA1, qRA2, qRA3⟩, qRA4, qRA5, qRA6, qRA7⟩ := RA.out.all
  obtain ⟨⟨qRB0, qRB1, qRB2, qRB3⟩, qRB4, qRB5, qRB6, qRB7⟩ := RB.out.all
  go_wp2_with fail
  refine (isSimple_any _ a LA.out _).mono ?_
  rw [HA.out]
  rintro e w2 ⟨rfl, hb⟩
  clear qRA0 qRA1 qRA2 qRA3 qRA4 qRA5 qRA6 qRA7 qRB0 qRB1 qRB2 qRB3 qRB4 qRB5 qRB6 qRB7
  replace RA := Lib.hid (RA.out.below hb)
  replace RB := Lib.hid (RB.out.below hb)
  replace RZ := Lib.hid (RZ.out.below hb)
  replace BB := Lib.hid (below_go BB.out hb BB.out.size)
  clear hb
  obtain ⟨⟨qRA0, qRA1, qRA2, qRA3⟩, qRA4, qRA5, qRA6, qRA7⟩ := RA.out.all
  obtain ⟨⟨qRB0, qRB1, qRB2, qRB3⟩, qRB4, qRB5, qRB6, qRB7⟩ := RB.out.all
  go_wp2_with fail
  refine (isSimple_any _ b LB.out _).mono ?_
  rw [HB.out]
  rintro e w4 ⟨rfl, hb⟩
  clear qRA0 qRA1 qRA2 qRA3 qRA4 qRA5 qRA6 qRA7 qRB0 qRB1 qRB2 qRB3 qRB4 qRB5 qRB6 qRB7
  replace RA := Lib.hid (RA.out.below hb)
  replace RB := Lib.hid (RB.out.below hb)
  replace RZ := Lib.hid (RZ.out.below hb)
  replace BB := Lib.hid (below_go BB.out hb BB.out.size)
  clear hb
  obtain ⟨⟨qRA0, qRA1, qRA2, qRA3⟩, qRA4, qRA5, qRA6, qRA7⟩ := RA.out.all
  obtain ⟨⟨qRB0, qRB1, qRB2, qRB3⟩, qRB4, qRB5, qRB6, qRB7⟩ := RB.out.all
  go_wp2_with fail
  refine (meet_any n a b SA.out SB.out _).mono ?_
  rintro e w6 ⟨rfl, hb⟩
  clear qRA0 qRA1 qRA2 qRA3 qRA4 qRA5 qRA6 qRA7 qRB0 qRB1 qRB2 qRB3 qRB4 qRB5 qRB6 qRB7
  replace RA := Lib.hid (RA.out.below hb)
  replace RB := Lib.hid (RB.out.below hb)
  replace RZ := Lib.hid (RZ.out.below hb)
  replace BB := Lib.hid (below_go BB.out hb BB.out.size)
  clear hb
  obtain ⟨⟨d0, d1, d2, d3⟩, d4, d5, d6, d7⟩ := RZ.out.all
  obtain ⟨⟨f0, f1, f2, f3⟩, f4, f5, f6, f7⟩ := RZ.out.frees
  have zq := RZ.out.lt
  go_wp2
  obtain ⟨⟨e0, e1, e2, e3⟩, e4, e5, e6, e7⟩ := (RZ.out.fill (exsR n (takeR n [a, b])) (exsR_len8 _ _ h8)).all
  refine bodyPost_ret (v := .tuple #[arr8 .u8 (exsR n (takeR n [a, b])), .int .i64 0]) (by simp [results, Try.results15, go_sem, e0, e1, e2, e3, e4, e5, e6, e7]) rfl ⟨rfl, ?_⟩
  exact below_fill8 BB.out _ (by omega) _ _ _ _ _ _ _ _

theorem implMeetOf_any (n : Int) (a : List Int) (la : a.length = 8) (ya : Bytes8 a) (b : List Int) (lb : b.length = 8) (yb : Bytes8 b) (r : List Int) (c : Int) (hM : mMeetOf n a b = (r, c)) (w : World) :
    Calls Try.prog 15 #[arr8 .u8 a, arr8 .u8 b, .int .i64 n] w (fun e w' => e = .returned (.tuple #[arr8 .u8 (r), .int .i64 c]) ∧ Below w.heap.size w w') := by
    by_cases h : (simB n a && simB n b) = true
    · simp only [mMeetOf, if_pos h, Prod.mk.injEq] at hM
      obtain ⟨rfl, rfl⟩ := hM
      rw [Bool.and_eq_true] at h
      obtain ⟨k, hk, hs⟩ := (simB_iff n a la).1 h.1
      obtain ⟨k2, hk2, hs2⟩ := (simB_iff n b lb).1 h.2
      have : k2 = k := by omega
      subst this
      subst hk
      rw [Int.toNat_natCast]
      exact implMeetOf_yes k2 a la ya b lb yb hs hs2 w
    · have h0 : (simB n a && simB n b) = false := by simpa using h
      simp only [mMeetOf, if_neg h, Prod.mk.injEq] at hM
      obtain ⟨rfl, rfl⟩ := hM
      cases ha : simB n a with
      | false => exact implMeetOf_no1 n a la ya b lb yb (Lib.hid ha) w
      | true => exact implMeetOf_no2 n a la ya b lb yb (Lib.hid ha) (Lib.hid (by rw [ha, Bool.true_and] at h0; exact h0)) w

end Go.Proofs.Ytinflgcpkeomlab
