/- IsShort: the model's answer, the program's. -/
import Derived.Test.YtinflgcpkeomlaaSBoth
import Derived.Test.YtinflgcpkeomlaaIIs
import Derived.Test.YtinflgcpkeomlaaIRows
import Derived.Test.YtinflgcpkeomlaaSThen
import Derived.Test.YtinflgcpkeomlaaSLen
import Derived.Test.YtinflgcpkeomlaaILen
import Derived.Deep.RegionHeld3
import Derived.IntWalk
namespace Go.Proofs.Ytinflgcpkeomlaa
open Go.RowKit Go.ChangeShapes

/-- What IsShort gives. -/
def mIsShort (n : Int) (a b : List Int) : Bool × Int := if (simB n a && simB n b) = true then (lenR (thenR n.toNat a b) n.toNat == lenR a n.toNat + lenR b n.toNat, 0) else (false, 1)

set_option maxRecDepth 100000 in
set_option maxHeartbeats 1000000 in
theorem specIsShort_no1 (n : Int) (a : List Int) (la : a.length = 8) (ya : Bytes8 a) (b : List Int) (lb : b.length = 8) (yb : Bytes8 b) (HA : Hid (simB n a = false)) (w : World) :
    Calls Try.prog 36 #[arr8 .u8 a, arr8 .u8 b, .int .i64 n] w (fun e w' => e = .returned (.tuple #[.bool (false), .int .i64 1]) ∧ Below w.heap.size w w') := by
  have LA := Lib.hid la
  have YA := Lib.hid ya
  clear ya
  have LB := Lib.hid lb
  have YB := Lib.hid yb
  clear yb
  go_enter Try.func36, Try.ntmps36
  have RA := Lib.hid ((Row8.place w .u8 a 40 w.heap.size rfl la).alloc (.cells #[.int .u8 (at8 b 0), .int .u8 (at8 b 1), .int .u8 (at8 b 2), .int .u8 (at8 b 3), .int .u8 (at8 b 4), .int .u8 (at8 b 5), .int .u8 (at8 b 6), .int .u8 (at8 b 7)] 40))
  have RB := Lib.hid (Row8.place (w.alloc (.cells #[.int .u8 (at8 a 0), .int .u8 (at8 a 1), .int .u8 (at8 a 2), .int .u8 (at8 a 3), .int .u8 (at8 a 4), .int .u8 (at8 a 5), .int .u8 (at8 a 6), .int .u8 (at8 a 7)] 40)) .u8 b 40 (w.heap.size + 1) (by simp) lb)
  have BB := Lib.hid (below2 w (.cells #[.int .u8 (at8 a 0), .int .u8 (at8 a 1), .int .u8 (at8 a 2), .int .u8 (at8 a 3), .int .u8 (at8 a 4), .int .u8 (at8 a 5), .int .u8 (at8 a 6), .int .u8 (at8 a 7)] 40) (.cells #[.int .u8 (at8 b 0), .int .u8 (at8 b 1), .int .u8 (at8 b 2), .int .u8 (at8 b 3), .int .u8 (at8 b 4), .int .u8 (at8 b 5), .int .u8 (at8 b 6), .int .u8 (at8 b 7)] 40))
  clear la lb
  obtain ⟨⟨qRA0, qRA1, qRA2, qRA3⟩, qRA4, qRA5, qRA6, qRA7⟩ := RA.out.all
  obtain ⟨⟨qRB0, qRB1, qRB2, qRB3⟩, qRB4, qRB5, qRB6, qRB7⟩ := RB.out.all
  go_wp2_with fail
  refine (l02Both_no1 _ a b LA.out LB.out YA.out YB.out HA _).mono ?_
  rintro e w2 ⟨rfl, hb⟩
  clear qRA0 qRA1 qRA2 qRA3 qRA4 qRA5 qRA6 qRA7 qRB0 qRB1 qRB2 qRB3 qRB4 qRB5 qRB6 qRB7
  replace RA := Lib.hid (RA.out.below hb)
  replace RB := Lib.hid (RB.out.below hb)
  replace BB := Lib.hid (below_go BB.out hb BB.out.size)
  clear hb
  go_wp2
  go_ret2
  exact ⟨rfl, BB.out⟩

set_option maxRecDepth 100000 in
set_option maxHeartbeats 1000000 in
theorem specIsShort_no2 (n : Int) (a : List Int) (la : a.length = 8) (ya : Bytes8 a) (b : List Int) (lb : b.length = 8) (yb : Bytes8 b) (HA : Hid (simB n a = true)) (HB : Hid (simB n b = false)) (w : World) :
    Calls Try.prog 36 #[arr8 .u8 a, arr8 .u8 b, .int .i64 n] w (fun e w' => e = .returned (.tuple #[.bool (false), .int .i64 1]) ∧ Below w.heap.size w w') := by
  have LA := Lib.hid la
  have YA := Lib.hid ya
  clear ya
  have LB := Lib.hid lb
  have YB := Lib.hid yb
  clear yb
  go_enter Try.func36, Try.ntmps36
  have RA := Lib.hid ((Row8.place w .u8 a 40 w.heap.size rfl la).alloc (.cells #[.int .u8 (at8 b 0), .int .u8 (at8 b 1), .int .u8 (at8 b 2), .int .u8 (at8 b 3), .int .u8 (at8 b 4), .int .u8 (at8 b 5), .int .u8 (at8 b 6), .int .u8 (at8 b 7)] 40))
  have RB := Lib.hid (Row8.place (w.alloc (.cells #[.int .u8 (at8 a 0), .int .u8 (at8 a 1), .int .u8 (at8 a 2), .int .u8 (at8 a 3), .int .u8 (at8 a 4), .int .u8 (at8 a 5), .int .u8 (at8 a 6), .int .u8 (at8 a 7)] 40)) .u8 b 40 (w.heap.size + 1) (by simp) lb)
  have BB := Lib.hid (below2 w (.cells #[.int .u8 (at8 a 0), .int .u8 (at8 a 1), .int .u8 (at8 a 2), .int .u8 (at8 a 3), .int .u8 (at8 a 4), .int .u8 (at8 a 5), .int .u8 (at8 a 6), .int .u8 (at8 a 7)] 40) (.cells #[.int .u8 (at8 b 0), .int .u8 (at8 b 1), .int .u8 (at8 b 2), .int .u8 (at8 b 3), .int .u8 (at8 b 4), .int .u8 (at8 b 5), .int .u8 (at8 b 6), .int .u8 (at8 b 7)] 40))
  clear la lb
  obtain ⟨⟨qRA0, qRA1, qRA2, qRA3⟩, qRA4, qRA5, qRA6, qRA7⟩ := RA.out.all
  obtain ⟨⟨qRB0, qRB1, qRB2, qRB3⟩, qRB4, qRB5, qRB6, qRB7⟩ := RB.out.all
  go_wp2_with fail
  refine (l02Both_no2 _ a b LA.out LB.out YA.out YB.out HA HB _).mono ?_
  rintro e w2 ⟨rfl, hb⟩
  clear qRA0 qRA1 qRA2 qRA3 qRA4 qRA5 qRA6 qRA7 qRB0 qRB1 qRB2 qRB3 qRB4 qRB5 qRB6 qRB7
  replace RA := Lib.hid (RA.out.below hb)
  replace RB := Lib.hid (RB.out.below hb)
  replace BB := Lib.hid (below_go BB.out hb BB.out.size)
  clear hb
  go_wp2
  go_ret2
  exact ⟨rfl, BB.out⟩

set_option maxRecDepth 100000 in
set_option maxHeartbeats 1000000 in
theorem specIsShort_yes (n : Nat) (a : List Int) (la : a.length = 8) (ya : Bytes8 a) (b : List Int) (lb : b.length = 8) (yb : Bytes8 b) (sa : Sim n a) (sb : Sim n b) (w : World) :
    Calls Try.prog 36 #[arr8 .u8 a, arr8 .u8 b, .int .i64 n] w (fun e w' => e = .returned (.tuple #[.bool ((lenR (thenR n a b) n == lenR a n + lenR b n)), .int .i64 0]) ∧ Below w.heap.size w w') := by
  have HA := Lib.hid ((simB_iff _ _ la).2 ⟨n, rfl, sa⟩)
  have SA := Lib.hid sa
  have HB := Lib.hid ((simB_iff _ _ lb).2 ⟨n, rfl, sb⟩)
  have SB := Lib.hid sb
  have h1 := sa.lo
  have h8 := sa.hi
  clear sa sb
  have LA := Lib.hid la
  have YA := Lib.hid ya
  clear ya
  have LB := Lib.hid lb
  have YB := Lib.hid yb
  clear yb
  go_enter Try.func36, Try.ntmps36
  have RA := Lib.hid ((Row8.place w .u8 a 40 w.heap.size rfl la).alloc (.cells #[.int .u8 (at8 b 0), .int .u8 (at8 b 1), .int .u8 (at8 b 2), .int .u8 (at8 b 3), .int .u8 (at8 b 4), .int .u8 (at8 b 5), .int .u8 (at8 b 6), .int .u8 (at8 b 7)] 40))
  have RB := Lib.hid (Row8.place (w.alloc (.cells #[.int .u8 (at8 a 0), .int .u8 (at8 a 1), .int .u8 (at8 a 2), .int .u8 (at8 a 3), .int .u8 (at8 a 4), .int .u8 (at8 a 5), .int .u8 (at8 a 6), .int .u8 (at8 a 7)] 40)) .u8 b 40 (w.heap.size + 1) (by simp) lb)
  have BB := Lib.hid (below2 w (.cells #[.int .u8 (at8 a 0), .int .u8 (at8 a 1), .int .u8 (at8 a 2), .int .u8 (at8 a 3), .int .u8 (at8 a 4), .int .u8 (at8 a 5), .int .u8 (at8 a 6), .int .u8 (at8 a 7)] 40) (.cells #[.int .u8 (at8 b 0), .int .u8 (at8 b 1), .int .u8 (at8 b 2), .int .u8 (at8 b 3), .int .u8 (at8 b 4), .int .u8 (at8 b 5), .int .u8 (at8 b 6), .int .u8 (at8 b 7)] 40))
  clear la lb
  obtain ⟨⟨qRA0, qRA1, qRA2, qRA3⟩, qRA4, qRA5, qRA6, qRA7⟩ := RA.out.all
  obtain ⟨⟨qRB0, qRB1, qRB2, qRB3⟩, qRB4, qRB5, qRB6, qRB7⟩ := RB.out.all
  go_wp2_with fail
  refine (l02Both_yes _ a b LA.out LB.out YA.out YB.out HA HB _).mono ?_
  rintro e w2 ⟨rfl, hb⟩
  clear qRA0 qRA1 qRA2 qRA3 qRA4 qRA5 qRA6 qRA7 qRB0 qRB1 qRB2 qRB3 qRB4 qRB5 qRB6 qRB7
  replace RA := Lib.hid (RA.out.below hb)
  replace RB := Lib.hid (RB.out.below hb)
  replace BB := Lib.hid (below_go BB.out hb BB.out.size)
  clear hb
  go_wp2
  have zb := BB.out.size
  have bt := lenR_bd (thenR n a b) n h8
  have ba := lenR_bd a n h8
  have bb := lenR_bd b n h8
  have hw1 : IntKind.i64.wrap (lenR a n + lenR b n) = lenR a n + lenR b n := IntWalk.i64_in _ (by omega)
  go_region_held3 (fun w' => (w'.cell? ⟨w.heap.size, 0, none⟩ = some (.int .u8 (at8 a 0)) ∧ w'.cell? ⟨w.heap.size, 1, none⟩ = some (.int .u8 (at8 a 1)) ∧ w'.cell? ⟨w.heap.size, 2, none⟩ = some (.int .u8 (at8 a 2)) ∧ w'.cell? ⟨w.heap.size, 3, none⟩ = some (.int .u8 (at8 a 3)) ∧ w'.cell? ⟨w.heap.size, 4, none⟩ = some (.int .u8 (at8 a 4)) ∧ w'.cell? ⟨w.heap.size, 5, none⟩ = some (.int .u8 (at8 a 5)) ∧ w'.cell? ⟨w.heap.size, 6, none⟩ = some (.int .u8 (at8 a 6)) ∧ w'.cell? ⟨w.heap.size, 7, none⟩ = some (.int .u8 (at8 a 7))) ∧ (w'.cell? ⟨w.heap.size + 1, 0, none⟩ = some (.int .u8 (at8 b 0)) ∧ w'.cell? ⟨w.heap.size + 1, 1, none⟩ = some (.int .u8 (at8 b 1)) ∧ w'.cell? ⟨w.heap.size + 1, 2, none⟩ = some (.int .u8 (at8 b 2)) ∧ w'.cell? ⟨w.heap.size + 1, 3, none⟩ = some (.int .u8 (at8 b 3)) ∧ w'.cell? ⟨w.heap.size + 1, 4, none⟩ = some (.int .u8 (at8 b 4)) ∧ w'.cell? ⟨w.heap.size + 1, 5, none⟩ = some (.int .u8 (at8 b 5)) ∧ w'.cell? ⟨w.heap.size + 1, 6, none⟩ = some (.int .u8 (at8 b 6)) ∧ w'.cell? ⟨w.heap.size + 1, 7, none⟩ = some (.int .u8 (at8 b 7)))) (first | with_reducible exact ⟨(RA.out.drew).flat, (RB.out.drew).flat⟩ | with_reducible exact ⟨(RA.out.drew.below h1).flat, (RB.out.drew.below h1).flat⟩ | with_reducible exact ⟨((RA.out.drew.below h1).below h2).flat, ((RB.out.drew.below h1).below h2).flat⟩ | with_reducible exact ⟨(((RA.out.drew.below h1).below h2).below h3).flat, (((RB.out.drew.below h1).below h2).below h3).flat⟩ | with_reducible exact ⟨((((RA.out.drew.below h1).below h2).below h3).below h4).flat, ((((RB.out.drew.below h1).below h2).below h3).below h4).flat⟩)
    (first
      | (go_at_call 68; refine (l02Then_any n h8 a b LA.out LB.out SA.out.wide _).mono ?_; rintro e w1 ⟨rfl, h1⟩)
      | (go_at_call_of 65 (thenR n a b); refine (l02Length_any n h8 (thenR n a b) (mapR_len _ _ h8) _).mono ?_; rintro e w2 ⟨rfl, h2⟩)
      | (go_at_call_of 65 (at8 a 0); refine (l02Length_any n h8 a LA.out _).mono ?_; rintro e w3 ⟨rfl, h3⟩)
      | (go_at_call_of 65 (at8 b 0); refine (l02Length_any n h8 b LB.out _).mono ?_; rintro e w4 ⟨rfl, h4⟩))
  clear hw1
  go_wp2
  go_ret2
  exact ⟨rfl, below_go (below_go (below_go (below_go BB.out.drew h1 zb) h2 (Nat.le_trans zb h1.size)) h3 (Nat.le_trans (Nat.le_trans zb h1.size) h2.size)) h4 (Nat.le_trans (Nat.le_trans (Nat.le_trans zb h1.size) h2.size) h3.size)⟩

theorem specIsShort_any (n : Int) (a : List Int) (la : a.length = 8) (ya : Bytes8 a) (b : List Int) (lb : b.length = 8) (yb : Bytes8 b) (r : Bool) (c : Int) (hM : mIsShort n a b = (r, c)) (w : World) :
    Calls Try.prog 36 #[arr8 .u8 a, arr8 .u8 b, .int .i64 n] w (fun e w' => e = .returned (.tuple #[.bool (r), .int .i64 c]) ∧ Below w.heap.size w w') := by
    by_cases h : (simB n a && simB n b) = true
    · simp only [mIsShort, if_pos h, Prod.mk.injEq] at hM
      obtain ⟨rfl, rfl⟩ := hM
      rw [Bool.and_eq_true] at h
      obtain ⟨k, hk, hs⟩ := (simB_iff n a la).1 h.1
      obtain ⟨k2, hk2, hs2⟩ := (simB_iff n b lb).1 h.2
      have : k2 = k := by omega
      subst this
      subst hk
      rw [Int.toNat_natCast]
      exact specIsShort_yes k2 a la ya b lb yb hs hs2 w
    · have h0 : (simB n a && simB n b) = false := by simpa using h
      simp only [mIsShort, if_neg h, Prod.mk.injEq] at hM
      obtain ⟨rfl, rfl⟩ := hM
      cases ha : simB n a with
      | false => exact specIsShort_no1 n a la ya b lb yb (Lib.hid ha) w
      | true => exact specIsShort_no2 n a la ya b lb yb (Lib.hid ha) (Lib.hid (by rw [ha, Bool.true_and] at h0; exact h0)) w

set_option maxRecDepth 100000 in
set_option maxHeartbeats 1000000 in
theorem implIsShort_no1 (n : Int) (a : List Int) (la : a.length = 8) (ya : Bytes8 a) (b : List Int) (lb : b.length = 8) (yb : Bytes8 b) (HA : Hid (simB n a = false)) (w : World) :
    Calls Try.prog 37 #[arr8 .u8 a, arr8 .u8 b, .int .i64 n] w (fun e w' => e = .returned (.tuple #[.bool (false), .int .i64 1]) ∧ Below w.heap.size w w') := by
  have LA := Lib.hid la
  have YA := Lib.hid ya
  clear ya
  have LB := Lib.hid lb
  have YB := Lib.hid yb
  clear yb
  go_enter Try.func37, Try.ntmps37
  have RA := Lib.hid ((Row8.place w .u8 a 40 w.heap.size rfl la).alloc (.cells #[.int .u8 (at8 b 0), .int .u8 (at8 b 1), .int .u8 (at8 b 2), .int .u8 (at8 b 3), .int .u8 (at8 b 4), .int .u8 (at8 b 5), .int .u8 (at8 b 6), .int .u8 (at8 b 7)] 40))
  have RB := Lib.hid (Row8.place (w.alloc (.cells #[.int .u8 (at8 a 0), .int .u8 (at8 a 1), .int .u8 (at8 a 2), .int .u8 (at8 a 3), .int .u8 (at8 a 4), .int .u8 (at8 a 5), .int .u8 (at8 a 6), .int .u8 (at8 a 7)] 40)) .u8 b 40 (w.heap.size + 1) (by simp) lb)
  have BB := Lib.hid (below2 w (.cells #[.int .u8 (at8 a 0), .int .u8 (at8 a 1), .int .u8 (at8 a 2), .int .u8 (at8 a 3), .int .u8 (at8 a 4), .int .u8 (at8 a 5), .int .u8 (at8 a 6), .int .u8 (at8 a 7)] 40) (.cells #[.int .u8 (at8 b 0), .int .u8 (at8 b 1), .int .u8 (at8 b 2), .int .u8 (at8 b 3), .int .u8 (at8 b 4), .int .u8 (at8 b 5), .int .u8 (at8 b 6), .int .u8 (at8 b 7)] 40))
  clear la lb
  obtain ⟨⟨qRA0, qRA1, qRA2, qRA3⟩, qRA4, qRA5, qRA6, qRA7⟩ := RA.out.all
  obtain ⟨⟨qRB0, qRB1, qRB2, qRB3⟩, qRB4, qRB5, qRB6, qRB7⟩ := RB.out.all
  go_wp2_with fail
  refine (isSimple_any _ a LA.out _).mono ?_
  rw [HA.out]
  rintro e w2 ⟨rfl, hb⟩
  clear qRA0 qRA1 qRA2 qRA3 qRA4 qRA5 qRA6 qRA7 qRB0 qRB1 qRB2 qRB3 qRB4 qRB5 qRB6 qRB7
  replace RA := Lib.hid (RA.out.below hb)
  replace RB := Lib.hid (RB.out.below hb)
  replace BB := Lib.hid (below_go BB.out hb BB.out.size)
  clear hb
  go_wp2
  go_ret2
  exact ⟨rfl, BB.out⟩

set_option maxRecDepth 100000 in
set_option maxHeartbeats 1000000 in
theorem implIsShort_no2 (n : Int) (a : List Int) (la : a.length = 8) (ya : Bytes8 a) (b : List Int) (lb : b.length = 8) (yb : Bytes8 b) (HA : Hid (simB n a = true)) (HB : Hid (simB n b = false)) (w : World) :
    Calls Try.prog 37 #[arr8 .u8 a, arr8 .u8 b, .int .i64 n] w (fun e w' => e = .returned (.tuple #[.bool (false), .int .i64 1]) ∧ Below w.heap.size w w') := by
  have LA := Lib.hid la
  have YA := Lib.hid ya
  clear ya
  have LB := Lib.hid lb
  have YB := Lib.hid yb
  clear yb
  go_enter Try.func37, Try.ntmps37
  have RA := Lib.hid ((Row8.place w .u8 a 40 w.heap.size rfl la).alloc (.cells #[.int .u8 (at8 b 0), .int .u8 (at8 b 1), .int .u8 (at8 b 2), .int .u8 (at8 b 3), .int .u8 (at8 b 4), .int .u8 (at8 b 5), .int .u8 (at8 b 6), .int .u8 (at8 b 7)] 40))
  have RB := Lib.hid (Row8.place (w.alloc (.cells #[.int .u8 (at8 a 0), .int .u8 (at8 a 1), .int .u8 (at8 a 2), .int .u8 (at8 a 3), .int .u8 (at8 a 4), .int .u8 (at8 a 5), .int .u8 (at8 a 6), .int .u8 (at8 a 7)] 40)) .u8 b 40 (w.heap.size + 1) (by simp) lb)
  have BB := Lib.hid (below2 w (.cells #[.int .u8 (at8 a 0), .int .u8 (at8 a 1), .int .u8 (at8 a 2), .int .u8 (at8 a 3), .int .u8 (at8 a 4), .int .u8 (at8 a 5), .int .u8 (at8 a 6), .int .u8 (at8 a 7)] 40) (.cells #[.int .u8 (at8 b 0), .int .u8 (at8 b 1), .int .u8 (at8 b 2), .int .u8 (at8 b 3), .int .u8 (at8 b 4), .int .u8 (at8 b 5), .int .u8 (at8 b 6), .int .u8 (at8 b 7)] 40))
  clear la lb
  obtain ⟨⟨qRA0, qRA1, qRA2, qRA3⟩, qRA4, qRA5, qRA6, qRA7⟩ := RA.out.all
  obtain ⟨⟨qRB0, qRB1, qRB2, qRB3⟩, qRB4, qRB5, qRB6, qRB7⟩ := RB.out.all
  go_wp2_with fail
  refine (isSimple_any _ a LA.out _).mono ?_
  rw [HA.out]
  rintro e w2 ⟨rfl, hb⟩
  clear qRA0 qRA1 qRA2 qRA3 qRA4 qRA5 qRA6 qRA7 qRB0 qRB1 qRB2 qRB3 qRB4 qRB5 qRB6 qRB7
  replace RA := Lib.hid (RA.out.below hb)
  replace RB := Lib.hid (RB.out.below hb)
  replace BB := Lib.hid (below_go BB.out hb BB.out.size)
  clear hb
  obtain ⟨⟨qRA0, qRA1, qRA2, qRA3⟩, qRA4, qRA5, qRA6, qRA7⟩ := RA.out.all
  obtain ⟨⟨qRB0, qRB1, qRB2, qRB3⟩, qRB4, qRB5, qRB6, qRB7⟩ := RB.out.all
  go_wp2_with fail
  refine (isSimple_any _ b LB.out _).mono ?_
  rw [HB.out]
  rintro e w4 ⟨rfl, hb⟩
  clear qRA0 qRA1 qRA2 qRA3 qRA4 qRA5 qRA6 qRA7 qRB0 qRB1 qRB2 qRB3 qRB4 qRB5 qRB6 qRB7
  replace RA := Lib.hid (RA.out.below hb)
  replace RB := Lib.hid (RB.out.below hb)
  replace BB := Lib.hid (below_go BB.out hb BB.out.size)
  clear hb
  go_wp2
  go_ret2
  exact ⟨rfl, BB.out⟩

set_option maxRecDepth 100000 in
set_option maxHeartbeats 1000000 in
theorem implIsShort_yes (n : Nat) (a : List Int) (la : a.length = 8) (ya : Bytes8 a) (b : List Int) (lb : b.length = 8) (yb : Bytes8 b) (sa : Sim n a) (sb : Sim n b) (w : World) :
    Calls Try.prog 37 #[arr8 .u8 a, arr8 .u8 b, .int .i64 n] w (fun e w' => e = .returned (.tuple #[.bool ((lenR (thenR n a b) n == lenR a n + lenR b n)), .int .i64 0]) ∧ Below w.heap.size w w') := by
  have HA := Lib.hid ((simB_iff _ _ la).2 ⟨n, rfl, sa⟩)
  have SA := Lib.hid sa
  have HB := Lib.hid ((simB_iff _ _ lb).2 ⟨n, rfl, sb⟩)
  have SB := Lib.hid sb
  have h1 := sa.lo
  have h8 := sa.hi
  clear sa sb
  have LA := Lib.hid la
  have YA := Lib.hid ya
  clear ya
  have LB := Lib.hid lb
  have YB := Lib.hid yb
  clear yb
  go_enter Try.func37, Try.ntmps37
  have RA := Lib.hid ((Row8.place w .u8 a 40 w.heap.size rfl la).alloc (.cells #[.int .u8 (at8 b 0), .int .u8 (at8 b 1), .int .u8 (at8 b 2), .int .u8 (at8 b 3), .int .u8 (at8 b 4), .int .u8 (at8 b 5), .int .u8 (at8 b 6), .int .u8 (at8 b 7)] 40))
  have RB := Lib.hid (Row8.place (w.alloc (.cells #[.int .u8 (at8 a 0), .int .u8 (at8 a 1), .int .u8 (at8 a 2), .int .u8 (at8 a 3), .int .u8 (at8 a 4), .int .u8 (at8 a 5), .int .u8 (at8 a 6), .int .u8 (at8 a 7)] 40)) .u8 b 40 (w.heap.size + 1) (by simp) lb)
  have BB := Lib.hid (below2 w (.cells #[.int .u8 (at8 a 0), .int .u8 (at8 a 1), .int .u8 (at8 a 2), .int .u8 (at8 a 3), .int .u8 (at8 a 4), .int .u8 (at8 a 5), .int .u8 (at8 a 6), .int .u8 (at8 a 7)] 40) (.cells #[.int .u8 (at8 b 0), .int .u8 (at8 b 1), .int .u8 (at8 b 2), .int .u8 (at8 b 3), .int .u8 (at8 b 4), .int .u8 (at8 b 5), .int .u8 (at8 b 6), .int .u8 (at8 b 7)] 40))
  clear la lb
  obtain ⟨⟨qRA0, qRA1, qRA2, qRA3⟩, qRA4, qRA5, qRA6, qRA7⟩ := RA.out.all
  obtain ⟨⟨qRB0, qRB1, qRB2, qRB3⟩, qRB4, qRB5, qRB6, qRB7⟩ := RB.out.all
  go_wp2_with fail
  refine (isSimple_any _ a LA.out _).mono ?_
  rw [HA.out]
  rintro e w2 ⟨rfl, hb⟩
  clear qRA0 qRA1 qRA2 qRA3 qRA4 qRA5 qRA6 qRA7 qRB0 qRB1 qRB2 qRB3 qRB4 qRB5 qRB6 qRB7
  replace RA := Lib.hid (RA.out.below hb)
  replace RB := Lib.hid (RB.out.below hb)
  replace BB := Lib.hid (below_go BB.out hb BB.out.size)
  clear hb
  obtain ⟨⟨qRA0, qRA1, qRA2, qRA3⟩, qRA4, qRA5, qRA6, qRA7⟩ := RA.out.all
  obtain ⟨⟨qRB0, qRB1, qRB2, qRB3⟩, qRB4, qRB5, qRB6, qRB7⟩ := RB.out.all
  go_wp2_with fail
  refine (isSimple_any _ b LB.out _).mono ?_
  rw [HB.out]
  rintro e w4 ⟨rfl, hb⟩
  clear qRA0 qRA1 qRA2 qRA3 qRA4 qRA5 qRA6 qRA7 qRB0 qRB1 qRB2 qRB3 qRB4 qRB5 qRB6 qRB7
  replace RA := Lib.hid (RA.out.below hb)
  replace RB := Lib.hid (RB.out.below hb)
  replace BB := Lib.hid (below_go BB.out hb BB.out.size)
  clear hb
  go_wp2
  have zb := BB.out.size
  have bt := lenR_bd (thenR n a b) n h8
  have ba := lenR_bd a n h8
  have bb := lenR_bd b n h8
  have hw1 : IntKind.i64.wrap (lenR a n + lenR b n) = lenR a n + lenR b n := IntWalk.i64_in _ (by omega)
  go_region_held3 (fun w' => (w'.cell? ⟨w.heap.size, 0, none⟩ = some (.int .u8 (at8 a 0)) ∧ w'.cell? ⟨w.heap.size, 1, none⟩ = some (.int .u8 (at8 a 1)) ∧ w'.cell? ⟨w.heap.size, 2, none⟩ = some (.int .u8 (at8 a 2)) ∧ w'.cell? ⟨w.heap.size, 3, none⟩ = some (.int .u8 (at8 a 3)) ∧ w'.cell? ⟨w.heap.size, 4, none⟩ = some (.int .u8 (at8 a 4)) ∧ w'.cell? ⟨w.heap.size, 5, none⟩ = some (.int .u8 (at8 a 5)) ∧ w'.cell? ⟨w.heap.size, 6, none⟩ = some (.int .u8 (at8 a 6)) ∧ w'.cell? ⟨w.heap.size, 7, none⟩ = some (.int .u8 (at8 a 7))) ∧ (w'.cell? ⟨w.heap.size + 1, 0, none⟩ = some (.int .u8 (at8 b 0)) ∧ w'.cell? ⟨w.heap.size + 1, 1, none⟩ = some (.int .u8 (at8 b 1)) ∧ w'.cell? ⟨w.heap.size + 1, 2, none⟩ = some (.int .u8 (at8 b 2)) ∧ w'.cell? ⟨w.heap.size + 1, 3, none⟩ = some (.int .u8 (at8 b 3)) ∧ w'.cell? ⟨w.heap.size + 1, 4, none⟩ = some (.int .u8 (at8 b 4)) ∧ w'.cell? ⟨w.heap.size + 1, 5, none⟩ = some (.int .u8 (at8 b 5)) ∧ w'.cell? ⟨w.heap.size + 1, 6, none⟩ = some (.int .u8 (at8 b 6)) ∧ w'.cell? ⟨w.heap.size + 1, 7, none⟩ = some (.int .u8 (at8 b 7)))) (first | with_reducible exact ⟨(RA.out.drew).flat, (RB.out.drew).flat⟩ | with_reducible exact ⟨(RA.out.drew.below h1).flat, (RB.out.drew.below h1).flat⟩ | with_reducible exact ⟨((RA.out.drew.below h1).below h2).flat, ((RB.out.drew.below h1).below h2).flat⟩ | with_reducible exact ⟨(((RA.out.drew.below h1).below h2).below h3).flat, (((RB.out.drew.below h1).below h2).below h3).flat⟩ | with_reducible exact ⟨((((RA.out.drew.below h1).below h2).below h3).below h4).flat, ((((RB.out.drew.below h1).below h2).below h3).below h4).flat⟩)
    (first
      | (go_at_call 69; refine (then_any n h8 a b LA.out LB.out SA.out.wide _).mono ?_; rintro e w1 ⟨rfl, h1⟩)
      | (go_at_call_of 66 (thenR n a b); refine (length_any n h8 (thenR n a b) (mapR_len _ _ h8) _).mono ?_; rintro e w2 ⟨rfl, h2⟩)
      | (go_at_call_of 66 (at8 a 0); refine (length_any n h8 a LA.out _).mono ?_; rintro e w3 ⟨rfl, h3⟩)
      | (go_at_call_of 66 (at8 b 0); refine (length_any n h8 b LB.out _).mono ?_; rintro e w4 ⟨rfl, h4⟩))
  clear hw1
  go_wp2
  go_ret2
  exact ⟨rfl, below_go (below_go (below_go (below_go BB.out.drew h1 zb) h2 (Nat.le_trans zb h1.size)) h3 (Nat.le_trans (Nat.le_trans zb h1.size) h2.size)) h4 (Nat.le_trans (Nat.le_trans (Nat.le_trans zb h1.size) h2.size) h3.size)⟩

theorem implIsShort_any (n : Int) (a : List Int) (la : a.length = 8) (ya : Bytes8 a) (b : List Int) (lb : b.length = 8) (yb : Bytes8 b) (r : Bool) (c : Int) (hM : mIsShort n a b = (r, c)) (w : World) :
    Calls Try.prog 37 #[arr8 .u8 a, arr8 .u8 b, .int .i64 n] w (fun e w' => e = .returned (.tuple #[.bool (r), .int .i64 c]) ∧ Below w.heap.size w w') := by
    by_cases h : (simB n a && simB n b) = true
    · simp only [mIsShort, if_pos h, Prod.mk.injEq] at hM
      obtain ⟨rfl, rfl⟩ := hM
      rw [Bool.and_eq_true] at h
      obtain ⟨k, hk, hs⟩ := (simB_iff n a la).1 h.1
      obtain ⟨k2, hk2, hs2⟩ := (simB_iff n b lb).1 h.2
      have : k2 = k := by omega
      subst this
      subst hk
      rw [Int.toNat_natCast]
      exact implIsShort_yes k2 a la ya b lb yb hs hs2 w
    · have h0 : (simB n a && simB n b) = false := by simpa using h
      simp only [mIsShort, if_neg h, Prod.mk.injEq] at hM
      obtain ⟨rfl, rfl⟩ := hM
      cases ha : simB n a with
      | false => exact implIsShort_no1 n a la ya b lb yb (Lib.hid ha) w
      | true => exact implIsShort_no2 n a la ya b lb yb (Lib.hid ha) (Lib.hid (by rw [ha, Bool.true_and] at h0; exact h0)) w

end Go.Proofs.Ytinflgcpkeomlaa
