/- HalfTurn: the model's answer, the program's, the walk of the law. -/
import Derived.Test.YtinflgcpkeomlaaLawA
import Derived.Test.YtinflgcpkeomlaaSHalf
import Derived.Test.YtinflgcpkeomlaaIRows
import Derived.Test.YtinflgcpkeomlaaIs
namespace Go.Proofs.Ytinflgcpkeomlaa
open Go.RowKit Go.ChangeShapes

/-- What HalfTurn gives. -/
def mHalfTurn (n : Int) : List Int × Int := if 1 ≤ n ∧ n ≤ 8 then (halfR n.toNat, 0) else (zeros8, 2)

theorem mHalfTurn_len {n : Int} {r : List Int} {c : Int} (h : mHalfTurn n = (r, c)) : r.length = 8 := by
  unfold mHalfTurn at h
  split at h
  · obtain ⟨rfl, rfl⟩ := Prod.mk.inj h
    exact mapR_len _ _ (by omega)
  · obtain ⟨rfl, rfl⟩ := Prod.mk.inj h
    rfl

set_option maxRecDepth 100000 in
set_option maxHeartbeats 1000000 in
theorem specHalfTurn_yes (n : Nat) (h1 : 1 ≤ n) (h8 : n ≤ 8) (w : World) :
    Calls Try.prog 29 #[.int .i64 n] w (fun e w' => e = .returned (.tuple #[arr8 .u8 (halfR n), .int .i64 0]) ∧ Below w.heap.size w w') := by
  go_enter Try.func29, Try.ntmps29
  have RZ := Lib.hid (Row8.zeros w .u8 40 w.heap.size rfl)
  have BB := Lib.hid (below1 w (.cells #[.int .u8 0, .int .u8 0, .int .u8 0, .int .u8 0, .int .u8 0, .int .u8 0, .int .u8 0, .int .u8 0] 40))
  have HIN := Lib.hid ((inB_iff (n : Int) 1 8).2 ⟨by omega, by omega⟩)
  go_wp2_with fail
  refine (l01In_any _ _ _ _).mono ?_
  rw [HIN.out]
  rintro e w' ⟨rfl, rfl⟩
  go_wp2_with fail
  refine (l02Half_any n h8 _).mono ?_
  rintro e w2 ⟨rfl, hb⟩
  replace RZ := Lib.hid (RZ.out.below hb)
  replace BB := Lib.hid (below_go BB.out hb BB.out.size)
  clear hb
  obtain ⟨⟨d0, d1, d2, d3⟩, d4, d5, d6, d7⟩ := RZ.out.all
  obtain ⟨⟨f0, f1, f2, f3⟩, f4, f5, f6, f7⟩ := RZ.out.frees
  have zq := RZ.out.lt
  go_wp2
  obtain ⟨⟨e0, e1, e2, e3⟩, e4, e5, e6, e7⟩ := (RZ.out.fill (halfR n) (mapR_len _ _ h8)).all
  refine bodyPost_ret (v := .tuple #[arr8 .u8 (halfR n), .int .i64 0]) (by simp [results, Try.results29, go_sem, e0, e1, e2, e3, e4, e5, e6, e7]) rfl ⟨rfl, ?_⟩
  exact below_fill8 BB.out _ (by omega) _ _ _ _ _ _ _ _

set_option maxRecDepth 100000 in
set_option maxHeartbeats 1000000 in
theorem specHalfTurn_no (n : Int) (h : n < 1 ∨ 8 < n) (w : World) :
    Calls Try.prog 29 #[.int .i64 n] w (fun e w' => e = .returned (.tuple #[arr8 .u8 (zeros8), .int .i64 2]) ∧ Below w.heap.size w w') := by
  have HIN := Lib.hid ((inB_not n 1 8).2 (by omega))
  clear h
  go_enter Try.func29, Try.ntmps29
  have RZ := Lib.hid (Row8.zeros w .u8 40 w.heap.size rfl)
  have BB := Lib.hid (below1 w (.cells #[.int .u8 0, .int .u8 0, .int .u8 0, .int .u8 0, .int .u8 0, .int .u8 0, .int .u8 0, .int .u8 0] 40))
  go_wp2_with fail
  refine (l01In_any _ _ _ _).mono ?_
  rw [HIN.out]
  rintro e w' ⟨rfl, rfl⟩
  go_wp2
  refine bodyPost_ret (v := .tuple #[arr8 .u8 zeros8, .int .i64 2]) (by simp [results, Try.results29, go_sem, zeros8, at8]) rfl ⟨rfl, BB.out⟩

theorem specHalfTurn_any (n : Int) (r : List Int) (c : Int) (hM : mHalfTurn n = (r, c)) (w : World) :
    Calls Try.prog 29 #[.int .i64 n] w (fun e w' => e = .returned (.tuple #[arr8 .u8 (r), .int .i64 c]) ∧ Below w.heap.size w w') := by
  by_cases h : 1 ≤ n ∧ n ≤ 8
  · simp only [mHalfTurn, if_pos h, Prod.mk.injEq] at hM
    obtain ⟨rfl, rfl⟩ := hM
    obtain ⟨k, rfl⟩ : ∃ k : Nat, n = k := ⟨n.toNat, by omega⟩
    rw [Int.toNat_natCast]
    exact specHalfTurn_yes k (by omega) (by omega) w
  · simp only [mHalfTurn, if_neg h, Prod.mk.injEq] at hM
    obtain ⟨rfl, rfl⟩ := hM
    exact specHalfTurn_no n (by omega) w

set_option maxRecDepth 100000 in
set_option maxHeartbeats 1000000 in
theorem implHalfTurn_yes (n : Nat) (h1 : 1 ≤ n) (h8 : n ≤ 8) (w : World) :
    Calls Try.prog 30 #[.int .i64 n] w (fun e w' => e = .returned (.tuple #[arr8 .u8 (halfR n), .int .i64 0]) ∧ Below w.heap.size w w') := by
  go_enter Try.func30, Try.ntmps30
  have RZ := Lib.hid (Row8.zeros w .u8 40 w.heap.size rfl)
  have BB := Lib.hid (below1 w (.cells #[.int .u8 0, .int .u8 0, .int .u8 0, .int .u8 0, .int .u8 0, .int .u8 0, .int .u8 0, .int .u8 0] 40))
  go_wp2_with fail
  refine (halfTurn_any n h8 _).mono ?_
  rintro e w2 ⟨rfl, hb⟩
  replace RZ := Lib.hid (RZ.out.below hb)
  replace BB := Lib.hid (below_go BB.out hb BB.out.size)
  clear hb
  obtain ⟨⟨d0, d1, d2, d3⟩, d4, d5, d6, d7⟩ := RZ.out.all
  obtain ⟨⟨f0, f1, f2, f3⟩, f4, f5, f6, f7⟩ := RZ.out.frees
  have zq := RZ.out.lt
  go_wp2
  obtain ⟨⟨e0, e1, e2, e3⟩, e4, e5, e6, e7⟩ := (RZ.out.fill (halfR n) (mapR_len _ _ h8)).all
  refine bodyPost_ret (v := .tuple #[arr8 .u8 (halfR n), .int .i64 0]) (by simp [results, Try.results30, go_sem, e0, e1, e2, e3, e4, e5, e6, e7]) rfl ⟨rfl, ?_⟩
  exact below_fill8 BB.out _ (by omega) _ _ _ _ _ _ _ _

set_option maxRecDepth 100000 in
set_option maxHeartbeats 1000000 in
theorem implHalfTurn_no (n : Int) (h : n < 1 ∨ 8 < n) (w : World) :
    Calls Try.prog 30 #[.int .i64 n] w (fun e w' => e = .returned (.tuple #[arr8 .u8 (zeros8), .int .i64 2]) ∧ Below w.heap.size w w') := by
  rcases h with h | h
  · go_enter Try.func30, Try.ntmps30
    have RZ := Lib.hid (Row8.zeros w .u8 40 w.heap.size rfl)
    have BB := Lib.hid (below1 w (.cells #[.int .u8 0, .int .u8 0, .int .u8 0, .int .u8 0, .int .u8 0, .int .u8 0, .int .u8 0, .int .u8 0] 40))
    go_wp2
    refine bodyPost_ret (v := .tuple #[arr8 .u8 zeros8, .int .i64 2]) (by simp [results, Try.results30, go_sem, zeros8, at8]) rfl ⟨rfl, BB.out⟩
  · have h1 : ¬ n < 1 := by omega
    go_enter Try.func30, Try.ntmps30
    have RZ := Lib.hid (Row8.zeros w .u8 40 w.heap.size rfl)
    have BB := Lib.hid (below1 w (.cells #[.int .u8 0, .int .u8 0, .int .u8 0, .int .u8 0, .int .u8 0, .int .u8 0, .int .u8 0, .int .u8 0] 40))
    go_wp2
    refine bodyPost_ret (v := .tuple #[arr8 .u8 zeros8, .int .i64 2]) (by simp [results, Try.results30, go_sem, zeros8, at8]) rfl ⟨rfl, BB.out⟩

theorem implHalfTurn_any (n : Int) (r : List Int) (c : Int) (hM : mHalfTurn n = (r, c)) (w : World) :
    Calls Try.prog 30 #[.int .i64 n] w (fun e w' => e = .returned (.tuple #[arr8 .u8 (r), .int .i64 c]) ∧ Below w.heap.size w w') := by
  by_cases h : 1 ≤ n ∧ n ≤ 8
  · simp only [mHalfTurn, if_pos h, Prod.mk.injEq] at hM
    obtain ⟨rfl, rfl⟩ := hM
    obtain ⟨k, rfl⟩ : ∃ k : Nat, n = k := ⟨n.toNat, by omega⟩
    rw [Int.toNat_natCast]
    exact implHalfTurn_yes k (by omega) (by omega) w
  · simp only [mHalfTurn, if_neg h, Prod.mk.injEq] at hM
    obtain ⟨rfl, rfl⟩ := hM
    exact implHalfTurn_no n (by omega) w

set_option maxRecDepth 100000 in
set_option maxHeartbeats 1000000 in
theorem fnExactHalfTurn_walk {n : Int} {w : World} (_hn : (Lit.int .i64 n).wf = true) :
    Calls Try.prog 6 #[.int .i64 n] w fun e w' => e = .returned (.bool true) ∧ Below w.heap.size w w' := by
  obtain ⟨r, c, hM⟩ : ∃ r c, mHalfTurn n = (r, c) := ⟨_, _, rfl⟩
  have HM := Lib.hid hM
  clear hM
  have HR : Hid (r.length = 8) := Lib.hid (mHalfTurn_len HM.out)
  go_enter Try.func6, Try.ntmps6
  have BB := Lib.hid (Below.refl w.heap.size w)
  go_wp2_with fail
  refine (specHalfTurn_any n r c HM.out _).mono ?_
  rintro e w2 ⟨rfl, hb⟩
  replace BB := Lib.hid (below_go BB.out hb BB.out.size)
  clear hb
  have RW := Lib.hid (Row8.place w2 .u8 r 40 w2.heap.size rfl HR.out)
  replace BB := Lib.hid (BB.out.alloc BB.out.size (.cells #[.int .u8 (at8 r 0), .int .u8 (at8 r 1), .int .u8 (at8 r 2), .int .u8 (at8 r 3), .int .u8 (at8 r 4), .int .u8 (at8 r 5), .int .u8 (at8 r 6), .int .u8 (at8 r 7)] 40))
  obtain ⟨⟨qRW0, qRW1, qRW2, qRW3⟩, qRW4, qRW5, qRW6, qRW7⟩ := RW.out.all
  go_wp2_with fail
  refine (implHalfTurn_any n r c HM.out _).mono ?_
  rintro e w4 ⟨rfl, hb⟩
  clear qRW0 qRW1 qRW2 qRW3 qRW4 qRW5 qRW6 qRW7
  replace RW := Lib.hid (RW.out.below hb)
  replace BB := Lib.hid (below_go BB.out hb BB.out.size)
  clear hb
  have RG := Lib.hid (Row8.place w4 .u8 r 40 w4.heap.size rfl HR.out)
  replace RW := Lib.hid (RW.out.alloc (.cells #[.int .u8 (at8 r 0), .int .u8 (at8 r 1), .int .u8 (at8 r 2), .int .u8 (at8 r 3), .int .u8 (at8 r 4), .int .u8 (at8 r 5), .int .u8 (at8 r 6), .int .u8 (at8 r 7)] 40))
  replace BB := Lib.hid (BB.out.alloc BB.out.size (.cells #[.int .u8 (at8 r 0), .int .u8 (at8 r 1), .int .u8 (at8 r 2), .int .u8 (at8 r 3), .int .u8 (at8 r 4), .int .u8 (at8 r 5), .int .u8 (at8 r 6), .int .u8 (at8 r 7)] 40))
  have t1 : (c != c) = false := by simp
  obtain ⟨⟨qRW0, qRW1, qRW2, qRW3⟩, qRW4, qRW5, qRW6, qRW7⟩ := RW.out.all
  obtain ⟨⟨qRG0, qRG1, qRG2, qRG3⟩, qRG4, qRG5, qRG6, qRG7⟩ := RG.out.all
  go_wp2_with fail
  refine (eqSimple_yes r HR.out _).mono ?_
  rintro e w6 ⟨rfl, hb⟩
  clear qRW0 qRW1 qRW2 qRW3 qRW4 qRW5 qRW6 qRW7 qRG0 qRG1 qRG2 qRG3 qRG4 qRG5 qRG6 qRG7
  replace RW := Lib.hid (RW.out.below hb)
  replace RG := Lib.hid (RG.out.below hb)
  replace BB := Lib.hid (below_go BB.out hb BB.out.size)
  clear hb
  go_wp2
  go_ret
  exact ⟨rfl, BB.out⟩

end Go.Proofs.Ytinflgcpkeomlaa
