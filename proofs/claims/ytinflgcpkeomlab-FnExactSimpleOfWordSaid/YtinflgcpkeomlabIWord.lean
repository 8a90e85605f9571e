/- SimpleOfWord: the program's answer. -/
import Derived.Test.YtinflgcpkeomlabExd
import Derived.Test.YtinflgcpkeomlabILen
import Derived.Test.YtinflgcpkeomlabExB
namespace Go.Proofs.Ytinflgcpkeomlab
open Go.RowKit Go.ChangeShapes

set_option maxRecDepth 100000 in
set_option maxHeartbeats 1000000 in
theorem implW_out (n : Int) (h : n < 1 ∨ 8 < n) (a : Option Addr) (m cap : Nat) (xs : List Int) (w : World) (_hr : Reads w a m xs) (_hm : m ≤ 1048576) :
    Calls Try.prog 25 #[.slice a m cap, .int .i64 n] w (fun e w' => e = .returned (.tuple #[arr8 .u8 (zeros8), .int .i64 2]) ∧ Below w.heap.size w w') := by
  rcases h with h | h
  · go_enter Try.func25, Try.ntmps25
    have RZ := Lib.hid (Row8.zeros w .u8 23 w.heap.size rfl)
    have BB := Lib.hid (below1 w (.cells #[.int .u8 0, .int .u8 0, .int .u8 0, .int .u8 0, .int .u8 0, .int .u8 0, .int .u8 0, .int .u8 0] 23))
    go_wp2
    refine bodyPost_ret (v := .tuple #[arr8 .u8 zeros8, .int .i64 2]) (by simp [results, Try.results25, go_sem, zeros8, at8]) rfl ⟨rfl, BB.out⟩
  · have h1 : ¬ n < 1 := by omega
    go_enter Try.func25, Try.ntmps25
    have RZ := Lib.hid (Row8.zeros w .u8 23 w.heap.size rfl)
    have BB := Lib.hid (below1 w (.cells #[.int .u8 0, .int .u8 0, .int .u8 0, .int .u8 0, .int .u8 0, .int .u8 0, .int .u8 0, .int .u8 0] 23))
    go_wp2
    refine bodyPost_ret (v := .tuple #[arr8 .u8 zeros8, .int .i64 2]) (by simp [results, Try.results25, go_sem, zeros8, at8]) rfl ⟨rfl, BB.out⟩

set_option maxRecDepth 100000 in
set_option maxHeartbeats 1000000 in
theorem implW_bad (n : Nat) (h1 : 1 ≤ n) (h8 : n ≤ 8) (a : Option Addr) (m cap : Nat) (xs : List Int) (w : World) (hr : Reads w a m xs) (hx : ¬ Lets n xs) (hm : m ≤ 1048576) :
    Calls Try.prog 25 #[.slice a m cap, .int .i64 n] w (fun e w' => e = .returned (.tuple #[arr8 .u8 (zeros8), .int .i64 2]) ∧ Below w.heap.size w w') := by
  have HL := Lib.hid hr.len
  have HR := Lib.hid hr
  clear hr
  obtain ⟨p, hp, hb, ha⟩ := first_bad n xs hx
  have HB := Lib.hid hb
  have HA := Lib.hid ha
  rw [HL.out] at hp
  clear hb ha hx
  go_enter Try.func25, Try.ntmps25
  have RZ := Lib.hid (Row8.zeros w .u8 23 w.heap.size rfl)
  have BB := Lib.hid (below1 w (.cells #[.int .u8 0, .int .u8 0, .int .u8 0, .int .u8 0, .int .u8 0, .int .u8 0, .int .u8 0, .int .u8 0] 23))
  replace HR := Lib.hid (HR.out.alloc (.cells #[.int .u8 0, .int .u8 0, .int .u8 0, .int .u8 0, .int .u8 0, .int .u8 0, .int .u8 0, .int .u8 0] 23))
  go_wp2
  go_loop [18] (fun i => ∃ j : Nat, j ≤ p ∧ i = .int .i64 j) (fun i => m - (intOf i).toNat)
  case atStart => exact ⟨0, Nat.zero_le _, rfl⟩
  case round =>
    obtain ⟨j, hj, rfl⟩ := hrel
    obtain ⟨b, off, rfl, hb, hc⟩ := HR.out.cells (by omega)
    have h1' := hc j (by omega)
    obtain ⟨x, hx⟩ : ∃ x, x = xs.getD j 0 := ⟨_, rfl⟩
    by_cases e : j = p
    · subst e
      have hbad := HB.out
      rw [← hx] at h1' hbad
      clear hx hc
      by_cases hlow : x < 1
      · go_wp2
        refine bodyPost_ret (v := .tuple #[arr8 .u8 zeros8, .int .i64 2]) (by simp [results, Try.results25, go_sem, zeros8, at8]) rfl ⟨rfl, BB.out⟩
      · have hhi : (n : Int) ≤ x := by omega
        go_wp2
        refine bodyPost_ret (v := .tuple #[arr8 .u8 zeros8, .int .i64 2]) (by simp [results, Try.results25, go_sem, zeros8, at8]) rfl ⟨rfl, BB.out⟩
    · obtain ⟨y1, y2⟩ := HA.out j (by omega)
      rw [← hx] at h1' y1 y2
      clear hx hc
      have b1 : ¬ x < 1 := by omega
      have b2 : ¬ (n : Int) ≤ x := by omega
      go_wp2
      go_round
      case rel => exact ⟨j + 1, by omega, by go_num⟩
      case measure => simp [intOf]; omega

set_option maxRecDepth 100000 in
set_option maxHeartbeats 1000000 in
theorem implW_long (n : Nat) (h1 : 1 ≤ n) (h8 : n ≤ 8) (a : Option Addr) (m cap : Nat) (xs : List Int) (w : World) (hr : Reads w a m xs) (hx : Lets n xs) (hd : lenR (exsR n xs) n ≠ (m : Int)) (hm : m ≤ 1048576) :
    Calls Try.prog 25 #[.slice a m cap, .int .i64 n] w (fun e w' => e = .returned (.tuple #[arr8 .u8 (zeros8), .int .i64 5]) ∧ Below w.heap.size w w') := by
  have HL := Lib.hid hr.len
  have HR := Lib.hid hr
  have HX := Lib.hid hx
  clear hr hx
  have t1 : (lenR (exsR n xs) n != (m : Int)) = true := by rw [bne_iff_ne]; exact hd
  have HT := Lib.hid t1
  clear t1 hd
  have HLL : Hid ((exsR n xs).length = 8) := Lib.hid (exsR_sim n h1 h8 xs HX.out).len
  go_enter Try.func25, Try.ntmps25
  have RZ := Lib.hid (Row8.zeros w .u8 23 w.heap.size rfl)
  have BB := Lib.hid (below1 w (.cells #[.int .u8 0, .int .u8 0, .int .u8 0, .int .u8 0, .int .u8 0, .int .u8 0, .int .u8 0, .int .u8 0] 23))
  replace HR := Lib.hid (HR.out.alloc (.cells #[.int .u8 0, .int .u8 0, .int .u8 0, .int .u8 0, .int .u8 0, .int .u8 0, .int .u8 0, .int .u8 0] 23))
  go_wp2
  go_loop [18] (fun i => ∃ j : Nat, j ≤ m ∧ i = .int .i64 j) (fun i => m - (intOf i).toNat)
  case atStart => exact ⟨0, Nat.zero_le _, rfl⟩
  case round =>
    obtain ⟨j, hj, rfl⟩ := hrel
    by_cases hlt : j < m
    · obtain ⟨b, off, rfl, hb, hc⟩ := HR.out.cells (by omega)
      have h1' := hc j hlt
      obtain ⟨y1, y2⟩ := HX.out _ (getD_mem xs j (by rw [HL.out]; exact hlt))
      obtain ⟨x, hx⟩ : ∃ x, x = xs.getD j 0 := ⟨_, rfl⟩
      rw [← hx] at h1' y1 y2
      clear hx hc
      have b1 : ¬ x < 1 := by omega
      have b2 : ¬ (n : Int) ≤ x := by omega
      go_wp2
      go_round
      case rel => exact ⟨j + 1, by omega, by go_num⟩
      case measure => simp [intOf]; omega
    · have hjm : j = m := by omega
      have HJ := Lib.hid hjm
      clear hjm
      go_wp2_with fail
      refine (exchanged_any n h8 a m cap xs _ HR.out HX.out h1 hm).mono ?_
      rintro e w2 ⟨rfl, hb⟩
      replace RZ := Lib.hid (RZ.out.below hb)
      replace BB := Lib.hid (below_go BB.out hb BB.out.size)
      clear hb
      have RS := Lib.hid (Row8.place w2 .u8 (exsR n xs) 23 w2.heap.size rfl HLL.out)
      replace RZ := Lib.hid (RZ.out.alloc (.cells #[.int .u8 (at8 (exsR n xs) 0), .int .u8 (at8 (exsR n xs) 1), .int .u8 (at8 (exsR n xs) 2), .int .u8 (at8 (exsR n xs) 3), .int .u8 (at8 (exsR n xs) 4), .int .u8 (at8 (exsR n xs) 5), .int .u8 (at8 (exsR n xs) 6), .int .u8 (at8 (exsR n xs) 7)] 23))
      replace BB := Lib.hid (BB.out.alloc BB.out.size (.cells #[.int .u8 (at8 (exsR n xs) 0), .int .u8 (at8 (exsR n xs) 1), .int .u8 (at8 (exsR n xs) 2), .int .u8 (at8 (exsR n xs) 3), .int .u8 (at8 (exsR n xs) 4), .int .u8 (at8 (exsR n xs) 5), .int .u8 (at8 (exsR n xs) 6), .int .u8 (at8 (exsR n xs) 7)] 23))
      obtain ⟨⟨qRS0, qRS1, qRS2, qRS3⟩, qRS4, qRS5, qRS6, qRS7⟩ := RS.out.all
      go_wp2_with fail
      refine (length_any n h8 (exsR n xs) HLL.out _).mono ?_
      rintro e w4 ⟨rfl, hb⟩
      clear qRS0 qRS1 qRS2 qRS3 qRS4 qRS5 qRS6 qRS7
      replace RZ := Lib.hid (RZ.out.below hb)
      replace RS := Lib.hid (RS.out.below hb)
      replace BB := Lib.hid (below_go BB.out hb BB.out.size)
      clear hb
      have t1 := HT.out
      obtain ⟨⟨d0, d1, d2, d3⟩, d4, d5, d6, d7⟩ := RZ.out.all
      obtain ⟨⟨f0, f1, f2, f3⟩, f4, f5, f6, f7⟩ := RZ.out.frees
      have zq := RZ.out.lt
      go_wp2
      obtain ⟨⟨e0, e1, e2, e3⟩, e4, e5, e6, e7⟩ := RZ.out.fillz
      refine bodyPost_ret (v := .tuple #[arr8 .u8 zeros8, .int .i64 5]) (by simp [results, Try.results25, go_sem, e0, e1, e2, e3, e4, e5, e6, e7, zeros8, at8]) rfl ⟨rfl, ?_⟩
      exact below_fill8 BB.out _ (by omega) _ _ _ _ _ _ _ _

set_option maxRecDepth 100000 in
set_option maxHeartbeats 1000000 in
theorem implW_yes (n : Nat) (h1 : 1 ≤ n) (h8 : n ≤ 8) (a : Option Addr) (m cap : Nat) (xs : List Int) (w : World) (hr : Reads w a m xs) (hx : Lets n xs) (hd : lenR (exsR n xs) n = (m : Int)) (hm : m ≤ 1048576) :
    Calls Try.prog 25 #[.slice a m cap, .int .i64 n] w (fun e w' => e = .returned (.tuple #[arr8 .u8 (exsR n xs), .int .i64 0]) ∧ Below w.heap.size w w') := by
  have HL := Lib.hid hr.len
  have HR := Lib.hid hr
  have HX := Lib.hid hx
  clear hr hx
  have t1 : (lenR (exsR n xs) n != (m : Int)) = false := by rw [hd]; simp
  have HT := Lib.hid t1
  clear t1 hd
  have HLL : Hid ((exsR n xs).length = 8) := Lib.hid (exsR_sim n h1 h8 xs HX.out).len
  go_enter Try.func25, Try.ntmps25
  have RZ := Lib.hid (Row8.zeros w .u8 23 w.heap.size rfl)
  have BB := Lib.hid (below1 w (.cells #[.int .u8 0, .int .u8 0, .int .u8 0, .int .u8 0, .int .u8 0, .int .u8 0, .int .u8 0, .int .u8 0] 23))
  replace HR := Lib.hid (HR.out.alloc (.cells #[.int .u8 0, .int .u8 0, .int .u8 0, .int .u8 0, .int .u8 0, .int .u8 0, .int .u8 0, .int .u8 0] 23))
  go_wp2
  go_loop [18] (fun i => ∃ j : Nat, j ≤ m ∧ i = .int .i64 j) (fun i => m - (intOf i).toNat)
  case atStart => exact ⟨0, Nat.zero_le _, rfl⟩
  case round =>
    obtain ⟨j, hj, rfl⟩ := hrel
    by_cases hlt : j < m
    · obtain ⟨b, off, rfl, hb, hc⟩ := HR.out.cells (by omega)
      have h1' := hc j hlt
      obtain ⟨y1, y2⟩ := HX.out _ (getD_mem xs j (by rw [HL.out]; exact hlt))
      obtain ⟨x, hx⟩ : ∃ x, x = xs.getD j 0 := ⟨_, rfl⟩
      rw [← hx] at h1' y1 y2
      clear hx hc
      have b1 : ¬ x < 1 := by omega
      have b2 : ¬ (n : Int) ≤ x := by omega
      go_wp2
      go_round
      case rel => exact ⟨j + 1, by omega, by go_num⟩
      case measure => simp [intOf]; omega
    · have hjm : j = m := by omega
      have HJ := Lib.hid hjm
      clear hjm
      go_wp2_with fail
      refine (exchanged_any n h8 a m cap xs _ HR.out HX.out h1 hm).mono ?_
      rintro e w2 ⟨rfl, hb⟩
      replace RZ := Lib.hid (RZ.out.below hb)
      replace BB := Lib.hid (below_go BB.out hb BB.out.size)
      clear hb
      have RS := Lib.hid (Row8.place w2 .u8 (exsR n xs) 23 w2.heap.size rfl HLL.out)
      replace RZ := Lib.hid (RZ.out.alloc (.cells #[.int .u8 (at8 (exsR n xs) 0), .int .u8 (at8 (exsR n xs) 1), .int .u8 (at8 (exsR n xs) 2), .int .u8 (at8 (exsR n xs) 3), .int .u8 (at8 (exsR n xs) 4), .int .u8 (at8 (exsR n xs) 5), .int .u8 (at8 (exsR n xs) 6), .int .u8 (at8 (exsR n xs) 7)] 23))
      replace BB := Lib.hid (BB.out.alloc BB.out.size (.cells #[.int .u8 (at8 (exsR n xs) 0), .int .u8 (at8 (exsR n xs) 1), .int .u8 (at8 (exsR n xs) 2), .int .u8 (at8 (exsR n xs) 3), .int .u8 (at8 (exsR n xs) 4), .int .u8 (at8 (exsR n xs) 5), .int .u8 (at8 (exsR n xs) 6), .int .u8 (at8 (exsR n xs) 7)] 23))
      obtain ⟨⟨qRS0, qRS1, qRS2, qRS3⟩, qRS4, qRS5, qRS6, qRS7⟩ := RS.out.all
      go_wp2_with fail
      refine (length_any n h8 (exsR n xs) HLL.out _).mono ?_
      rintro e w4 ⟨rfl, hb⟩
      clear qRS0 qRS1 qRS2 qRS3 qRS4 qRS5 qRS6 qRS7
      replace RZ := Lib.hid (RZ.out.below hb)
      replace RS := Lib.hid (RS.out.below hb)
      replace BB := Lib.hid (below_go BB.out hb BB.out.size)
      clear hb
      have t1 := HT.out
      obtain ⟨⟨c0, c1, c2, c3⟩, c4, c5, c6, c7⟩ := RS.out.all
      obtain ⟨⟨d0, d1, d2, d3⟩, d4, d5, d6, d7⟩ := RZ.out.all
      obtain ⟨⟨f0, f1, f2, f3⟩, f4, f5, f6, f7⟩ := RZ.out.frees
      have zq := RZ.out.lt
      go_wp2
      obtain ⟨⟨e0, e1, e2, e3⟩, e4, e5, e6, e7⟩ := (RZ.out.fill (exsR n xs) HLL.out).all
      refine bodyPost_ret (v := .tuple #[arr8 .u8 (exsR n xs), .int .i64 0]) (by simp [results, Try.results25, go_sem, e0, e1, e2, e3, e4, e5, e6, e7]) rfl ⟨rfl, ?_⟩
      exact below_fill8 BB.out _ (by omega) _ _ _ _ _ _ _ _

theorem implW_any (n : Int) (a : Option Addr) (m cap : Nat) (xs : List Int) (r : List Int) (c : Int) (hM : mWordIn n xs = (r, c)) (w : World) (hr : Reads w a m xs) (hm : m ≤ 1048576) :
    Calls Try.prog 25 #[.slice a m cap, .int .i64 n] w (fun e w' => e = .returned (.tuple #[arr8 .u8 r, .int .i64 c]) ∧ Below w.heap.size w w') := by
  by_cases h : 1 ≤ n ∧ n ≤ 8
  · obtain ⟨k, rfl⟩ : ∃ k : Nat, n = k := ⟨n.toNat, by omega⟩
    simp only [mWordIn, if_pos h, Int.toNat_natCast] at hM
    by_cases ha : (xs.all fun x => decide (1 ≤ x) && decide (x < (k : Int))) = true
    · rw [if_pos ha] at hM
      have hx := (lets_iff k xs).1 ha
      rw [hr.len] at hM
      by_cases hd : lenR (exsR k xs) k = (m : Int)
      · rw [if_pos hd] at hM
        obtain ⟨rfl, rfl⟩ := Prod.mk.inj hM
        exact implW_yes k (by omega) (by omega) a m cap xs w hr hx hd hm
      · rw [if_neg hd] at hM
        obtain ⟨rfl, rfl⟩ := Prod.mk.inj hM
        exact implW_long k (by omega) (by omega) a m cap xs w hr hx hd hm
    · rw [if_neg ha] at hM
      obtain ⟨rfl, rfl⟩ := Prod.mk.inj hM
      exact implW_bad k (by omega) (by omega) a m cap xs w hr (fun hl => ha ((lets_iff k xs).2 hl)) hm
  · simp only [mWordIn, if_neg h] at hM
    obtain ⟨rfl, rfl⟩ := Prod.mk.inj hM
    exact implW_out n (by omega) a m cap xs w hr hm

end Go.Proofs.Ytinflgcpkeomlab
