/- PartOfBlocks: the program's answer. -/
import Derived.Test.YthelncibpoijoaaPSPob
import Derived.Test.YthelncibpoijoaaPIPof
import Derived.Test.YthelncibpoijoaaPIIs
namespace Go.Proofs.Ythelncibpoijoaa
open Go.RowKit Go.ChangeShapes

set_option maxRecDepth 100000 in
set_option maxHeartbeats 1000000 in
theorem implPartOfBlocks_lo (n : Int) (h : n < 1) (ad : Option Addr) (m cap : Nat) (X : List (List Int)) (w : World) :
    Calls Try.prog 37 #[.slice ad m cap, .int .i64 n] w fun e w' => e = .returned (.tuple #[arr8 .u8 (mPartsOf n X).1, .int .i64 (mPartsOf n X).2]) ∧ Below w.heap.size w w' := by
  have HNO := Lib.hid (mParts_no (n := n) (X := X) fun h2 => by have := h2.1; omega)
  go_enter Try.func37, Try.ntmps37
  have RZ := Lib.hid (Row8.zeros w .u8 24 w.heap.size rfl)
  have BB := Lib.hid (below1 w (.cells #[.int .u8 0, .int .u8 0, .int .u8 0, .int .u8 0, .int .u8 0, .int .u8 0, .int .u8 0, .int .u8 0] 24))
  go_upto_region 1 with fail
  obtain ⟨W, hW⟩ : ∃ W, W = w.alloc (.cells #[.int .u8 0, .int .u8 0, .int .u8 0, .int .u8 0, .int .u8 0, .int .u8 0, .int .u8 0, .int .u8 0] 24) := ⟨_, rfl⟩
  rw [← hW] at RZ BB ⊢
  clear hW
  obtain ⟨⟨d0, d1, d2, d3⟩, d4, d5, d6, d7⟩ := RZ.out.all
  obtain ⟨⟨f0, f1, f2, f3⟩, f4, f5, f6, f7⟩ := RZ.out.frees
  have zq := RZ.out.lt
  go_wp2
  obtain ⟨⟨e0, e1, e2, e3⟩, e4, e5, e6, e7⟩ := RZ.out.fillz
  refine bodyPost_ret (v := .tuple #[arr8 .u8 zeros8, .int .i64 2]) (by simp [results, Try.results37, go_sem, e0, e1, e2, e3, e4, e5, e6, e7, zeros8, at8]) rfl ⟨by rw [HNO.out]; rfl, ?_⟩
  exact below_fill8 BB.out _ (by omega) _ _ _ _ _ _ _ _

set_option maxRecDepth 100000 in
set_option maxHeartbeats 1000000 in
theorem implPartOfBlocks_hi (n : Int) (h : 8 < n) (ad : Option Addr) (m cap : Nat) (X : List (List Int)) (w : World) :
    Calls Try.prog 37 #[.slice ad m cap, .int .i64 n] w fun e w' => e = .returned (.tuple #[arr8 .u8 (mPartsOf n X).1, .int .i64 (mPartsOf n X).2]) ∧ Below w.heap.size w w' := by
  have HNO := Lib.hid (mParts_no (n := n) (X := X) fun h2 => by have := h2.1; omega)
  have h' : ¬ n < 1 := by omega
  go_enter Try.func37, Try.ntmps37
  have RZ := Lib.hid (Row8.zeros w .u8 24 w.heap.size rfl)
  have BB := Lib.hid (below1 w (.cells #[.int .u8 0, .int .u8 0, .int .u8 0, .int .u8 0, .int .u8 0, .int .u8 0, .int .u8 0, .int .u8 0] 24))
  go_upto_region 1 with fail
  obtain ⟨W, hW⟩ : ∃ W, W = w.alloc (.cells #[.int .u8 0, .int .u8 0, .int .u8 0, .int .u8 0, .int .u8 0, .int .u8 0, .int .u8 0, .int .u8 0] 24) := ⟨_, rfl⟩
  rw [← hW] at RZ BB ⊢
  clear hW
  obtain ⟨⟨d0, d1, d2, d3⟩, d4, d5, d6, d7⟩ := RZ.out.all
  obtain ⟨⟨f0, f1, f2, f3⟩, f4, f5, f6, f7⟩ := RZ.out.frees
  have zq := RZ.out.lt
  go_wp2
  obtain ⟨⟨e0, e1, e2, e3⟩, e4, e5, e6, e7⟩ := RZ.out.fillz
  refine bodyPost_ret (v := .tuple #[arr8 .u8 zeros8, .int .i64 2]) (by simp [results, Try.results37, go_sem, e0, e1, e2, e3, e4, e5, e6, e7, zeros8, at8]) rfl ⟨by rw [HNO.out]; rfl, ?_⟩
  exact below_fill8 BB.out _ (by omega) _ _ _ _ _ _ _ _

set_option maxRecDepth 100000 in
set_option maxHeartbeats 1000000 in
theorem implPartOfBlocks_bad (n : Nat) (h1 : 1 ≤ n) (h8 : n ≤ 8) (ad : Option Addr) (m cap : Nat) (rs : List RowV) (w : World) (hr : ReadsSS w ad m rs) (hm : m ≤ 1048576) (X : List (List Int)) (hX : X = rs.map RowV.xs) (hg : ¬ Good (n : Int) X) :
    Calls Try.prog 37 #[.slice ad m cap, .int .i64 n] w fun e w' => e = .returned (.tuple #[arr8 .u8 (mPartsOf (n : Int) X).1, .int .i64 (mPartsOf (n : Int) X).2]) ∧ Below w.heap.size w w' := by
  have HNO := Lib.hid (mParts_no (n := (n : Int)) (X := X) fun h2 => hg h2.2)
  have HGB := Lib.hid (goodB_no hg)
  clear hg
  have HX := Lib.hid hX
  have HR := Lib.hid hr
  clear hr hX
  go_enter Try.func37, Try.ntmps37
  have RZ := Lib.hid (Row8.zeros w .u8 24 w.heap.size rfl)
  have BB := Lib.hid (below1 w (.cells #[.int .u8 0, .int .u8 0, .int .u8 0, .int .u8 0, .int .u8 0, .int .u8 0, .int .u8 0, .int .u8 0] 24))
  have n1 : ¬ ((n : Int) < 1) := by omega
  have n8 : ¬ (8 < (n : Int)) := by omega
  go_wp2_with fail
  refine (areBlocks_any n h1 h8 _ m cap rs _ (HR.out.below BB.out) hm X HX.out).mono ?_
  rw [HGB.out]
  rintro e w2 ⟨rfl, hb⟩
  replace RZ := Lib.hid (RZ.out.below hb)
  replace BB := Lib.hid (below_go BB.out hb BB.out.size)
  clear hb
  obtain ⟨⟨d0, d1, d2, d3⟩, d4, d5, d6, d7⟩ := RZ.out.all
  obtain ⟨⟨f0, f1, f2, f3⟩, f4, f5, f6, f7⟩ := RZ.out.frees
  have zq := RZ.out.lt
  go_wp2
  obtain ⟨⟨e0, e1, e2, e3⟩, e4, e5, e6, e7⟩ := RZ.out.fillz
  refine bodyPost_ret (v := .tuple #[arr8 .u8 zeros8, .int .i64 2]) (by simp [results, Try.results37, go_sem, e0, e1, e2, e3, e4, e5, e6, e7, zeros8, at8]) rfl ⟨by rw [HNO.out]; rfl, ?_⟩
  exact below_fill8 BB.out _ (by omega) _ _ _ _ _ _ _ _

set_option maxRecDepth 100000 in
set_option maxHeartbeats 1000000 in
theorem implPartOfBlocks_cross (n : Nat) (h1 : 1 ≤ n) (h8 : n ≤ 8) (ad : Option Addr) (m cap : Nat) (rs : List RowV) (w : World) (hr : ReadsSS w ad m rs) (hm : m ≤ 1048576) (X : List (List Int)) (hX : X = rs.map RowV.xs) (hg : Good (n : Int) X) (hc : crN (nx (leastOf X)) n = true) :
    Calls Try.prog 37 #[.slice ad m cap, .int .i64 n] w fun e w' => e = .returned (.tuple #[arr8 .u8 (mPartsOf (n : Int) X).1, .int .i64 (mPartsOf (n : Int) X).2]) ∧ Below w.heap.size w w' := by
  have HNO := Lib.hid (mParts_cross h1 h8 hg hc)
  have HGB := Lib.hid (goodB_yes hg)
  have HGD := Lib.hid hg
  have HPT := Lib.hid (isPt_made h1 h8 (leastOf_cls h8 hg))
  rw [hc] at HPT
  clear hg hc
  have hlp : (madeR n (leastOf X)).length = 8 := mapR_len _ _ h8
  obtain ⟨PP, hPP⟩ : ∃ PP, PP = madeR n (leastOf X) := ⟨_, rfl⟩
  rw [← hPP] at HPT hlp
  have HPP := Lib.hid hPP.symm
  have HLP := Lib.hid hlp
  clear hPP hlp
  have HX := Lib.hid hX
  have HR := Lib.hid hr
  clear hr hX
  go_enter Try.func37, Try.ntmps37
  have RZ := Lib.hid (Row8.zeros w .u8 24 w.heap.size rfl)
  have BB := Lib.hid (below1 w (.cells #[.int .u8 0, .int .u8 0, .int .u8 0, .int .u8 0, .int .u8 0, .int .u8 0, .int .u8 0, .int .u8 0] 24))
  have n1 : ¬ ((n : Int) < 1) := by omega
  have n8 : ¬ (8 < (n : Int)) := by omega
  go_wp2_with fail
  refine (areBlocks_any n h1 h8 _ m cap rs _ (HR.out.below BB.out) hm X HX.out).mono ?_
  rw [HGB.out]
  rintro e w2 ⟨rfl, hb⟩
  replace RZ := Lib.hid (RZ.out.below hb)
  replace BB := Lib.hid (below_go BB.out hb BB.out.size)
  clear hb
  go_wp2_with fail
  refine (partOfBlocks_any n h1 h8 _ m cap rs _ (HR.out.below BB.out) hm X HX.out HGD.out).mono ?_
  rw [HPP.out]
  rintro e w3 ⟨rfl, hb⟩
  replace RZ := Lib.hid (RZ.out.below hb)
  replace BB := Lib.hid (below_go BB.out hb BB.out.size)
  clear hb
  have zh := RZ.out.lt
  have RP := Lib.hid (Row8.place w3 .u8 PP 24 w3.heap.size rfl HLP.out)
  replace RZ := Lib.hid (RZ.out.alloc (.cells #[.int .u8 (at8 PP 0), .int .u8 (at8 PP 1), .int .u8 (at8 PP 2), .int .u8 (at8 PP 3), .int .u8 (at8 PP 4), .int .u8 (at8 PP 5), .int .u8 (at8 PP 6), .int .u8 (at8 PP 7)] 24))
  replace BB := Lib.hid (BB.out.alloc BB.out.size (.cells #[.int .u8 (at8 PP 0), .int .u8 (at8 PP 1), .int .u8 (at8 PP 2), .int .u8 (at8 PP 3), .int .u8 (at8 PP 4), .int .u8 (at8 PP 5), .int .u8 (at8 PP 6), .int .u8 (at8 PP 7)] 24))
  obtain ⟨⟨q0, q1, q2, q3⟩, q4, q5, q6, q7⟩ := RP.out.all
  go_wp2_with fail
  refine (implIsPart_any (n : Int) PP HLP.out _).mono ?_
  rw [HPT.out]
  rintro e w4 ⟨rfl, hb⟩
  clear q0 q1 q2 q3 q4 q5 q6 q7
  replace RP := Lib.hid (RP.out.below hb)
  replace RZ := Lib.hid (RZ.out.below hb)
  replace BB := Lib.hid (below_go BB.out hb BB.out.size)
  clear hb
  obtain ⟨gh, hgh⟩ : ∃ gh, gh = w3.heap.size := ⟨_, rfl⟩
  rw [← hgh] at RP zh ⊢
  clear hgh
  obtain ⟨⟨d0, d1, d2, d3⟩, d4, d5, d6, d7⟩ := RZ.out.all
  obtain ⟨⟨f0, f1, f2, f3⟩, f4, f5, f6, f7⟩ := RZ.out.frees
  have zq := RZ.out.lt
  go_wp2
  obtain ⟨⟨e0, e1, e2, e3⟩, e4, e5, e6, e7⟩ := RZ.out.fillz
  refine bodyPost_ret (v := .tuple #[arr8 .u8 zeros8, .int .i64 1]) (by simp [results, Try.results37, go_sem, e0, e1, e2, e3, e4, e5, e6, e7, zeros8, at8]) rfl ⟨by rw [HNO.out]; rfl, ?_⟩
  exact below_fill8 BB.out _ (by omega) _ _ _ _ _ _ _ _

set_option maxRecDepth 100000 in
set_option maxHeartbeats 1000000 in
theorem implPartOfBlocks_yes (n : Nat) (h1 : 1 ≤ n) (h8 : n ≤ 8) (ad : Option Addr) (m cap : Nat) (rs : List RowV) (w : World) (hr : ReadsSS w ad m rs) (hm : m ≤ 1048576) (X : List (List Int)) (hX : X = rs.map RowV.xs) (hg : Good (n : Int) X) (hc : crN (nx (leastOf X)) n = false) :
    Calls Try.prog 37 #[.slice ad m cap, .int .i64 n] w fun e w' => e = .returned (.tuple #[arr8 .u8 (mPartsOf (n : Int) X).1, .int .i64 (mPartsOf (n : Int) X).2]) ∧ Below w.heap.size w w' := by
  have HYES := Lib.hid (mParts_yes h1 h8 hg hc)
  have HGB := Lib.hid (goodB_yes hg)
  have HGD := Lib.hid hg
  have HPT := Lib.hid (isPt_made h1 h8 (leastOf_cls h8 hg))
  rw [hc] at HPT
  clear hg hc
  have hlp : (madeR n (leastOf X)).length = 8 := mapR_len _ _ h8
  obtain ⟨PP, hPP⟩ : ∃ PP, PP = madeR n (leastOf X) := ⟨_, rfl⟩
  rw [← hPP] at HPT hlp HYES
  have HPP := Lib.hid hPP.symm
  have HLP := Lib.hid hlp
  clear hPP hlp
  have HX := Lib.hid hX
  have HR := Lib.hid hr
  clear hr hX
  go_enter Try.func37, Try.ntmps37
  have RZ := Lib.hid (Row8.zeros w .u8 24 w.heap.size rfl)
  have BB := Lib.hid (below1 w (.cells #[.int .u8 0, .int .u8 0, .int .u8 0, .int .u8 0, .int .u8 0, .int .u8 0, .int .u8 0, .int .u8 0] 24))
  have n1 : ¬ ((n : Int) < 1) := by omega
  have n8 : ¬ (8 < (n : Int)) := by omega
  go_wp2_with fail
  refine (areBlocks_any n h1 h8 _ m cap rs _ (HR.out.below BB.out) hm X HX.out).mono ?_
  rw [HGB.out]
  rintro e w2 ⟨rfl, hb⟩
  replace RZ := Lib.hid (RZ.out.below hb)
  replace BB := Lib.hid (below_go BB.out hb BB.out.size)
  clear hb
  go_wp2_with fail
  refine (partOfBlocks_any n h1 h8 _ m cap rs _ (HR.out.below BB.out) hm X HX.out HGD.out).mono ?_
  rw [HPP.out]
  rintro e w3 ⟨rfl, hb⟩
  replace RZ := Lib.hid (RZ.out.below hb)
  replace BB := Lib.hid (below_go BB.out hb BB.out.size)
  clear hb
  have zh := RZ.out.lt
  have RP := Lib.hid (Row8.place w3 .u8 PP 24 w3.heap.size rfl HLP.out)
  replace RZ := Lib.hid (RZ.out.alloc (.cells #[.int .u8 (at8 PP 0), .int .u8 (at8 PP 1), .int .u8 (at8 PP 2), .int .u8 (at8 PP 3), .int .u8 (at8 PP 4), .int .u8 (at8 PP 5), .int .u8 (at8 PP 6), .int .u8 (at8 PP 7)] 24))
  replace BB := Lib.hid (BB.out.alloc BB.out.size (.cells #[.int .u8 (at8 PP 0), .int .u8 (at8 PP 1), .int .u8 (at8 PP 2), .int .u8 (at8 PP 3), .int .u8 (at8 PP 4), .int .u8 (at8 PP 5), .int .u8 (at8 PP 6), .int .u8 (at8 PP 7)] 24))
  obtain ⟨⟨q0, q1, q2, q3⟩, q4, q5, q6, q7⟩ := RP.out.all
  go_wp2_with fail
  refine (implIsPart_any (n : Int) PP HLP.out _).mono ?_
  rw [HPT.out]
  rintro e w4 ⟨rfl, hb⟩
  clear q0 q1 q2 q3 q4 q5 q6 q7
  replace RP := Lib.hid (RP.out.below hb)
  replace RZ := Lib.hid (RZ.out.below hb)
  replace BB := Lib.hid (below_go BB.out hb BB.out.size)
  clear hb
  obtain ⟨gh, hgh⟩ : ∃ gh, gh = w3.heap.size := ⟨_, rfl⟩
  rw [← hgh] at RP zh ⊢
  clear hgh
  obtain ⟨⟨q0, q1, q2, q3⟩, q4, q5, q6, q7⟩ := RP.out.all
  obtain ⟨⟨d0, d1, d2, d3⟩, d4, d5, d6, d7⟩ := RZ.out.all
  obtain ⟨⟨f0, f1, f2, f3⟩, f4, f5, f6, f7⟩ := RZ.out.frees
  have zq := RZ.out.lt
  go_wp2
  obtain ⟨⟨e0, e1, e2, e3⟩, e4, e5, e6, e7⟩ := (RZ.out.fill PP HLP.out).all
  refine bodyPost_ret (v := .tuple #[arr8 .u8 PP, .int .i64 0]) (by simp [results, Try.results37, go_sem, e0, e1, e2, e3, e4, e5, e6, e7]) rfl ⟨by rw [HYES.out], ?_⟩
  exact below_fill8 BB.out _ (by omega) _ _ _ _ _ _ _ _

theorem implPartOfBlocks_any (n : Int) (ad : Option Addr) (m cap : Nat) (rs : List RowV) (w : World) (hr : ReadsSS w ad m rs) (hm : m ≤ 1048576) (X : List (List Int)) (hX : X = rs.map RowV.xs) :
    Calls Try.prog 37 #[.slice ad m cap, .int .i64 n] w fun e w' => e = .returned (.tuple #[arr8 .u8 (mPartsOf n X).1, .int .i64 (mPartsOf n X).2]) ∧ Below w.heap.size w w' := by
  by_cases hlo : n < 1
  · exact implPartOfBlocks_lo n hlo ad m cap X w
  · by_cases hhi : 8 < n
    · exact implPartOfBlocks_hi n hhi ad m cap X w
    · obtain ⟨k, rfl⟩ : ∃ k : Nat, n = k := ⟨n.toNat, by omega⟩
      by_cases hg : Good (k : Int) X
      · cases hc : crN (nx (leastOf X)) k with
        | true => exact implPartOfBlocks_cross k (by omega) (by omega) ad m cap rs w hr hm X hX hg hc
        | false => exact implPartOfBlocks_yes k (by omega) (by omega) ad m cap rs w hr hm X hX hg hc
      · exact implPartOfBlocks_bad k (by omega) (by omega) ad m cap rs w hr hm X hX hg

theorem specPartOfBlocks_any (n : Int) (ad : Option Addr) (m cap : Nat) (rs : List RowV) (w : World) (hr : ReadsSS w ad m rs) (hm : m ≤ 1048576) (X : List (List Int)) (hX : X = rs.map RowV.xs) :
    Calls Try.prog 35 #[.slice ad m cap, .int .i64 n] w fun e w' => e = .returned (.tuple #[arr8 .u8 (mPartsOf n X).1, .int .i64 (mPartsOf n X).2]) ∧ Below w.heap.size w w' := by
  by_cases h : 1 ≤ n ∧ n ≤ 8
  · obtain ⟨k, rfl⟩ : ∃ k : Nat, n = k := ⟨n.toNat, by omega⟩
    exact specPartOfBlocks_yes k (by omega) (by omega) ad m cap rs w hr hm X hX
  · exact specPartOfBlocks_no n h ad m cap X w

theorem mParts_len (n : Int) (X : List (List Int)) : (mPartsOf n X).1.length = 8 := by
  unfold mPartsOf
  split
  · rename_i h
    split
    · rfl
    · exact mapR_len _ _ (by omega)
  · rfl

end Go.Proofs.Ythelncibpoijoaa
