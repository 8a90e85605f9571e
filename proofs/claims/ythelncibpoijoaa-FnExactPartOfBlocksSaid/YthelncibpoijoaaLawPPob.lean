/- The walk of the law of PartOfBlocks. -/
import Derived.Test.YthelncibpoijoaaLawPt
import Derived.Test.YthelncibpoijoaaLawSS
import Derived.Test.YthelncibpoijoaaEPPob
import Derived.Test.YthelncibpoijoaaSSe
namespace Go.Proofs.Ythelncibpoijoaa
open Go.RowKit Go.ChangeShapes

set_option maxRecDepth 100000 in
set_option maxHeartbeats 4000000 in
theorem fnExactPartOfBlocks_walk {ad : Option Addr} {m cap : Nat} {rs : List RowV} {n : Int} {w : World} (hr : ReadsLL w ad m rs) (hn : m ≤ maxLen) (_hn : (Lit.int .i64 n).wf = true) :
    Calls Try.prog 11 #[.slice ad m cap, .int .i64 n] w fun e w' => e = .returned (.bool true) ∧ Below w.heap.size w w' := by
  have HR := Lib.hid hr
  clear hr
  by_cases hfit : (m : Int) + totS rs ≤ 1048576
  rotate_left
  · have HE : Hid (leftS m rs 1048576 = -1) := Lib.hid (by unfold leftS; rw [if_neg hfit])
    clear hfit
    go_enter Try.func11, Try.ntmps11
    go_wp2_with fail
    refine (szInt64SS_any ad m cap rs 1048576 _ HR.out hn (by omega) (by omega)).mono ?_
    rw [HE.out]
    rintro e w1 ⟨rfl, rfl⟩
    go_wp2
    go_ret
    exact ⟨rfl, Below.refl _ _⟩
  · have hm : m ≤ 1048576 := by omega
    obtain ⟨l, hl⟩ : ∃ l : Nat, leftS m rs 1048576 = l := ⟨((1048576 : Int) - m - totS rs).toNat, by unfold leftS; rw [if_pos hfit]; omega⟩
    have HE := Lib.hid hl
    have HS := Lib.hid (HR.out.short (by omega))
    obtain ⟨X, hX⟩ : ∃ X, X = rs.map RowV.xs := ⟨_, rfl⟩
    have HX := Lib.hid hX
    obtain ⟨r, c, hM⟩ : ∃ r c, mPartsOf n X = (r, c) := ⟨_, _, rfl⟩
    have HM := Lib.hid hM
    have HLR : Hid (r.length = 8) := Lib.hid (by have h := mParts_len n X; rw [hM] at h; exact h)
    have hl0 : ¬ ((l : Int) < 0) := by omega
    clear hfit hl hX hM
    go_enter Try.func11, Try.ntmps11
    go_wp2_with fail
    refine (szInt64SS_any ad m cap rs 1048576 _ HR.out hn (by omega) (by omega)).mono ?_
    rw [HE.out]
    rintro e w1 ⟨rfl, rfl⟩
    go_wp2_with fail
    refine (toInt64SS_any ad m cap rs _ HS.out hm).mono ?_
    rintro e w1 ⟨a1, s1, rfl, h1, h1e, hb⟩
    have BB := Lib.hid hb
    have H1 := Lib.hid h1
    have H1E := Lib.hid h1e
    clear hb h1 h1e
    go_wp2_with fail
    refine (specPartOfBlocks_any n a1 m m s1 _ H1.out hm X (by rw [HX.out, H1E.out])).mono ?_
    rw [HM.out]
    rintro e w2 ⟨rfl, hb⟩
    replace BB := Lib.hid (below_go BB.out hb BB.out.size)
    clear hb H1 H1E
    have RW := Lib.hid (Row8.place w2 .u8 r 24 w2.heap.size rfl HLR.out)
    replace BB := Lib.hid (BB.out.alloc BB.out.size (.cells #[.int .u8 (at8 r 0), .int .u8 (at8 r 1), .int .u8 (at8 r 2), .int .u8 (at8 r 3), .int .u8 (at8 r 4), .int .u8 (at8 r 5), .int .u8 (at8 r 6), .int .u8 (at8 r 7)] 24))
    go_wp2_with fail
    refine (toInt64SS_any ad m cap rs _ (HS.out.below BB.out) hm).mono ?_
    rintro e w3 ⟨a3, s3, rfl, h3, h3e, hb⟩
    replace RW := Lib.hid (RW.out.below hb)
    replace BB := Lib.hid (below_go BB.out hb BB.out.size)
    have H3 := Lib.hid h3
    have H3E := Lib.hid h3e
    clear hb h3 h3e
    obtain ⟨g1, hg1⟩ : ∃ g, g = w2.heap.size := ⟨_, rfl⟩
    rw [← hg1] at RW ⊢
    clear hg1
    go_wp2_with fail
    refine (implPartOfBlocks_any n a3 m m s3 _ H3.out hm X (by rw [HX.out, H3E.out])).mono ?_
    rw [HM.out]
    rintro e w4 ⟨rfl, hb⟩
    replace RW := Lib.hid (RW.out.below hb)
    replace H3 := Lib.hid (H3.out.below hb)
    replace BB := Lib.hid (below_go BB.out hb BB.out.size)
    clear hb
    have RG := Lib.hid (Row8.place w4 .u8 r 24 w4.heap.size rfl HLR.out)
    replace H3 := Lib.hid (H3.out.below ((Below.refl w4.heap.size w4).alloc (Nat.le_refl _) (.cells #[.int .u8 (at8 r 0), .int .u8 (at8 r 1), .int .u8 (at8 r 2), .int .u8 (at8 r 3), .int .u8 (at8 r 4), .int .u8 (at8 r 5), .int .u8 (at8 r 6), .int .u8 (at8 r 7)] 24)))
    have zr := RW.out.lt
    replace RW := Lib.hid (RW.out.alloc (.cells #[.int .u8 (at8 r 0), .int .u8 (at8 r 1), .int .u8 (at8 r 2), .int .u8 (at8 r 3), .int .u8 (at8 r 4), .int .u8 (at8 r 5), .int .u8 (at8 r 6), .int .u8 (at8 r 7)] 24))
    replace BB := Lib.hid (BB.out.alloc BB.out.size (.cells #[.int .u8 (at8 r 0), .int .u8 (at8 r 1), .int .u8 (at8 r 2), .int .u8 (at8 r 3), .int .u8 (at8 r 4), .int .u8 (at8 r 5), .int .u8 (at8 r 6), .int .u8 (at8 r 7)] 24))
    have t1 : (c != c) = false := by simp
    obtain ⟨⟨q0, q1, q2, q3⟩, q4, q5, q6, q7⟩ := RG.out.all
    obtain ⟨⟨p0, p1, p2, p3⟩, p4, p5, p6, p7⟩ := RW.out.all
    go_wp2_with fail
    refine (eqPart_yes r HLR.out _).mono ?_
    rintro e w5 ⟨rfl, hb⟩
    clear q0 q1 q2 q3 q4 q5 q6 q7 p0 p1 p2 p3 p4 p5 p6 p7 zr RW RG
    replace H3 := Lib.hid (H3.out.below hb)
    replace BB := Lib.hid (below_go BB.out hb BB.out.size)
    clear hb
    go_wp2_with fail
    refine (toInt64SS_any ad m cap rs _ (HS.out.below BB.out) hm).mono ?_
    rintro e w6 ⟨a6, s6, rfl, h6, h6e, hb⟩
    replace H3 := Lib.hid (H3.out.below hb)
    replace BB := Lib.hid (below_go BB.out hb BB.out.size)
    have H6 := Lib.hid h6
    have H6E := Lib.hid h6e
    clear hb h6 h6e
    go_wp2_with fail
    refine (eqInt64SS_yes a3 a6 m m m s3 s6 _ H3.out H6.out (H3E.out.trans H6E.out.symm) hm).mono ?_
    rintro e w7 ⟨rfl, hb⟩
    replace BB := Lib.hid (below_go BB.out hb BB.out.size)
    clear hb
    go_wp2
    go_ret
    exact ⟨rfl, BB.out⟩

end Go.Proofs.Ythelncibpoijoaa
