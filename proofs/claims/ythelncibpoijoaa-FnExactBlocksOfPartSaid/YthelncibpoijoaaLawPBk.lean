/- The walk of the law of BlocksOfPart. -/
import Derived.Test.YthelncibpoijoaaLawPt
import Derived.Test.YthelncibpoijoaaEPBk
import Derived.Test.YthelncibpoijoaaSSe
namespace Go.Proofs.Ythelncibpoijoaa
open Go.RowKit Go.ChangeShapes

set_option maxRecDepth 100000 in
set_option maxHeartbeats 4000000 in
theorem fnExactBlocksOfPart_walk {n : Int} {a : List Int} {w : World} (la : a.length = 8) (ya : Bytes8 a) (_hn : (Lit.int .i64 n).wf = true) :
    Calls Try.prog 12 #[arr8 .u8 a, .int .i64 n] w fun e w' => e = .returned (.bool true) ∧ Below w.heap.size w w' := by
  obtain ⟨r, c, hM⟩ : ∃ r c, mBlocksOf n a = (r, c) := ⟨_, _, rfl⟩
  have HM := Lib.hid hM
  have HLN := Lib.hid (mBlocksOf_len la hM)
  clear hM
  have LA := Lib.hid la
  have YA := Lib.hid ya
  clear ya
  go_enter Try.func12, Try.ntmps12
  have RA := Lib.hid (Row8.place w .u8 a 22 w.heap.size rfl la)
  have BB := Lib.hid (below1 w (.cells #[.int .u8 (at8 a 0), .int .u8 (at8 a 1), .int .u8 (at8 a 2), .int .u8 (at8 a 3), .int .u8 (at8 a 4), .int .u8 (at8 a 5), .int .u8 (at8 a 6), .int .u8 (at8 a 7)] 22))
  clear la
  obtain ⟨⟨q0, q1, q2, q3⟩, q4, q5, q6, q7⟩ := RA.out.all
  go_wp2_with fail
  refine (toPart_any a LA.out _).mono ?_
  rintro e wt ⟨rfl, hb⟩
  clear q0 q1 q2 q3 q4 q5 q6 q7
  replace RA := Lib.hid (RA.out.below hb)
  replace BB := Lib.hid (below_go BB.out hb BB.out.size)
  clear hb
  go_wp2_with fail
  refine (specBlocksOfPart_any n a LA.out YA.out r c HM.out _).mono ?_
  rintro e wW ⟨aW, cW, sW, rfl, hW, gW, hb⟩
  replace RA := Lib.hid (RA.out.below hb)
  have zW := gW.ownSS
  replace BB := Lib.hid (below_go BB.out hb BB.out.size)
  have HW := Lib.hid hW
  have OW := Lib.hid zW
  have NW : Hid (∀ x ∈ sW, x.n ≤ 1048576) := Lib.hid (fun x hx => (gW.row x hx).2.1)
  clear hb hW gW zW
  obtain ⟨lo1, hlo1⟩ : ∃ l, l = wt.heap.size := ⟨_, rfl⟩
  rw [← hlo1] at OW
  clear hlo1
  obtain ⟨hi1, hhi1⟩ : ∃ l, l = wW.heap.size := ⟨_, rfl⟩
  have ZH := Lib.hid hhi1
  rw [← hhi1] at OW
  clear hhi1
  obtain ⟨⟨q0, q1, q2, q3⟩, q4, q5, q6, q7⟩ := RA.out.all
  go_wp2_with fail
  refine (toPart_any a LA.out _).mono ?_
  rintro e wu ⟨rfl, hb⟩
  clear q0 q1 q2 q3 q4 q5 q6 q7
  replace RA := Lib.hid (RA.out.below hb)
  replace OW := Lib.hid (OW.out.below hb)
  replace BB := Lib.hid (below_go BB.out hb BB.out.size)
  have zu := hb.size
  have zra := RA.out.lt
  rw [← ZH.out] at zu
  clear hb
  go_wp2_with fail
  refine (implBlocksOfPart_any n a LA.out YA.out r c HM.out _).mono ?_
  rintro e wG ⟨aG, cG, sG, rfl, hG, gG, hb⟩
  replace RA := Lib.hid (RA.out.below hb)
  replace OW := Lib.hid (OW.out.below hb)
  have zG := gG.ownSS
  replace BB := Lib.hid (below_go BB.out hb BB.out.size)
  have HG := Lib.hid hG
  have OG := Lib.hid zG
  have NG : Hid (∀ x ∈ sG, x.n ≤ 1048576) := Lib.hid (fun x hx => (gG.row x hx).2.1)
  clear hb hG gG zG
  obtain ⟨lo2, hlo2⟩ : ∃ l, l = wu.heap.size := ⟨_, rfl⟩
  rw [← hlo2] at OG zu zra
  have ZL := Lib.hid hlo2
  clear hlo2
  obtain ⟨hi2, hhi2⟩ : ∃ l, l = wG.heap.size := ⟨_, rfl⟩
  rw [← hhi2] at OG
  clear hhi2
  have HGW : Hid (sG.map RowV.xs = sW.map RowV.xs) := Lib.hid (by rw [HG.out, HW.out])
  have hlen : sW.length = sG.length := by
    have h := congrArg List.length HGW.out
    simpa using h.symm
  have h8 : sG.length ≤ 8 := by
    have h := HLN.out
    rw [← HG.out, List.length_map] at h
    exact h
  have htot := totS_le sG NG.out
  rw [hlen] at OW ⊢
  have HLE := Lib.hid hlen
  clear hlen
  have t1 : (c != c) = false := by simp
  go_wp2_with fail
  refine (eqInt64SS_yes aG aW sG.length cG cW sG sW _ OG.out.reads OW.out.reads HGW.out (by omega)).mono ?_
  rintro e w3 ⟨rfl, hb⟩
  replace RA := Lib.hid (RA.out.below hb)
  replace OW := Lib.hid (OW.out.below hb)
  replace OG := Lib.hid (OG.out.below hb)
  replace BB := Lib.hid (below_go BB.out hb BB.out.size)
  clear hb
  go_wp2_with fail
  refine (markInt64SS_any lo2 hi2 aG sG.length cG sG 1 _ OG.out (by omega) (by omega) (by omega)).mono ?_
  rintro e w4 ⟨rfl, ho, hw⟩
  replace OG := Lib.hid ho
  replace OW := Lib.hid (OW.out.wrote hw (.inl zu))
  have zl : w.heap.size < lo2 := zra
  replace RA := Lib.hid (RA.out.heap hw.size (hw.block _ RA.out.lt (by omega)))
  replace BB := Lib.hid (below_write BB.out hw (by omega) BB.out.size)
  clear ho hw
  obtain ⟨mk, hmk⟩ : ∃ m : Int, m = 1 + (totS sG : Int) := ⟨_, rfl⟩
  have HMK := Lib.hid hmk
  rw [← hmk]
  clear hmk
  have t2 : (mk != mk) = false := by simp
  have t3 : decide (mk < 0) = false := decide_eq_false (by have := HMK.out; omega)
  go_wp2_with fail
  refine (heldInt64SS_any aG sG.length cG sG 1 _ OG.out.reads (by omega) (by omega) (by omega)).mono ?_
  rw [← HMK.out]
  rintro e w5 ⟨rfl, rfl⟩
  obtain ⟨⟨q0, q1, q2, q3⟩, q4, q5, q6, q7⟩ := RA.out.all
  go_wp2_with fail
  refine (toPart_any a LA.out _).mono ?_
  rintro e wv ⟨rfl, hb⟩
  clear q0 q1 q2 q3 q4 q5 q6 q7
  replace RA := Lib.hid (RA.out.below hb)
  replace OW := Lib.hid (OW.out.below hb)
  replace OG := Lib.hid (OG.out.below hb)
  replace BB := Lib.hid (below_go BB.out hb BB.out.size)
  clear hb
  go_wp2_with fail
  refine (implBlocksOfPart_any n a LA.out YA.out r c HM.out _).mono ?_
  rintro e wK ⟨aK, cK, sK, rfl, hK, gK, hb⟩
  replace RA := Lib.hid (RA.out.below hb)
  replace OW := Lib.hid (OW.out.below hb)
  replace OG := Lib.hid (OG.out.below hb)
  have zK := gK.ownSS
  replace BB := Lib.hid (below_go BB.out hb BB.out.size)
  have HK := Lib.hid hK
  have OK := Lib.hid zK
  have NK : Hid (∀ x ∈ sK, x.n ≤ 1048576) := Lib.hid (fun x hx => (gK.row x hx).2.1)
  clear hb hK gK zK
  have HKW : Hid (sK.map RowV.xs = sW.map RowV.xs) := Lib.hid (by rw [HK.out, HW.out])
  have hlen2 : sK.length = sG.length := by
    have h := congrArg List.length HKW.out
    have h3 := HLE.out
    simp at h
    omega
  rw [hlen2] at OK ⊢
  clear hlen2
  go_wp2_with fail
  refine (eqInt64SS_yes aK aW sG.length cK cW sK sW _ OK.out.reads OW.out.reads HKW.out (by omega)).mono ?_
  rintro e w6 ⟨rfl, hb⟩
  replace OG := Lib.hid (OG.out.below hb)
  replace BB := Lib.hid (below_go BB.out hb BB.out.size)
  clear hb
  go_wp2_with fail
  refine (heldInt64SS_any aG sG.length cG sG 1 _ OG.out.reads (by omega) (by omega) (by omega)).mono ?_
  rw [← HMK.out]
  rintro e w7 ⟨rfl, rfl⟩
  go_wp2
  go_ret
  exact ⟨rfl, BB.out⟩

end Go.Proofs.Ythelncibpoijoaa
