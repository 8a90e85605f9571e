/- The walk of the law of impl.TorusBraid: the model's answer and the program's are compared, marks are written into what came back and looked for. -/
import Derived.Test.YtehcbamfendbaaaTor
import Derived.Deep.RegionHeld3
namespace Go.Proofs.Ytehcbamfendbaaa
open Go.RowKit Go.ChangeShapes

set_option maxRecDepth 100000 in
set_option maxHeartbeats 4000000 in
theorem fnExactTorusBraid_walk {s0 : Int} {s1 : Int} {w : World} (hs0 : (Lit.int .i64 s0).wf = true) (hs1 : (Lit.int .i64 s1).wf = true) :
    Calls Try.prog 10 #[.int .i64 s0, .int .i64 s1] w fun e w' => e = .returned (.bool true) ∧ Below w.heap.size w w' := by
  have HS0 := Lib.hid hs0; clear hs0
  have HS1 := Lib.hid hs1; clear hs1
  obtain ⟨fs, fxs, fc, hM⟩ : ∃ fs fxs fc, mTor s0 s1 = (fs, fxs, fc) := ⟨_, _, _, rfl⟩
  have HM := Lib.hid hM; clear hM
  have t1 : (fc != fc) = false := by simp
  go_enter Try.func10, Try.ntmps10
  go_wp2_with fail
  refine (specTorusBraid_any HS0.out HS1.out HM.out).mono ?_
  rintro e w1 ⟨b1, m1, d1, rfl, hl1, ho, hb⟩
  have P1 : Hid (OwnIn (w.heap.size) w1.heap.size w1 b1 m1 d1 fxs) := Lib.hid (by simpa using ho.within); clear ho
  have z1 : w.heap.size ≤ w1.heap.size := hb.size
  have BB := Lib.hid hb
  clear hb
  replace P1 := Lib.hid (P1.out.alloc (.cells #[.int .i64 fs, .slice b1 m1 d1] 29))
  have W := Lib.hid (At2.new w1 (.int .i64 fs) (.slice b1 m1 d1) 29)
  replace BB := Lib.hid (BB.out.alloc (by first | omega | (simp; done) | (simp; omega)) (.cells #[.int .i64 fs, .slice b1 m1 d1] 29))
  go_wp2_with fail
  refine (implTorusBraid_any HS0.out HS1.out HM.out).mono ?_
  rintro e w2 ⟨b2, m2, d2, rfl, hl2, ho, hb⟩
  have P2 : Hid (OwnIn (w1.heap.size + 1) w2.heap.size w2 b2 m2 d2 fxs) := Lib.hid (by simpa using ho.within); clear ho
  replace P1 := Lib.hid (P1.out.below hb)
  replace W := Lib.hid (W.out.below hb)
  have z2 : w1.heap.size + 1 ≤ w2.heap.size := by have := hb.size; simp at this; omega
  replace BB := Lib.hid (below_go BB.out hb (by first | omega | (simp; done) | (simp; omega)))
  clear hb
  obtain ⟨qW1, qW2, qW3, qW4, qW5⟩ := W.out
  replace P1 := Lib.hid (P1.out.alloc (.cells #[.int .i64 fs, .slice b2 m2 d2] 29))
  replace W := Lib.hid (W.out.alloc (.cells #[.int .i64 fs, .slice b2 m2 d2] 29))
  replace P2 := Lib.hid (P2.out.alloc (.cells #[.int .i64 fs, .slice b2 m2 d2] 29))
  have G := Lib.hid (At2.new w2 (.int .i64 fs) (.slice b2 m2 d2) 29)
  replace BB := Lib.hid (BB.out.alloc (by first | omega | (simp; done) | (simp; omega)) (.cells #[.int .i64 fs, .slice b2 m2 d2] 29))
  go_wp2_with fail
  refine (eqBraid_yes _ _ _ _ _ _ _ fxs _ P2.out.reads P1.out.reads hl2).mono ?_
  rintro e w3 ⟨rfl, hb⟩
  clear qW1 qW2 qW3 qW4 qW5
  replace P1 := Lib.hid (P1.out.below hb)
  replace W := Lib.hid (W.out.below hb)
  replace P2 := Lib.hid (P2.out.below hb)
  replace G := Lib.hid (G.out.below hb)
  have z3 : w2.heap.size + 1 ≤ w3.heap.size := by have := hb.size; simp at this; omega
  replace BB := Lib.hid (below_go BB.out hb (by first | omega | (simp; done) | (simp; omega)))
  clear hb
  obtain ⟨qW1, qW2, qW3, qW4, qW5⟩ := W.out
  obtain ⟨qG1, qG2, qG3, qG4, qG5⟩ := G.out
  go_wp2_with fail
  refine (markBraid_in _ _ _ _ _ _ fxs _ _ P2.out hl2 (by omega) (by omega)).mono ?_
  rintro e w4 ⟨rfl, ho, hb⟩
  clear qW1 qW2 qW3 qW4 qW5 qG1 qG2 qG3 qG4 qG5
  replace P1 := Lib.hid (P1.out.wrote hb (by omega))
  replace W := Lib.hid (W.out.wrote hb (by omega))
  replace G := Lib.hid (G.out.wrote hb (by omega))
  have z4 : w3.heap.size ≤ w4.heap.size := hb.size
  replace BB := Lib.hid (below_write BB.out hb (by omega) (by omega))
  clear hb
  replace P2 := Lib.hid ho; clear ho
  obtain ⟨qW1, qW2, qW3, qW4, qW5⟩ := W.out
  obtain ⟨qG1, qG2, qG3, qG4, qG5⟩ := G.out
  have t3 : ((1 + (m2 : Int)) != (1 + (m2 : Int))) = false := by simp
  go_wp2_with fail
  refine (heldBraid_any _ _ _ _ _ _ P2.out.reads hl2 (by omega) (by omega)).mono ?_
  rintro e w5 ⟨rfl, hb⟩
  clear qW1 qW2 qW3 qW4 qW5 qG1 qG2 qG3 qG4 qG5
  replace P1 := Lib.hid (P1.out.below hb)
  replace W := Lib.hid (W.out.below hb)
  replace P2 := Lib.hid (P2.out.below hb)
  replace G := Lib.hid (G.out.below hb)
  have z5 : w4.heap.size ≤ w5.heap.size := hb.size
  replace BB := Lib.hid (below_go BB.out hb (by omega))
  clear hb
  obtain ⟨qW1, qW2, qW3, qW4, qW5⟩ := W.out
  obtain ⟨qG1, qG2, qG3, qG4, qG5⟩ := G.out
  go_wp2_with fail
  refine (implTorusBraid_any HS0.out HS1.out HM.out).mono ?_
  rintro e w6 ⟨b6, m6, d6, rfl, hl6, ho, hb⟩
  clear qW1 qW2 qW3 qW4 qW5 qG1 qG2 qG3 qG4 qG5
  have P6 : Hid (OwnIn (w5.heap.size) w6.heap.size w6 b6 m6 d6 fxs) := Lib.hid (by simpa using ho.within); clear ho
  replace P1 := Lib.hid (P1.out.below hb)
  replace W := Lib.hid (W.out.below hb)
  replace P2 := Lib.hid (P2.out.below hb)
  replace G := Lib.hid (G.out.below hb)
  have z6 : w5.heap.size ≤ w6.heap.size := hb.size
  replace BB := Lib.hid (below_go BB.out hb (by omega))
  clear hb
  obtain ⟨qW1, qW2, qW3, qW4, qW5⟩ := W.out
  obtain ⟨qG1, qG2, qG3, qG4, qG5⟩ := G.out
  replace P1 := Lib.hid (P1.out.alloc (.cells #[.int .i64 fs, .slice b6 m6 d6] 29))
  replace W := Lib.hid (W.out.alloc (.cells #[.int .i64 fs, .slice b6 m6 d6] 29))
  replace P2 := Lib.hid (P2.out.alloc (.cells #[.int .i64 fs, .slice b6 m6 d6] 29))
  replace G := Lib.hid (G.out.alloc (.cells #[.int .i64 fs, .slice b6 m6 d6] 29))
  replace P6 := Lib.hid (P6.out.alloc (.cells #[.int .i64 fs, .slice b6 m6 d6] 29))
  have H := Lib.hid (At2.new w6 (.int .i64 fs) (.slice b6 m6 d6) 29)
  replace BB := Lib.hid (BB.out.alloc (by first | omega | (simp; done) | (simp; omega)) (.cells #[.int .i64 fs, .slice b6 m6 d6] 29))
  go_wp2_with fail
  refine (eqBraid_yes _ _ _ _ _ _ _ fxs _ P6.out.reads P1.out.reads hl6).mono ?_
  rintro e w7 ⟨rfl, hb⟩
  clear qW1 qW2 qW3 qW4 qW5 qG1 qG2 qG3 qG4 qG5
  replace P1 := Lib.hid (P1.out.below hb)
  replace W := Lib.hid (W.out.below hb)
  replace P2 := Lib.hid (P2.out.below hb)
  replace G := Lib.hid (G.out.below hb)
  replace P6 := Lib.hid (P6.out.below hb)
  replace H := Lib.hid (H.out.below hb)
  have z7 : w6.heap.size + 1 ≤ w7.heap.size := by have := hb.size; simp at this; omega
  replace BB := Lib.hid (below_go BB.out hb (by first | omega | (simp; done) | (simp; omega)))
  clear hb
  obtain ⟨qW1, qW2, qW3, qW4, qW5⟩ := W.out
  obtain ⟨qG1, qG2, qG3, qG4, qG5⟩ := G.out
  obtain ⟨qH1, qH2, qH3, qH4, qH5⟩ := H.out
  go_wp2_with fail
  refine (heldBraid_any _ _ _ _ _ _ P2.out.reads hl2 (by omega) (by omega)).mono ?_
  rintro e w8 ⟨rfl, hb⟩
  clear qW1 qW2 qW3 qW4 qW5 qG1 qG2 qG3 qG4 qG5 qH1 qH2 qH3 qH4 qH5
  replace P1 := Lib.hid (P1.out.below hb)
  replace W := Lib.hid (W.out.below hb)
  replace P2 := Lib.hid (P2.out.below hb)
  replace G := Lib.hid (G.out.below hb)
  replace P6 := Lib.hid (P6.out.below hb)
  replace H := Lib.hid (H.out.below hb)
  have z8 : w7.heap.size ≤ w8.heap.size := hb.size
  replace BB := Lib.hid (below_go BB.out hb (by omega))
  clear hb
  go_wp2
  go_ret
  exact ⟨rfl, BB.out⟩

end Go.Proofs.Ytehcbamfendbaaa
