/- The walk of the law of impl.WordOfNormal: the model's answer and the program's are compared, marks are written into what came back and looked for. -/
import Derived.Test.YteffndmifogicaaNWordI
import Derived.Test.YteffndmifogicaaMC
import Derived.Test.YteffndmifogicaaMA
import Derived.Deep.RegionHeld3
namespace Go.Proofs.Yteffndmifogicaa
open Go.RowKit Go.ChangeShapes

set_option maxRecDepth 100000 in
set_option maxHeartbeats 4000000 in
theorem fnExactWordOfNormal_walk {s p : Int} {a : Option Addr} {n cap : Nat} {rs : List (List Int)} {w : World} (hr : ReadsA w a n rs) (hy : BytesA rs) (hn : n ≤ maxLen) :
    Calls Try.prog 5 #[.agg #[.int .i64 s, .int .i64 p, .slice a n cap]] w fun e w' => e = .returned (.bool true) ∧ Below w.heap.size w w' := by
  have R := Lib.hid hr.old; clear hr
  have HY := Lib.hid hy; clear hy
  by_cases h20 : n ≤ 1048576
  · obtain ⟨fxs, fc, hM⟩ : ∃ fxs fc, mNWord s p rs = (fxs, fc) := ⟨_, _, rfl⟩
    have HM := Lib.hid hM; clear hM
    have t1 : (fc != fc) = false := by simp
    go_enter Try.func5, Try.ntmps5
    replace R := Lib.hid (R.out.alloc (.cells #[.int .i64 s, .int .i64 p, .slice a n cap] 24))
    have A := Lib.hid (At3.place w (.int .i64 s) (.int .i64 p) (.slice a n cap) 24 w.heap.size rfl)
    have B := Lib.hid (below1 w (.cells #[.int .i64 s, .int .i64 p, .slice a n cap] 24))
    obtain ⟨qA1, qA2, qA3⟩ := A.out.cells
    go_wp2_with fail
    refine (szNormal_fit _ _ _ _ _ _ _ (by omega) (by omega)).mono ?_
    rintro e v1 ⟨rfl, hb⟩
    clear qA1 qA2 qA3
    replace R := Lib.hid (R.out.below hb)
    replace A := Lib.hid (A.out.below hb)
    replace B := Lib.hid (below_go B.out hb B.out.size)
    have z1 : w.heap.size + 1 ≤ v1.heap.size := by have := hb.size; (try simp at this); omega
    clear hb
    obtain ⟨qA1, qA2, qA3⟩ := A.out.cells
    go_wp2_with fail
    refine (toNormal_any _ _ _ _ _ rs _ R.out.1 h20).mono ?_
    rintro e v2 ⟨a2, n2, c2, rfl, ho, hb⟩
    clear qA1 qA2 qA3
    have hn2 : n2 ≤ 1048576 := by have := ho.len; have := R.out.1.len; omega
    have O2 : Hid (OwnAIn (v1.heap.size) v2.heap.size v2 a2 n2 c2 rs) := Lib.hid (by have := ho.within; simpa using this); clear ho
    replace R := Lib.hid (R.out.below hb)
    replace A := Lib.hid (A.out.below hb)
    replace B := Lib.hid (below_go B.out hb B.out.size)
    have z2 : v1.heap.size + 0 ≤ v2.heap.size := by have := hb.size; (try simp at this); omega
    clear hb
    obtain ⟨qA1, qA2, qA3⟩ := A.out.cells
    go_wp2_with fail
    refine (specWordOfNormal_any s p _ _ _ rs _ O2.out.reads HY.out hn2 _ _ HM.out).mono ?_
    rintro e v3 ⟨b3, m3, d3, rfl, hl3, ho, hb⟩
    clear qA1 qA2 qA3
    have P3 : Hid (OwnIn (v2.heap.size) v3.heap.size v3 b3 m3 d3 fxs) := Lib.hid (by have := ho.within; simpa using this); clear ho
    replace R := Lib.hid (R.out.below hb)
    replace A := Lib.hid (A.out.below hb)
    replace O2 := Lib.hid (O2.out.below hb)
    replace B := Lib.hid (below_go B.out hb B.out.size)
    have z3 : v2.heap.size + 0 ≤ v3.heap.size := by have := hb.size; (try simp at this); omega
    clear hb
    obtain ⟨qA1, qA2, qA3⟩ := A.out.cells
    go_wp2_with fail
    refine (toNormal_any _ _ _ _ _ rs _ R.out.1 h20).mono ?_
    rintro e v4 ⟨a4, n4, c4, rfl, ho, hb⟩
    clear qA1 qA2 qA3
    have hn4 : n4 ≤ 1048576 := by have := ho.len; have := R.out.1.len; omega
    have O4 : Hid (OwnAIn (v3.heap.size) v4.heap.size v4 a4 n4 c4 rs) := Lib.hid (by have := ho.within; simpa using this); clear ho
    replace R := Lib.hid (R.out.below hb)
    replace A := Lib.hid (A.out.below hb)
    replace O2 := Lib.hid (O2.out.below hb)
    replace P3 := Lib.hid (P3.out.below hb)
    replace B := Lib.hid (below_go B.out hb B.out.size)
    have z4 : v3.heap.size + 0 ≤ v4.heap.size := by have := hb.size; (try simp at this); omega
    clear hb
    replace R := Lib.hid (R.out.alloc (.cells #[.int .i64 s, .int .i64 p, .slice a4 n4 c4] 28))
    replace A := Lib.hid (A.out.alloc (.cells #[.int .i64 s, .int .i64 p, .slice a4 n4 c4] 28))
    replace O2 := Lib.hid (O2.out.alloc (.cells #[.int .i64 s, .int .i64 p, .slice a4 n4 c4] 28))
    replace P3 := Lib.hid (P3.out.alloc (.cells #[.int .i64 s, .int .i64 p, .slice a4 n4 c4] 28))
    replace O4 := Lib.hid (O4.out.alloc (.cells #[.int .i64 s, .int .i64 p, .slice a4 n4 c4] 28))
    have X := Lib.hid (At3.place v4 (.int .i64 s) (.int .i64 p) (.slice a4 n4 c4) 28 v4.heap.size rfl)
    replace B := Lib.hid (B.out.alloc B.out.size (.cells #[.int .i64 s, .int .i64 p, .slice a4 n4 c4] 28))
    obtain ⟨qA1, qA2, qA3⟩ := A.out.cells
    obtain ⟨qX1, qX2, qX3⟩ := X.out.cells
    go_wp2_with fail
    refine (implWordOfNormal_any s p _ _ _ rs _ O4.out.reads HY.out hn4 _ _ HM.out).mono ?_
    rintro e v5 ⟨b5, m5, d5, rfl, hl5, ho, hb⟩
    clear qA1 qA2 qA3 qX1 qX2 qX3
    have P5 : Hid (OwnIn (v4.heap.size + 1) v5.heap.size v5 b5 m5 d5 fxs) := Lib.hid (by have := ho.within; simpa using this); clear ho
    replace R := Lib.hid (R.out.below hb)
    replace A := Lib.hid (A.out.below hb)
    replace O2 := Lib.hid (O2.out.below hb)
    replace P3 := Lib.hid (P3.out.below hb)
    replace O4 := Lib.hid (O4.out.below hb)
    replace X := Lib.hid (X.out.below hb)
    replace B := Lib.hid (below_go B.out hb B.out.size)
    have z5 : v4.heap.size + 1 ≤ v5.heap.size := by have := hb.size; (try simp at this); omega
    clear hb
    obtain ⟨qA1, qA2, qA3⟩ := A.out.cells
    obtain ⟨qX1, qX2, qX3⟩ := X.out.cells
    go_wp2_with fail
    refine (eqInt64S_yes _ _ _ _ _ _ fxs _ P5.out.reads P3.out.reads hl5).mono ?_
    rintro e v6 ⟨rfl, hb⟩
    clear qA1 qA2 qA3 qX1 qX2 qX3
    replace R := Lib.hid (R.out.below hb)
    replace A := Lib.hid (A.out.below hb)
    replace O2 := Lib.hid (O2.out.below hb)
    replace P3 := Lib.hid (P3.out.below hb)
    replace O4 := Lib.hid (O4.out.below hb)
    replace X := Lib.hid (X.out.below hb)
    replace P5 := Lib.hid (P5.out.below hb)
    replace B := Lib.hid (below_go B.out hb B.out.size)
    have z6 : v5.heap.size + 0 ≤ v6.heap.size := by have := hb.size; (try simp at this); omega
    clear hb
    go_wp2
    replace R := Lib.hid R.out.drew
    replace A := Lib.hid A.out.drew
    replace O2 := Lib.hid O2.out.drew
    replace P3 := Lib.hid P3.out.drew
    replace O4 := Lib.hid O4.out.drew
    replace X := Lib.hid X.out.drew
    replace P5 := Lib.hid P5.out.drew
    replace B := Lib.hid B.out.drew
    go_region_held3 (fun w' => (w'.cell? ⟨w.heap.size, 0, none⟩ = some (.int .i64 s) ∧ w'.cell? ⟨w.heap.size, 1, none⟩ = some (.int .i64 p) ∧ w'.cell? ⟨w.heap.size, 2, none⟩ = some (.slice a n cap)) ∧ (w'.cell? ⟨v4.heap.size, 0, none⟩ = some (.int .i64 s) ∧ w'.cell? ⟨v4.heap.size, 1, none⟩ = some (.int .i64 p) ∧ w'.cell? ⟨v4.heap.size, 2, none⟩ = some (.slice a4 n4 c4))) (first | with_reducible exact ⟨A.out.cells, X.out.cells⟩)
      (first
        | (go_at_call 9; refine (toNormal_any _ _ _ _ _ rs _ R.out.1 h20).mono ?_; rintro e u1 ⟨ax, nx, cx, rfl, ho6, hb⟩; have OX := Lib.hid ho6.reads; have zx1 := hb.size; replace R := Lib.hid (R.out.below hb); replace A := Lib.hid (A.out.below hb); replace O2 := Lib.hid (O2.out.below hb); replace P3 := Lib.hid (P3.out.below hb); replace O4 := Lib.hid (O4.out.below hb); replace X := Lib.hid (X.out.below hb); replace P5 := Lib.hid (P5.out.below hb); replace B := Lib.hid (below_go B.out hb B.out.size))
        | (go_at_call 11; refine (eqNormal_yesn _ _ _ _ _ _ _ _ rs _ O4.out.reads OX.out hn4).mono ?_; rintro e u2 ⟨rfl, hb⟩; have zx2 := hb.size; replace R := Lib.hid (R.out.below hb); replace A := Lib.hid (A.out.below hb); replace O2 := Lib.hid (O2.out.below hb); replace P3 := Lib.hid (P3.out.below hb); replace O4 := Lib.hid (O4.out.below hb); replace X := Lib.hid (X.out.below hb); replace P5 := Lib.hid (P5.out.below hb); replace B := Lib.hid (below_go B.out hb B.out.size)))
    have zx : v6.heap.size + 0 ≤ u2.heap.size := by (try simp at zx1 zx2); omega
    clear zx1 zx2 OX
    obtain ⟨qA1, qA2, qA3⟩ := A.out.cells
    obtain ⟨qX1, qX2, qX3⟩ := X.out.cells
    go_wp2_with fail
    refine (markNormal_in _ _ _ _ _ _ _ rs _ _ O4.out hn4 (by omega) (by omega)).mono ?_
    rintro e v7 ⟨rfl, ho, hb⟩
    clear qA1 qA2 qA3 qX1 qX2 qX3
    replace R := Lib.hid (R.out.wrote hb (by omega))
    replace A := Lib.hid (A.out.wrote hb (by omega))
    replace O2 := Lib.hid (O2.out.wrote hb (by omega))
    replace P3 := Lib.hid (P3.out.wrote hb (by omega))
    replace X := Lib.hid (X.out.wrote hb (by omega))
    replace P5 := Lib.hid (P5.out.wrote hb (by omega))
    replace B := Lib.hid (below_write B.out hb (by omega) B.out.size)
    have z7 : u2.heap.size + 0 ≤ v7.heap.size := by have := hb.size; (try simp at this); omega
    replace O4 := Lib.hid ho; clear ho hb
    obtain ⟨qA1, qA2, qA3⟩ := A.out.cells
    obtain ⟨qX1, qX2, qX3⟩ := X.out.cells
    go_wp2_with fail
    refine (eqInt64S_yes _ _ _ _ _ _ fxs _ P5.out.reads P3.out.reads hl5).mono ?_
    rintro e v8 ⟨rfl, hb⟩
    clear qA1 qA2 qA3 qX1 qX2 qX3
    replace R := Lib.hid (R.out.below hb)
    replace A := Lib.hid (A.out.below hb)
    replace O2 := Lib.hid (O2.out.below hb)
    replace P3 := Lib.hid (P3.out.below hb)
    replace X := Lib.hid (X.out.below hb)
    replace P5 := Lib.hid (P5.out.below hb)
    replace B := Lib.hid (below_go B.out hb B.out.size)
    have z8 : v7.heap.size + 0 ≤ v8.heap.size := by have := hb.size; (try simp at this); omega
    clear hb
    obtain ⟨qA1, qA2, qA3⟩ := A.out.cells
    obtain ⟨qX1, qX2, qX3⟩ := X.out.cells
    go_wp2_with fail
    refine (markInt64S_in _ _ _ _ _ fxs _ _ P5.out hl5 (by omega) (by omega)).mono ?_
    rintro e v9 ⟨rfl, ho, hb⟩
    clear qA1 qA2 qA3 qX1 qX2 qX3
    replace R := Lib.hid (R.out.wrote hb (by omega))
    replace A := Lib.hid (A.out.wrote hb (by omega))
    replace O2 := Lib.hid (O2.out.wrote hb (by omega))
    replace P3 := Lib.hid (P3.out.wrote hb (by omega))
    replace X := Lib.hid (X.out.wrote hb (by omega))
    replace B := Lib.hid (below_write B.out hb (by omega) B.out.size)
    have z9 : v8.heap.size + 0 ≤ v9.heap.size := by have := hb.size; (try simp at this); omega
    replace P5 := Lib.hid ho; clear ho hb
    have t3 : ((1 + (m5 : Int)) != (1 + (m5 : Int))) = false := by simp
    obtain ⟨qA1, qA2, qA3⟩ := A.out.cells
    obtain ⟨qX1, qX2, qX3⟩ := X.out.cells
    go_wp2_with fail
    refine (heldInt64S_be _ _ _ _ _ P5.out.reads hl5 (by omega) (by omega)).mono ?_
    rintro e v10 ⟨rfl, hb⟩
    clear qA1 qA2 qA3 qX1 qX2 qX3
    replace R := Lib.hid (R.out.below hb)
    replace A := Lib.hid (A.out.below hb)
    replace O2 := Lib.hid (O2.out.below hb)
    replace P3 := Lib.hid (P3.out.below hb)
    replace X := Lib.hid (X.out.below hb)
    replace P5 := Lib.hid (P5.out.below hb)
    replace B := Lib.hid (below_go B.out hb B.out.size)
    have z10 : v9.heap.size + 0 ≤ v10.heap.size := by have := hb.size; (try simp at this); omega
    clear hb
    obtain ⟨qA1, qA2, qA3⟩ := A.out.cells
    obtain ⟨qX1, qX2, qX3⟩ := X.out.cells
    go_wp2_with fail
    refine (toNormal_any _ _ _ _ _ rs _ R.out.1 h20).mono ?_
    rintro e v11 ⟨a11, n11, c11, rfl, ho, hb⟩
    clear qA1 qA2 qA3 qX1 qX2 qX3
    have hn11 : n11 ≤ 1048576 := by have := ho.len; have := R.out.1.len; omega
    have O11 : Hid (OwnAIn (v10.heap.size) v11.heap.size v11 a11 n11 c11 rs) := Lib.hid (by have := ho.within; simpa using this); clear ho
    replace R := Lib.hid (R.out.below hb)
    replace A := Lib.hid (A.out.below hb)
    replace O2 := Lib.hid (O2.out.below hb)
    replace P3 := Lib.hid (P3.out.below hb)
    replace X := Lib.hid (X.out.below hb)
    replace P5 := Lib.hid (P5.out.below hb)
    replace B := Lib.hid (below_go B.out hb B.out.size)
    have z11 : v10.heap.size + 0 ≤ v11.heap.size := by have := hb.size; (try simp at this); omega
    clear hb
    obtain ⟨qA1, qA2, qA3⟩ := A.out.cells
    obtain ⟨qX1, qX2, qX3⟩ := X.out.cells
    go_wp2_with fail
    refine (implWordOfNormal_any s p _ _ _ rs _ O11.out.reads HY.out hn11 _ _ HM.out).mono ?_
    rintro e v12 ⟨b12, m12, d12, rfl, hl12, ho, hb⟩
    clear qA1 qA2 qA3 qX1 qX2 qX3
    have P12 : Hid (OwnIn (v11.heap.size) v12.heap.size v12 b12 m12 d12 fxs) := Lib.hid (by have := ho.within; simpa using this); clear ho
    replace R := Lib.hid (R.out.below hb)
    replace A := Lib.hid (A.out.below hb)
    replace O2 := Lib.hid (O2.out.below hb)
    replace P3 := Lib.hid (P3.out.below hb)
    replace X := Lib.hid (X.out.below hb)
    replace P5 := Lib.hid (P5.out.below hb)
    replace O11 := Lib.hid (O11.out.below hb)
    replace B := Lib.hid (below_go B.out hb B.out.size)
    have z12 : v11.heap.size + 0 ≤ v12.heap.size := by have := hb.size; (try simp at this); omega
    clear hb
    obtain ⟨qA1, qA2, qA3⟩ := A.out.cells
    obtain ⟨qX1, qX2, qX3⟩ := X.out.cells
    go_wp2_with fail
    refine (eqInt64S_yes _ _ _ _ _ _ fxs _ P12.out.reads P3.out.reads hl12).mono ?_
    rintro e v13 ⟨rfl, hb⟩
    clear qA1 qA2 qA3 qX1 qX2 qX3
    replace R := Lib.hid (R.out.below hb)
    replace A := Lib.hid (A.out.below hb)
    replace O2 := Lib.hid (O2.out.below hb)
    replace P3 := Lib.hid (P3.out.below hb)
    replace X := Lib.hid (X.out.below hb)
    replace P5 := Lib.hid (P5.out.below hb)
    replace O11 := Lib.hid (O11.out.below hb)
    replace P12 := Lib.hid (P12.out.below hb)
    replace B := Lib.hid (below_go B.out hb B.out.size)
    have z13 : v12.heap.size + 0 ≤ v13.heap.size := by have := hb.size; (try simp at this); omega
    clear hb
    obtain ⟨qA1, qA2, qA3⟩ := A.out.cells
    obtain ⟨qX1, qX2, qX3⟩ := X.out.cells
    go_wp2_with fail
    refine (heldInt64S_be _ _ _ _ _ P5.out.reads hl5 (by omega) (by omega)).mono ?_
    rintro e v14 ⟨rfl, hb⟩
    clear qA1 qA2 qA3 qX1 qX2 qX3
    replace R := Lib.hid (R.out.below hb)
    replace A := Lib.hid (A.out.below hb)
    replace O2 := Lib.hid (O2.out.below hb)
    replace P3 := Lib.hid (P3.out.below hb)
    replace X := Lib.hid (X.out.below hb)
    replace P5 := Lib.hid (P5.out.below hb)
    replace O11 := Lib.hid (O11.out.below hb)
    replace P12 := Lib.hid (P12.out.below hb)
    replace B := Lib.hid (below_go B.out hb B.out.size)
    have z14 : v13.heap.size + 0 ≤ v14.heap.size := by have := hb.size; (try simp at this); omega
    clear hb
    go_wp2
    go_ret
    exact ⟨rfl, B.out⟩
  · have h0 : (1048576 : Int) < (n : Int) := by omega
    go_enter Try.func5, Try.ntmps5
    go_wp2_with (go_at_call 7; refine (szNormal_big _ _ _ _ _ _ _ h0 (by omega) hn).mono ?_; rintro e w1 ⟨rfl, hb1⟩)
    go_ret
    exact ⟨rfl, (below1 w _).trans (hb1.mono (by simp))⟩
end Go.Proofs.Yteffndmifogicaa
