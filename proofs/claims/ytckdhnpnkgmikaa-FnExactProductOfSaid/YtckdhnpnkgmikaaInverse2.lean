/- The inverse of a braid: the model's answer. -/
import Derived.Test.YtckdhnpnkgmikaaInverse
import Derived.Deep.RegionHeld3
namespace Go.Proofs.Ytckdhnpnkgmikaa
open Go.RowKit Go.ChangeShapes

set_option maxHeartbeats 1000000 in
theorem specInverse_any {s : Int} {a : Option Addr} {n cap : Nat} {xs : List Int} {w : World} {fs : Int} {fxs : List Int} {fc : Int} (hr : Reads w a n xs) (hf : Fits xs) (hn : n ≤ 1048576) (hM : mInverse s xs = (fs, fxs, fc)) :
    Calls Try.prog 23 #[.agg #[.int .i64 s, .slice a n cap]] w (RetBraid w fs fxs fc) := by
  have R := Lib.hid hr; clear hr
  have HF := Lib.hid hf; clear hf
  by_cases hbr : isBraid s xs = true
  · simp only [mInverse, if_pos hbr, Prod.mk.injEq] at hM
    obtain ⟨rfl, rfl, rfl⟩ := hM
    have HSM := Lib.hid (small_of_isBraid _ _ hbr)
    go_enter Try.func23, Try.ntmps23
    replace R := Lib.hid (R.out.alloc (.cells #[.int .i64 s, .slice a n cap] 28))
    have A := Lib.hid (At2.new w (.int .i64 s) (.slice a n cap) 28)
    have BB := Lib.hid (below1 w (.cells #[.int .i64 s, .slice a n cap] 28))
    replace R := Lib.hid (R.out.alloc (.cells #[.int .i64 0, .slice none 0 0] 28))
    replace A := Lib.hid (A.out.alloc (.cells #[.int .i64 0, .slice none 0 0] 28))
    have Z := Lib.hid (At2.place (w.alloc (.cells #[.int .i64 s, .slice a n cap] 28)) (.int .i64 0) (.slice none 0 0) 28 (w.heap.size + 1) (by simp))
    replace BB := Lib.hid (BB.out.alloc (by simp; try omega) (.cells #[.int .i64 0, .slice none 0 0] 28))
    go_wp2_with fail
    refine (l01Is_any _ _ _ _ xs _ R.out HF.out hn).mono ?_
    rintro e w1 ⟨rfl, hb⟩
    replace R := Lib.hid (R.out.below hb)
    replace A := Lib.hid (A.out.below hb)
    replace Z := Lib.hid (Z.out.below hb)
    have z1 : w.heap.size + 2 ≤ w1.heap.size := by have := hb.size; simp at this; omega
    replace BB := Lib.hid (below_go BB.out hb (by simp; omega))
    clear hb
    obtain ⟨qA1, qA2, qA3, qA4, qA5⟩ := A.out
    obtain ⟨qZ1, qZ2, qZ3, qZ4, qZ5⟩ := Z.out
    go_wp2
    go_region_held3 (fun w' => w'.cell? ⟨w.heap.size, 0, none⟩ = some (.int .i64 s) ∧ w'.cell? ⟨w.heap.size, 1, none⟩ = some (.slice a n cap)) (first | exact ⟨qA2, qA3⟩ | exact ⟨rA2, rA3⟩ | go_keep)
      (first
        | (go_at_call 39; refine (l01Inverse_any _ _ _ _ _ R.out.drew HSM.out hn).mono ?_; rintro e w2 ⟨a2, c2, rfl, ho, hb⟩; obtain ⟨rA1, rA2, rA3, rA4, rA5⟩ := A.out.drew.below hb; obtain ⟨rZ1, rZ2, rZ3, rZ4, rZ5⟩ := Z.out.drew.below hb))
    go_wp2
    have z2 : w1.heap.size ≤ w2.heap.size := hb.size
    obtain ⟨_, e2, e3, _, _⟩ := (Z.out.drew.below hb).fill (.int .i64 s) (.slice a2 n c2)
    refine bodyPost_ret (v := .tuple #[.agg #[.int .i64 s, .slice a2 n c2], .int .i64 0]) (by simp [results, Try.results23, go_sem, e2, e3]) rfl ⟨a2, n, c2, rfl, hn, ?_, ?_⟩
    · exact ((ho.setCell_below (by show _ < w1.heap.size; simp; omega) _).setCell_below (by show _ < w1.heap.size; simp; omega) _).mono (by show _ ≤ w1.heap.size; omega)
    · exact ((below_go BB.out.drew hb (by show _ ≤ w1.heap.size; omega)).setCell (p := ⟨w.heap.size + 1, 0, none⟩) (by simp) _).setCell (p := ⟨w.heap.size + 1, 1, none⟩) (by simp) _
  · have hb0 : isBraid s xs = false := by simpa using hbr
    simp only [mInverse, if_neg hbr, Prod.mk.injEq] at hM
    obtain ⟨rfl, rfl, rfl⟩ := hM
    clear hbr
    go_enter Try.func23, Try.ntmps23
    replace R := Lib.hid (R.out.alloc (.cells #[.int .i64 s, .slice a n cap] 28))
    have A := Lib.hid (At2.new w (.int .i64 s) (.slice a n cap) 28)
    have BB := Lib.hid (below1 w (.cells #[.int .i64 s, .slice a n cap] 28))
    replace R := Lib.hid (R.out.alloc (.cells #[.int .i64 0, .slice none 0 0] 28))
    replace A := Lib.hid (A.out.alloc (.cells #[.int .i64 0, .slice none 0 0] 28))
    have Z := Lib.hid (At2.place (w.alloc (.cells #[.int .i64 s, .slice a n cap] 28)) (.int .i64 0) (.slice none 0 0) 28 (w.heap.size + 1) (by simp))
    replace BB := Lib.hid (BB.out.alloc (by simp; try omega) (.cells #[.int .i64 0, .slice none 0 0] 28))
    go_wp2_with fail
    refine (l01Is_any _ _ _ _ xs _ R.out HF.out hn).mono ?_
    rintro e w1 ⟨rfl, hb⟩
    replace R := Lib.hid (R.out.below hb)
    replace A := Lib.hid (A.out.below hb)
    replace Z := Lib.hid (Z.out.below hb)
    have z1 : w.heap.size + 2 ≤ w1.heap.size := by have := hb.size; simp at this; omega
    replace BB := Lib.hid (below_go BB.out hb (by simp; omega))
    clear hb
    obtain ⟨qA1, qA2, qA3, qA4, qA5⟩ := A.out
    obtain ⟨qZ1, qZ2, qZ3, qZ4, qZ5⟩ := Z.out
    go_wp2
    obtain ⟨_, e2, e3, _, _⟩ := Z.out.fill (.int .i64 0) (.slice none 0 0)
    refine bodyPost_ret (v := .tuple #[.agg #[.int .i64 0, .slice none 0 0], .int .i64 1]) (by simp [results, Try.results23, go_sem, e2, e3]) rfl ⟨none, 0, 0, rfl, Nat.zero_le _, Own.nil _ _, ?_⟩
    exact (BB.out.setCell (p := ⟨w.heap.size + 1, 0, none⟩) (by simp) _).setCell (p := ⟨w.heap.size + 1, 1, none⟩) (by simp) _

end Go.Proofs.Ytckdhnpnkgmikaa
