/- The program's InverseOf. -/
import Derived.Test.YtckdhnpnkgmikaaInvd
import Derived.Test.YtckdhnpnkgmikaaIs2
import Derived.Test.YtckdhnpnkgmikaaKit6
namespace Go.Proofs.Ytckdhnpnkgmikaa
open Go.RowKit Go.ChangeShapes

set_option maxHeartbeats 1000000 in
theorem implInverse_any {s : Int} {a : Option Addr} {n cap : Nat} {xs : List Int} {w : World} {fs : Int} {fxs : List Int} {fc : Int} (hr : Reads w a n xs) (_hf : Fits xs) (hn : n ≤ 1048576) (hM : mInverse s xs = (fs, fxs, fc)) :
    Calls Try.prog 24 #[.agg #[.int .i64 s, .slice a n cap]] w (RetBraid w fs fxs fc) := by
  have R := Lib.hid hr; clear hr
  by_cases hbr : isBraid s xs = true
  · have HSM := Lib.hid (small_of_isBraid _ _ hbr)
    simp only [mInverse, if_pos hbr, Prod.mk.injEq] at hM
    obtain ⟨rfl, rfl, rfl⟩ := hM
    go_enter Try.func24, Try.ntmps24
    replace R := Lib.hid ((R.out.alloc (.cells #[.int .i64 s, .slice a n cap] 28)).alloc (.cells #[.int .i64 0, .slice none 0 0] 28))
    have A := Lib.hid ((At2.new w (.int .i64 s) (.slice a n cap) 28).alloc (.cells #[.int .i64 0, .slice none 0 0] 28))
    have Z := Lib.hid (At2.place (w.alloc (.cells #[.int .i64 s, .slice a n cap] 28)) (.int .i64 0) (.slice none 0 0) 28 (w.heap.size + 1) (by simp))
    have BB := Lib.hid (below2 w (.cells #[.int .i64 s, .slice a n cap] 28) (.cells #[.int .i64 0, .slice none 0 0] 28))
    obtain ⟨qA1, qA2, qA3, qA4, qA5⟩ := A.out
    obtain ⟨qZ1, qZ2, qZ3, qZ4, qZ5⟩ := Z.out
    go_wp2_with fail
    refine (implIsBraid_any _ _ _ _ xs _ R.out hn).mono ?_
    rintro e w1 ⟨rfl, hb⟩
    clear qA1 qA2 qA3 qA4 qA5 qZ1 qZ2 qZ3 qZ4 qZ5
    replace R := Lib.hid (R.out.below hb)
    replace A := Lib.hid (A.out.below hb)
    replace Z := Lib.hid (Z.out.below hb)
    replace BB := Lib.hid (below_go BB.out hb BB.out.size)
    clear hb
    have zz := Z.out.1
    obtain ⟨qA1, qA2, qA3, qA4, qA5⟩ := A.out
    obtain ⟨qZ1, qZ2, qZ3, qZ4, qZ5⟩ := Z.out
    go_wp2_with fail
    refine (inverted_any _ _ _ _ xs _ R.out HSM.out hn).mono ?_
    rintro e w2 ⟨a2, n2, c2, rfl, ho, hb⟩
    clear qA1 qA2 qA3 qA4 qA5 qZ1 qZ2 qZ3 qZ4 qZ5
    replace R := Lib.hid (R.out.below hb)
    replace A := Lib.hid (A.out.below hb)
    replace Z := Lib.hid (Z.out.below hb)
    replace BB := Lib.hid (below_go BB.out hb BB.out.size)
    have HO : Hid (Own (w.heap.size + 1 + 1) w2 a2 n2 c2 (inverse xs)) := Lib.hid (ho.mono (by omega))
    have hl2 : n2 ≤ 1048576 := by have h1 := ho.len; have h2 := R.out.len; rw [inverse_length] at h1; omega
    clear ho hb
    obtain ⟨qA1, qA2, qA3, qA4, qA5⟩ := A.out
    obtain ⟨qZ1, qZ2, qZ3, qZ4, qZ5⟩ := Z.out
    go_wp2
    obtain ⟨_, e2, e3, _, _⟩ := Z.out.fill (.int .i64 s) (.slice a2 n2 c2)
    refine bodyPost_ret (v := .tuple #[.agg #[.int .i64 s, .slice a2 n2 c2], .int .i64 0]) (by simp [results, Try.results24, go_sem, e2, e3]) rfl ⟨a2, n2, c2, rfl, hl2, ?_, ?_⟩
    · exact ((HO.out.setCell_below (by simp) _).setCell_below (by simp) _).mono (by omega)
    · exact ((BB.out.setCell (p := ⟨w.heap.size + 1, 0, none⟩) (by simp) _).setCell (p := ⟨w.heap.size + 1, 1, none⟩) (by simp) _)
  · have hb0 : isBraid s xs = false := by simpa using hbr
    simp only [mInverse, if_neg hbr, Prod.mk.injEq] at hM
    obtain ⟨rfl, rfl, rfl⟩ := hM
    clear hbr
    go_enter Try.func24, Try.ntmps24
    replace R := Lib.hid ((R.out.alloc (.cells #[.int .i64 s, .slice a n cap] 28)).alloc (.cells #[.int .i64 0, .slice none 0 0] 28))
    have A := Lib.hid ((At2.new w (.int .i64 s) (.slice a n cap) 28).alloc (.cells #[.int .i64 0, .slice none 0 0] 28))
    have Z := Lib.hid (At2.place (w.alloc (.cells #[.int .i64 s, .slice a n cap] 28)) (.int .i64 0) (.slice none 0 0) 28 (w.heap.size + 1) (by simp))
    have BB := Lib.hid (below2 w (.cells #[.int .i64 s, .slice a n cap] 28) (.cells #[.int .i64 0, .slice none 0 0] 28))
    obtain ⟨qA1, qA2, qA3, qA4, qA5⟩ := A.out
    obtain ⟨qZ1, qZ2, qZ3, qZ4, qZ5⟩ := Z.out
    go_wp2_with fail
    refine (implIsBraid_any _ _ _ _ xs _ R.out hn).mono ?_
    rintro e w1 ⟨rfl, hb⟩
    clear qA1 qA2 qA3 qA4 qA5 qZ1 qZ2 qZ3 qZ4 qZ5
    replace R := Lib.hid (R.out.below hb)
    replace A := Lib.hid (A.out.below hb)
    replace Z := Lib.hid (Z.out.below hb)
    replace BB := Lib.hid (below_go BB.out hb BB.out.size)
    clear hb
    obtain ⟨qA1, qA2, qA3, qA4, qA5⟩ := A.out
    obtain ⟨qZ1, qZ2, qZ3, qZ4, qZ5⟩ := Z.out
    go_wp2
    obtain ⟨_, e2, e3, _, _⟩ := Z.out.fill (.int .i64 0) (.slice none 0 0)
    refine bodyPost_ret (v := .tuple #[.agg #[.int .i64 0, .slice none 0 0], .int .i64 1]) (by simp [results, Try.results24, go_sem, e2, e3]) rfl ⟨none, 0, 0, rfl, Nat.zero_le _, ?_, ?_⟩
    · exact Own.nil _ _
    · exact ((BB.out.setCell (p := ⟨w.heap.size + 1, 0, none⟩) (by simp) _).setCell (p := ⟨w.heap.size + 1, 1, none⟩) (by simp) _)

end Go.Proofs.Ytckdhnpnkgmikaa
