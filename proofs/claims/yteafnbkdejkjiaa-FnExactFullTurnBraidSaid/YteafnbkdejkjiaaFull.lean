/- Full turns: the program's answer. -/
import Derived.Test.YteafnbkdejkjiaaHalf2
import Derived.Test.YteafnbkdejkjiaaProdI
namespace Go.Proofs.Yteafnbkdejkjiaa
open Go.RowKit Go.ChangeShapes

theorem half_isBraid (m : Nat) (h : m ≤ 7) : isBraid ((m : Int) + 1) (halfFrom m) = true := by
  have : m = 0 ∨ m = 1 ∨ m = 2 ∨ m = 3 ∨ m = 4 ∨ m = 5 ∨ m = 6 ∨ m = 7 := by omega
  rcases this with rfl | rfl | rfl | rfl | rfl | rfl | rfl | rfl <;> decide

theorem small_fits (xs : List Int) (h : Small xs) : Fits xs := fun x hx => by
  have := h x hx
  exact WalkArith.wf_i64 (by omega)

theorem half_product (n : Int) (m : Nat) (hn : n = (m : Int) + 1) (h : m ≤ 7) : mProduct n (halfFrom m) n (halfFrom m) = (n, halfFrom m ++ halfFrom m, 0) := by
  have hb := half_isBraid m h
  rw [← hn] at hb
  have hl := halfFrom_len m h
  unfold mProduct
  rw [if_pos ⟨hb, hb⟩, if_pos rfl, if_pos (by omega)]

set_option maxHeartbeats 1000000 in
theorem implFull_any {n : Int} {w : World} {fs : Int} {fxs : List Int} {fc : Int} (hk0 : (Lit.int .i64 n).wf = true) (hM : mFull n = (fs, fxs, fc)) :
    Calls Try.prog 5 #[.int .i64 n] w (RetBraid w fs fxs fc) := by
  have HK0 := Lib.hid hk0; clear hk0
  by_cases hk : 1 ≤ n ∧ n ≤ 8
  · simp only [mFull, if_pos hk, Prod.mk.injEq] at hM
    obtain ⟨rfl, rfl, rfl⟩ := hM
    have hH : mHalf n = (n, halfFrom (n - 1).toNat, 0) := by simp only [mHalf, if_pos hk]
    obtain ⟨k1, k2⟩ := hk
    obtain ⟨m, hm⟩ : ∃ m : Nat, n = (m : Int) + 1 := ⟨(n - 1).toNat, by omega⟩
    have hm7 : m ≤ 7 := by omega
    have hmn : (n - 1).toNat = m := by omega
    rw [hmn] at hH ⊢
    have hP := half_product n m hm hm7
    have hfit : Fits (halfFrom m) := small_fits _ (small_of_isBraid n _ (by rw [hm]; exact half_isBraid m hm7))
    have hl28 := halfFrom_len m hm7
    obtain ⟨lh, hlh⟩ : ∃ lh, lh = halfFrom m := ⟨_, rfl⟩
    rw [← hlh] at hH hP hfit hl28 ⊢
    have HH := Lib.hid hH; have HP := Lib.hid hP; have HFT := Lib.hid hfit
    clear hH hP hfit hlh hm hmn
    go_enter Try.func5, Try.ntmps5
    have Z := Lib.hid (At2.new w (.int .i64 0) (.slice none 0 0) 24)
    have BB := Lib.hid (below1 w (.cells #[.int .i64 0, .slice none 0 0] 24))
    go_wp2_with fail
    refine (implHalf_any HK0.out HH.out).mono ?_
    rintro e w1 ⟨b1, m1, d1, rfl, hl1, ho, hb⟩
    have P1 : Hid (OwnIn (w.heap.size + 1) w1.heap.size w1 b1 m1 d1 lh) := Lib.hid (by simpa using ho.within); clear ho
    replace Z := Lib.hid (Z.out.below hb)
    have z1 : w.heap.size + 1 ≤ w1.heap.size := by have := hb.size; simp at this; omega
    replace BB := Lib.hid (below_go BB.out hb (by first | omega | (simp; done) | (simp; omega)))
    clear hb
    obtain ⟨qZ1, qZ2, qZ3, qZ4, qZ5⟩ := Z.out
    replace Z := Lib.hid (Z.out.alloc (.cells #[.int .i64 n, .slice b1 m1 d1] 24))
    replace P1 := Lib.hid (P1.out.alloc (.cells #[.int .i64 n, .slice b1 m1 d1] 24))
    have H := Lib.hid (At2.new w1 (.int .i64 n) (.slice b1 m1 d1) 24)
    replace BB := Lib.hid (BB.out.alloc (by first | omega | (simp; done) | (simp; omega)) (.cells #[.int .i64 n, .slice b1 m1 d1] 24))
    go_wp2_with fail
    refine (implProduct_any P1.out.reads HFT.out hl1 P1.out.reads HFT.out hl1 HP.out).mono ?_
    rintro e w2 ⟨b2, m2, d2, rfl, hl2, ho, hb⟩
    clear qZ1 qZ2 qZ3 qZ4 qZ5
    have P2 : Hid (OwnIn (w1.heap.size + 1) w2.heap.size w2 b2 m2 d2 (lh ++ lh)) := Lib.hid (by simpa using ho.within); clear ho
    replace Z := Lib.hid (Z.out.below hb)
    replace P1 := Lib.hid (P1.out.below hb)
    replace H := Lib.hid (H.out.below hb)
    have z2 : w1.heap.size + 1 ≤ w2.heap.size := by have := hb.size; simp at this; omega
    replace BB := Lib.hid (below_go BB.out hb (by first | omega | (simp; done) | (simp; omega)))
    clear hb
    obtain ⟨qZ1, qZ2, qZ3, qZ4, qZ5⟩ := Z.out
    obtain ⟨qH1, qH2, qH3, qH4, qH5⟩ := H.out
    go_wp2
    obtain ⟨_, e2, e3, _, _⟩ := Z.out.fill (.int .i64 n) (.slice b2 m2 d2)
    refine bodyPost_ret (v := .tuple #[.agg #[.int .i64 n, .slice b2 m2 d2], .int .i64 0]) (by simp [results, Try.results5, go_sem, e2, e3]) rfl ⟨b2, m2, d2, rfl, hl2, ?_, ?_⟩
    · exact ((P2.out.1.setCell_below (by first | (simp; done) | (simp; omega)) _).setCell_below (by first | (simp; done) | (simp; omega)) _).mono (by omega)
    · exact (BB.out.setCell (p := ⟨w.heap.size, 0, none⟩) (by simp) _).setCell (p := ⟨w.heap.size, 1, none⟩) (by simp) _
  · simp only [mFull, if_neg hk, Prod.mk.injEq] at hM
    obtain ⟨rfl, rfl, rfl⟩ := hM
    have hH : mHalf n = (0, [], 2) := by simp only [mHalf, if_neg hk]
    have HH := Lib.hid hH; clear hH hk
    go_enter Try.func5, Try.ntmps5
    have Z := Lib.hid (At2.new w (.int .i64 0) (.slice none 0 0) 24)
    have BB := Lib.hid (below1 w (.cells #[.int .i64 0, .slice none 0 0] 24))
    go_wp2_with fail
    refine (implHalf_any HK0.out HH.out).mono ?_
    rintro e w1 ⟨b1, m1, d1, rfl, hl1, ho, hb⟩
    clear ho
    replace Z := Lib.hid (Z.out.below hb)
    have z1 : w.heap.size + 1 ≤ w1.heap.size := by have := hb.size; simp at this; omega
    replace BB := Lib.hid (below_go BB.out hb (by first | omega | (simp; done) | (simp; omega)))
    clear hb
    obtain ⟨qZ1, qZ2, qZ3, qZ4, qZ5⟩ := Z.out
    have HZ0 := Z; have HB0 := BB
    replace Z := Lib.hid (Z.out.alloc (.cells #[.int .i64 0, .slice b1 m1 d1] 24))
    have H := Lib.hid (At2.new w1 (.int .i64 0) (.slice b1 m1 d1) 24)
    replace BB := Lib.hid (BB.out.alloc (by first | omega | (simp; done) | (simp; omega)) (.cells #[.int .i64 0, .slice b1 m1 d1] 24))
    go_wp2
    obtain ⟨_, e2, e3, _, _⟩ := (HZ0.out.fill (.int .i64 0) (.slice none 0 0)).alloc (.cells #[.int .i64 0, .slice b1 m1 d1] 24)
    refine bodyPost_ret (v := .tuple #[.agg #[.int .i64 0, .slice none 0 0], .int .i64 2]) (by simp [results, Try.results5, go_sem, e2, e3]) rfl ⟨none, 0, 0, rfl, Nat.zero_le _, Own.nil _ _, ?_⟩
    exact ((HB0.out.setCell (p := ⟨w.heap.size, 0, none⟩) (by simp) _).setCell (p := ⟨w.heap.size, 1, none⟩) (by simp) _).alloc (by simp; omega) _

end Go.Proofs.Yteafnbkdejkjiaa