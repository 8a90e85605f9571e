/- The shift of a braid: the model's answer and the program's. -/
import Derived.Test.YtmiihjhhbjpalaaTurned
import Derived.Test.YtmiihjhhbjpalaaBack
import Derived.Test.YtmiihjhhbjpalaaKit4
import Derived.Deep.RegionHeld3
namespace Go.Proofs.Ytmiihjhhbjpalaa
open Go.RowKit Go.ChangeShapes

/-- The shift of a braid, and the code. -/
def mShift (s : Int) (xs : List Int) (k : Int) : Int × List Int × Int :=
  if isBraid s xs = true then (if 0 ≤ k ∧ k ≤ 8 - s then (s + k, xs.map (shiftLetter k), 0) else (0, [], 2)) else (0, [], 1)

theorem letters_ne2 (s : Int) (xs : List Int) (h : isBraid s xs = true) : ∀ x ∈ xs, x ≠ 0 := fun x hx => (((isBraid_iff s xs).1 h).2.2.2 x hx).1

set_option maxHeartbeats 1000000 in
theorem specShift_any {s : Int} {a : Option Addr} {n cap : Nat} {xs : List Int} {k : Int} {w : World} {fs : Int} {fxs : List Int} {fc : Int} (hr : Reads w a n xs) (hf : Fits xs) (hn : n ≤ 1048576) (hk : (Lit.int .i64 k).wf = true) (hM : mShift s xs k = (fs, fxs, fc)) :
    Calls Try.prog 30 #[.agg #[.int .i64 s, .slice a n cap], .int .i64 k] w (RetBraid w fs fxs fc) := by
  have R := Lib.hid hr; clear hr
  have HF := Lib.hid hf; clear hf
  have HK := Lib.hid hk; clear hk
  by_cases hbr : isBraid s xs = true
  · have HSM := Lib.hid (small_of_isBraid _ _ hbr)
    have g1 := lo_of_isBraid _ _ hbr
    have g2 := hi_of_isBraid _ _ hbr
    by_cases hkk : 0 ≤ k ∧ k ≤ 8 - s
    · simp only [mShift, if_pos hbr, if_pos hkk, Prod.mk.injEq] at hM
      obtain ⟨rfl, rfl, rfl⟩ := hM
      obtain ⟨k1, k2⟩ := hkk
      have t1 : inB k 0 (8 - s) = true := (inB_iff _ _ _).2 ⟨k1, k2⟩
      have e0 : IntKind.i64.wrap (s + k) = s + k := IntWalk.i64_in _ (by omega)
      have HEQ := Lib.hid (shiftM_eq k xs (letters_ne2 _ _ hbr))
      go_enter Try.func30, Try.ntmps30
      replace R := Lib.hid (R.out.alloc (.cells #[.int .i64 s, .slice a n cap] 27))
      have A := Lib.hid (At2.new w (.int .i64 s) (.slice a n cap) 27)
      have BB := Lib.hid (below1 w (.cells #[.int .i64 s, .slice a n cap] 27))
      replace R := Lib.hid (R.out.alloc (.cells #[.int .i64 0, .slice none 0 0] 27))
      replace A := Lib.hid (A.out.alloc (.cells #[.int .i64 0, .slice none 0 0] 27))
      have Z := Lib.hid (At2.place (w.alloc (.cells #[.int .i64 s, .slice a n cap] 27)) (.int .i64 0) (.slice none 0 0) 27 (w.heap.size + 1) (by simp))
      replace BB := Lib.hid (BB.out.alloc (by first | omega | (simp; done) | (simp; omega)) (.cells #[.int .i64 0, .slice none 0 0] 27))
      go_wp2_with fail
      refine (l01Is_any _ _ _ _ xs _ R.out HF.out hn).mono ?_
      rintro e w1 ⟨rfl, hb⟩
      replace R := Lib.hid (R.out.below hb)
      replace A := Lib.hid (A.out.below hb)
      replace Z := Lib.hid (Z.out.below hb)
      have z1 : w.heap.size + 2 ≤ w1.heap.size := by have := hb.size; simp at this; omega
      replace BB := Lib.hid (below_go BB.out hb (by first | omega | (simp; done) | (simp; omega)))
      clear hb
      obtain ⟨qA1, qA2, qA3, qA4, qA5⟩ := A.out
      obtain ⟨qZ1, qZ2, qZ3, qZ4, qZ5⟩ := Z.out
      go_wp2_with (go_at_call 62; refine (l01In_any _ _ _ _).mono ?_; rintro e w' ⟨rfl, rfl⟩)
      go_region_held3 (fun w' => w'.cell? ⟨w.heap.size, 0, none⟩ = some (.int .i64 s) ∧ w'.cell? ⟨w.heap.size, 1, none⟩ = some (.slice a n cap)) (first | exact ⟨qA2, qA3⟩ | exact ⟨rA2, rA3⟩ | go_keep)
        (first
          | (go_at_call 63; refine (l01Shifted_any _ _ _ _ _ _ R.out.drew HSM.out hn (by omega) (by omega)).mono ?_; rintro e w2 ⟨a2, c2, rfl, ho, hb⟩; obtain ⟨rA1, rA2, rA3, rA4, rA5⟩ := A.out.drew.below hb; obtain ⟨rZ1, rZ2, rZ3, rZ4, rZ5⟩ := Z.out.drew.below hb))
      go_wp2
      have z2 : w1.heap.size ≤ w2.heap.size := hb.size
      rw [HEQ.out] at ho
      obtain ⟨_, e2, e3, _, _⟩ := (Z.out.drew.below hb).fill (.int .i64 (s + k)) (.slice a2 n c2)
      refine bodyPost_ret (v := .tuple #[.agg #[.int .i64 (s + k), .slice a2 n c2], .int .i64 0]) (by simp [results, Try.results30, go_sem, e2, e3]) rfl ⟨a2, n, c2, rfl, hn, ?_, ?_⟩
      · exact ((ho.setCell_below (by show _ < w1.heap.size; simp; omega) _).setCell_below (by show _ < w1.heap.size; simp; omega) _).mono (by show _ ≤ w1.heap.size; omega)
      · exact ((below_go BB.out.drew hb (by show _ ≤ w1.heap.size; omega)).setCell (p := ⟨w.heap.size + 1, 0, none⟩) (by simp) _).setCell (p := ⟨w.heap.size + 1, 1, none⟩) (by simp) _
    · simp only [mShift, if_pos hbr, if_neg hkk, Prod.mk.injEq] at hM
      obtain ⟨rfl, rfl, rfl⟩ := hM
      have t1 : inB k 0 (8 - s) = false := (inB_not _ _ _).2 (by omega)
      clear hkk
      go_enter Try.func30, Try.ntmps30
      replace R := Lib.hid (R.out.alloc (.cells #[.int .i64 s, .slice a n cap] 27))
      have A := Lib.hid (At2.new w (.int .i64 s) (.slice a n cap) 27)
      have BB := Lib.hid (below1 w (.cells #[.int .i64 s, .slice a n cap] 27))
      replace R := Lib.hid (R.out.alloc (.cells #[.int .i64 0, .slice none 0 0] 27))
      replace A := Lib.hid (A.out.alloc (.cells #[.int .i64 0, .slice none 0 0] 27))
      have Z := Lib.hid (At2.place (w.alloc (.cells #[.int .i64 s, .slice a n cap] 27)) (.int .i64 0) (.slice none 0 0) 27 (w.heap.size + 1) (by simp))
      replace BB := Lib.hid (BB.out.alloc (by first | omega | (simp; done) | (simp; omega)) (.cells #[.int .i64 0, .slice none 0 0] 27))
      go_wp2_with fail
      refine (l01Is_any _ _ _ _ xs _ R.out HF.out hn).mono ?_
      rintro e w1 ⟨rfl, hb⟩
      replace R := Lib.hid (R.out.below hb)
      replace A := Lib.hid (A.out.below hb)
      replace Z := Lib.hid (Z.out.below hb)
      have z1 : w.heap.size + 2 ≤ w1.heap.size := by have := hb.size; simp at this; omega
      replace BB := Lib.hid (below_go BB.out hb (by first | omega | (simp; done) | (simp; omega)))
      clear hb
      obtain ⟨qA1, qA2, qA3, qA4, qA5⟩ := A.out
      obtain ⟨qZ1, qZ2, qZ3, qZ4, qZ5⟩ := Z.out
      go_wp2_with (go_at_call 62; refine (l01In_any _ _ _ _).mono ?_; rintro e w' ⟨rfl, rfl⟩)
      obtain ⟨_, e2, e3, _, _⟩ := Z.out.fill (.int .i64 0) (.slice none 0 0)
      refine bodyPost_ret (v := .tuple #[.agg #[.int .i64 0, .slice none 0 0], .int .i64 2]) (by simp [results, Try.results30, go_sem, e2, e3]) rfl ⟨none, 0, 0, rfl, Nat.zero_le _, Own.nil _ _, ?_⟩
      exact (BB.out.setCell (p := ⟨w.heap.size + 1, 0, none⟩) (by simp; try omega) _).setCell (p := ⟨w.heap.size + 1, 1, none⟩) (by simp; try omega) _
  · have hb0 : isBraid s xs = false := by simpa using hbr
    simp only [mShift, if_neg hbr, Prod.mk.injEq] at hM
    obtain ⟨rfl, rfl, rfl⟩ := hM
    clear hbr
    go_enter Try.func30, Try.ntmps30
    replace R := Lib.hid (R.out.alloc (.cells #[.int .i64 s, .slice a n cap] 27))
    have A := Lib.hid (At2.new w (.int .i64 s) (.slice a n cap) 27)
    have BB := Lib.hid (below1 w (.cells #[.int .i64 s, .slice a n cap] 27))
    replace R := Lib.hid (R.out.alloc (.cells #[.int .i64 0, .slice none 0 0] 27))
    replace A := Lib.hid (A.out.alloc (.cells #[.int .i64 0, .slice none 0 0] 27))
    have Z := Lib.hid (At2.place (w.alloc (.cells #[.int .i64 s, .slice a n cap] 27)) (.int .i64 0) (.slice none 0 0) 27 (w.heap.size + 1) (by simp))
    replace BB := Lib.hid (BB.out.alloc (by first | omega | (simp; done) | (simp; omega)) (.cells #[.int .i64 0, .slice none 0 0] 27))
    go_wp2_with fail
    refine (l01Is_any _ _ _ _ xs _ R.out HF.out hn).mono ?_
    rintro e w1 ⟨rfl, hb⟩
    replace R := Lib.hid (R.out.below hb)
    replace A := Lib.hid (A.out.below hb)
    replace Z := Lib.hid (Z.out.below hb)
    have z1 : w.heap.size + 2 ≤ w1.heap.size := by have := hb.size; simp at this; omega
    replace BB := Lib.hid (below_go BB.out hb (by first | omega | (simp; done) | (simp; omega)))
    clear hb
    obtain ⟨qA1, qA2, qA3, qA4, qA5⟩ := A.out
    obtain ⟨qZ1, qZ2, qZ3, qZ4, qZ5⟩ := Z.out
    go_wp2
    obtain ⟨_, e2, e3, _, _⟩ := Z.out.fill (.int .i64 0) (.slice none 0 0)
    refine bodyPost_ret (v := .tuple #[.agg #[.int .i64 0, .slice none 0 0], .int .i64 1]) (by simp [results, Try.results30, go_sem, e2, e3]) rfl ⟨none, 0, 0, rfl, Nat.zero_le _, Own.nil _ _, ?_⟩
    exact (BB.out.setCell (p := ⟨w.heap.size + 1, 0, none⟩) (by simp; try omega) _).setCell (p := ⟨w.heap.size + 1, 1, none⟩) (by simp; try omega) _

set_option maxHeartbeats 1000000 in
theorem implShift_any {s : Int} {a : Option Addr} {n cap : Nat} {xs : List Int} {k : Int} {w : World} {fs : Int} {fxs : List Int} {fc : Int} (hr : Reads w a n xs) (hf : Fits xs) (hn : n ≤ 1048576) (hk : (Lit.int .i64 k).wf = true) (hM : mShift s xs k = (fs, fxs, fc)) :
    Calls Try.prog 31 #[.agg #[.int .i64 s, .slice a n cap], .int .i64 k] w (RetBraid w fs fxs fc) := by
  have R := Lib.hid hr; clear hr
  have HF := Lib.hid hf; clear hf
  have HK := Lib.hid hk; clear hk
  by_cases hbr : isBraid s xs = true
  · have HSM := Lib.hid (small_of_isBraid _ _ hbr)
    have g1 := lo_of_isBraid _ _ hbr
    have g2 := hi_of_isBraid _ _ hbr
    by_cases hkk : 0 ≤ k ∧ k ≤ 8 - s
    · simp only [mShift, if_pos hbr, if_pos hkk, Prod.mk.injEq] at hM
      obtain ⟨rfl, rfl, rfl⟩ := hM
      obtain ⟨k1, k2⟩ := hkk
      have HEQ := Lib.hid (shiftM_eq k xs (letters_ne2 _ _ hbr))
      go_enter Try.func31, Try.ntmps31
      replace R := Lib.hid (R.out.alloc (.cells #[.int .i64 s, .slice a n cap] 27))
      have A := Lib.hid (At2.new w (.int .i64 s) (.slice a n cap) 27)
      have BB := Lib.hid (below1 w (.cells #[.int .i64 s, .slice a n cap] 27))
      replace R := Lib.hid (R.out.alloc (.cells #[.int .i64 k] 2))
      replace A := Lib.hid (A.out.alloc (.cells #[.int .i64 k] 2))
      have K := Lib.hid (At1.place (w.alloc (.cells #[.int .i64 s, .slice a n cap] 27)) (.int .i64 k) 2 (w.heap.size + 1) (by first | rfl | simp))
      replace BB := Lib.hid (BB.out.alloc (by first | omega | (simp; done) | (simp; omega)) (.cells #[.int .i64 k] 2))
      replace R := Lib.hid (R.out.alloc (.cells #[.int .i64 0, .slice none 0 0] 27))
      replace A := Lib.hid (A.out.alloc (.cells #[.int .i64 0, .slice none 0 0] 27))
      replace K := Lib.hid (K.out.alloc (.cells #[.int .i64 0, .slice none 0 0] 27))
      have Z := Lib.hid (At2.place ((w.alloc (.cells #[.int .i64 s, .slice a n cap] 27)).alloc (.cells #[.int .i64 k] 2)) (.int .i64 0) (.slice none 0 0) 27 (w.heap.size + 1 + 1) (by simp))
      replace BB := Lib.hid (BB.out.alloc (by first | omega | (simp; done) | (simp; omega)) (.cells #[.int .i64 0, .slice none 0 0] 27))
      go_wp2_with fail
      refine (implIsBraid_any _ _ _ _ xs _ R.out hn).mono ?_
      rintro e w1 ⟨rfl, hb⟩
      replace R := Lib.hid (R.out.below hb)
      replace A := Lib.hid (A.out.below hb)
      replace K := Lib.hid (K.out.below hb)
      replace Z := Lib.hid (Z.out.below hb)
      have z1 : w.heap.size + 3 ≤ w1.heap.size := by have := hb.size; simp at this; omega
      replace BB := Lib.hid (below_go BB.out hb (by first | omega | (simp; done) | (simp; omega)))
      clear hb
      obtain ⟨qA1, qA2, qA3, qA4, qA5⟩ := A.out
      obtain ⟨qK1, qK2, qK3⟩ := K.out
      obtain ⟨qZ1, qZ2, qZ3, qZ4, qZ5⟩ := Z.out
      go_wp2_with fail
      refine (changed_any 64 #[.pointer (some ⟨w.heap.size + 1, 0, none⟩)] (shiftLetter k) _ _ _ _ _ _ _ R.out HSM.out hn enter_shift1 (fun x W hW h1 h2 => shift1_any x k ⟨w.heap.size + 1, 0, none⟩ W (K.out.below hW).2.1 h1 h2 (by omega) (by omega))).mono ?_
      rintro e w2 ⟨a2, n2, c2, rfl, ho, hb⟩
      clear qA1 qA2 qA3 qA4 qA5 qK1 qK2 qK3 qZ1 qZ2 qZ3 qZ4 qZ5
      have O2 : Hid (OwnIn (w1.heap.size) w2.heap.size w2 a2 n2 c2 (xs.map (shiftLetter k))) := Lib.hid (by simpa using ho.within); clear ho
      replace R := Lib.hid (R.out.below hb)
      replace A := Lib.hid (A.out.below hb)
      replace K := Lib.hid (K.out.below hb)
      replace Z := Lib.hid (Z.out.below hb)
      have z2 : w1.heap.size ≤ w2.heap.size := hb.size
      replace BB := Lib.hid (below_go BB.out hb (by omega))
      clear hb
      obtain ⟨qA1, qA2, qA3, qA4, qA5⟩ := A.out
      obtain ⟨qK1, qK2, qK3⟩ := K.out
      obtain ⟨qZ1, qZ2, qZ3, qZ4, qZ5⟩ := Z.out
      have hl2 : n2 ≤ 1048576 := by have := O2.out.len; have := R.out.len; simp at *; omega
      go_wp2
      obtain ⟨_, e2, e3, _, _⟩ := Z.out.fill (.int .i64 (s + k)) (.slice a2 n2 c2)
      refine bodyPost_ret (v := .tuple #[.agg #[.int .i64 (s + k), .slice a2 n2 c2], .int .i64 0]) (by simp [results, Try.results31, go_sem, e2, e3]) rfl ⟨a2, n2, c2, rfl, by omega, ?_, ?_⟩
      · exact ((O2.out.1.setCell_below (by simp; omega) _).setCell_below (by simp; omega) _).mono (by omega)
      · exact (BB.out.setCell (p := ⟨w.heap.size + 1 + 1, 0, none⟩) (by simp; try omega) _).setCell (p := ⟨w.heap.size + 1 + 1, 1, none⟩) (by simp; try omega) _
    · simp only [mShift, if_pos hbr, if_neg hkk, Prod.mk.injEq] at hM
      obtain ⟨rfl, rfl, rfl⟩ := hM
      by_cases k1 : 0 ≤ k
      · have k2 : 8 - s < k := by omega
        clear hkk
        go_enter Try.func31, Try.ntmps31
        replace R := Lib.hid (R.out.alloc (.cells #[.int .i64 s, .slice a n cap] 27))
        have A := Lib.hid (At2.new w (.int .i64 s) (.slice a n cap) 27)
        have BB := Lib.hid (below1 w (.cells #[.int .i64 s, .slice a n cap] 27))
        replace R := Lib.hid (R.out.alloc (.cells #[.int .i64 k] 2))
        replace A := Lib.hid (A.out.alloc (.cells #[.int .i64 k] 2))
        have K := Lib.hid (At1.place (w.alloc (.cells #[.int .i64 s, .slice a n cap] 27)) (.int .i64 k) 2 (w.heap.size + 1) (by first | rfl | simp))
        replace BB := Lib.hid (BB.out.alloc (by first | omega | (simp; done) | (simp; omega)) (.cells #[.int .i64 k] 2))
        replace R := Lib.hid (R.out.alloc (.cells #[.int .i64 0, .slice none 0 0] 27))
        replace A := Lib.hid (A.out.alloc (.cells #[.int .i64 0, .slice none 0 0] 27))
        replace K := Lib.hid (K.out.alloc (.cells #[.int .i64 0, .slice none 0 0] 27))
        have Z := Lib.hid (At2.place ((w.alloc (.cells #[.int .i64 s, .slice a n cap] 27)).alloc (.cells #[.int .i64 k] 2)) (.int .i64 0) (.slice none 0 0) 27 (w.heap.size + 1 + 1) (by simp))
        replace BB := Lib.hid (BB.out.alloc (by first | omega | (simp; done) | (simp; omega)) (.cells #[.int .i64 0, .slice none 0 0] 27))
        go_wp2_with fail
        refine (implIsBraid_any _ _ _ _ xs _ R.out hn).mono ?_
        rintro e w1 ⟨rfl, hb⟩
        replace R := Lib.hid (R.out.below hb)
        replace A := Lib.hid (A.out.below hb)
        replace K := Lib.hid (K.out.below hb)
        replace Z := Lib.hid (Z.out.below hb)
        have z1 : w.heap.size + 3 ≤ w1.heap.size := by have := hb.size; simp at this; omega
        replace BB := Lib.hid (below_go BB.out hb (by first | omega | (simp; done) | (simp; omega)))
        clear hb
        obtain ⟨qA1, qA2, qA3, qA4, qA5⟩ := A.out
        obtain ⟨qK1, qK2, qK3⟩ := K.out
        obtain ⟨qZ1, qZ2, qZ3, qZ4, qZ5⟩ := Z.out
        go_wp2
        obtain ⟨_, e2, e3, _, _⟩ := Z.out.fill (.int .i64 0) (.slice none 0 0)
        refine bodyPost_ret (v := .tuple #[.agg #[.int .i64 0, .slice none 0 0], .int .i64 2]) (by simp [results, Try.results31, go_sem, e2, e3]) rfl ⟨none, 0, 0, rfl, Nat.zero_le _, Own.nil _ _, ?_⟩
        exact (BB.out.setCell (p := ⟨w.heap.size + 1 + 1, 0, none⟩) (by simp; try omega) _).setCell (p := ⟨w.heap.size + 1 + 1, 1, none⟩) (by simp; try omega) _
      · have k2 : k < 0 := by omega
        clear hkk
        go_enter Try.func31, Try.ntmps31
        replace R := Lib.hid (R.out.alloc (.cells #[.int .i64 s, .slice a n cap] 27))
        have A := Lib.hid (At2.new w (.int .i64 s) (.slice a n cap) 27)
        have BB := Lib.hid (below1 w (.cells #[.int .i64 s, .slice a n cap] 27))
        replace R := Lib.hid (R.out.alloc (.cells #[.int .i64 k] 2))
        replace A := Lib.hid (A.out.alloc (.cells #[.int .i64 k] 2))
        have K := Lib.hid (At1.place (w.alloc (.cells #[.int .i64 s, .slice a n cap] 27)) (.int .i64 k) 2 (w.heap.size + 1) (by first | rfl | simp))
        replace BB := Lib.hid (BB.out.alloc (by first | omega | (simp; done) | (simp; omega)) (.cells #[.int .i64 k] 2))
        replace R := Lib.hid (R.out.alloc (.cells #[.int .i64 0, .slice none 0 0] 27))
        replace A := Lib.hid (A.out.alloc (.cells #[.int .i64 0, .slice none 0 0] 27))
        replace K := Lib.hid (K.out.alloc (.cells #[.int .i64 0, .slice none 0 0] 27))
        have Z := Lib.hid (At2.place ((w.alloc (.cells #[.int .i64 s, .slice a n cap] 27)).alloc (.cells #[.int .i64 k] 2)) (.int .i64 0) (.slice none 0 0) 27 (w.heap.size + 1 + 1) (by simp))
        replace BB := Lib.hid (BB.out.alloc (by first | omega | (simp; done) | (simp; omega)) (.cells #[.int .i64 0, .slice none 0 0] 27))
        go_wp2_with fail
        refine (implIsBraid_any _ _ _ _ xs _ R.out hn).mono ?_
        rintro e w1 ⟨rfl, hb⟩
        replace R := Lib.hid (R.out.below hb)
        replace A := Lib.hid (A.out.below hb)
        replace K := Lib.hid (K.out.below hb)
        replace Z := Lib.hid (Z.out.below hb)
        have z1 : w.heap.size + 3 ≤ w1.heap.size := by have := hb.size; simp at this; omega
        replace BB := Lib.hid (below_go BB.out hb (by first | omega | (simp; done) | (simp; omega)))
        clear hb
        obtain ⟨qA1, qA2, qA3, qA4, qA5⟩ := A.out
        obtain ⟨qK1, qK2, qK3⟩ := K.out
        obtain ⟨qZ1, qZ2, qZ3, qZ4, qZ5⟩ := Z.out
        go_wp2
        obtain ⟨_, e2, e3, _, _⟩ := Z.out.fill (.int .i64 0) (.slice none 0 0)
        refine bodyPost_ret (v := .tuple #[.agg #[.int .i64 0, .slice none 0 0], .int .i64 2]) (by simp [results, Try.results31, go_sem, e2, e3]) rfl ⟨none, 0, 0, rfl, Nat.zero_le _, Own.nil _ _, ?_⟩
        exact (BB.out.setCell (p := ⟨w.heap.size + 1 + 1, 0, none⟩) (by simp; try omega) _).setCell (p := ⟨w.heap.size + 1 + 1, 1, none⟩) (by simp; try omega) _
  · have hb0 : isBraid s xs = false := by simpa using hbr
    simp only [mShift, if_neg hbr, Prod.mk.injEq] at hM
    obtain ⟨rfl, rfl, rfl⟩ := hM
    clear hbr
    go_enter Try.func31, Try.ntmps31
    replace R := Lib.hid (R.out.alloc (.cells #[.int .i64 s, .slice a n cap] 27))
    have A := Lib.hid (At2.new w (.int .i64 s) (.slice a n cap) 27)
    have BB := Lib.hid (below1 w (.cells #[.int .i64 s, .slice a n cap] 27))
    replace R := Lib.hid (R.out.alloc (.cells #[.int .i64 k] 2))
    replace A := Lib.hid (A.out.alloc (.cells #[.int .i64 k] 2))
    have K := Lib.hid (At1.place (w.alloc (.cells #[.int .i64 s, .slice a n cap] 27)) (.int .i64 k) 2 (w.heap.size + 1) (by first | rfl | simp))
    replace BB := Lib.hid (BB.out.alloc (by first | omega | (simp; done) | (simp; omega)) (.cells #[.int .i64 k] 2))
    replace R := Lib.hid (R.out.alloc (.cells #[.int .i64 0, .slice none 0 0] 27))
    replace A := Lib.hid (A.out.alloc (.cells #[.int .i64 0, .slice none 0 0] 27))
    replace K := Lib.hid (K.out.alloc (.cells #[.int .i64 0, .slice none 0 0] 27))
    have Z := Lib.hid (At2.place ((w.alloc (.cells #[.int .i64 s, .slice a n cap] 27)).alloc (.cells #[.int .i64 k] 2)) (.int .i64 0) (.slice none 0 0) 27 (w.heap.size + 1 + 1) (by simp))
    replace BB := Lib.hid (BB.out.alloc (by first | omega | (simp; done) | (simp; omega)) (.cells #[.int .i64 0, .slice none 0 0] 27))
    go_wp2_with fail
    refine (implIsBraid_any _ _ _ _ xs _ R.out hn).mono ?_
    rintro e w1 ⟨rfl, hb⟩
    replace R := Lib.hid (R.out.below hb)
    replace A := Lib.hid (A.out.below hb)
    replace K := Lib.hid (K.out.below hb)
    replace Z := Lib.hid (Z.out.below hb)
    have z1 : w.heap.size + 3 ≤ w1.heap.size := by have := hb.size; simp at this; omega
    replace BB := Lib.hid (below_go BB.out hb (by first | omega | (simp; done) | (simp; omega)))
    clear hb
    obtain ⟨qA1, qA2, qA3, qA4, qA5⟩ := A.out
    obtain ⟨qK1, qK2, qK3⟩ := K.out
    obtain ⟨qZ1, qZ2, qZ3, qZ4, qZ5⟩ := Z.out
    go_wp2
    obtain ⟨_, e2, e3, _, _⟩ := Z.out.fill (.int .i64 0) (.slice none 0 0)
    refine bodyPost_ret (v := .tuple #[.agg #[.int .i64 0, .slice none 0 0], .int .i64 1]) (by simp [results, Try.results31, go_sem, e2, e3]) rfl ⟨none, 0, 0, rfl, Nat.zero_le _, Own.nil _ _, ?_⟩
    exact (BB.out.setCell (p := ⟨w.heap.size + 1 + 1, 0, none⟩) (by simp; try omega) _).setCell (p := ⟨w.heap.size + 1 + 1, 1, none⟩) (by simp; try omega) _

end Go.Proofs.Ytmiihjhhbjpalaa