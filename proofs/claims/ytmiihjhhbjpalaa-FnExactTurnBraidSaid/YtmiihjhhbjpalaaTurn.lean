/- The turn of a braid: the model's answer and the program's. -/
import Derived.Test.YtmiihjhhbjpalaaTurned
import Derived.Test.YtmiihjhhbjpalaaBack
import Derived.Deep.RegionHeld3
namespace Go.Proofs.Ytmiihjhhbjpalaa
open Go.RowKit Go.ChangeShapes

/-- The turn of a braid, and the code. -/
def mTurn (s : Int) (xs : List Int) : Int × List Int × Int := if isBraid s xs = true then (s, xs.map (turnLetter s), 0) else (0, [], 1)

theorem letters_ne (s : Int) (xs : List Int) (h : isBraid s xs = true) : ∀ x ∈ xs, x ≠ 0 := fun x hx => (((isBraid_iff s xs).1 h).2.2.2 x hx).1

set_option maxHeartbeats 1000000 in
theorem specTurn_any {s : Int} {a : Option Addr} {n cap : Nat} {xs : List Int} {w : World} {fs : Int} {fxs : List Int} {fc : Int} (hr : Reads w a n xs) (hf : Fits xs) (hn : n ≤ 1048576) (hM : mTurn s xs = (fs, fxs, fc)) :
    Calls Try.prog 28 #[.agg #[.int .i64 s, .slice a n cap]] w (RetBraid w fs fxs fc) := by
  have R := Lib.hid hr; clear hr
  have HF := Lib.hid hf; clear hf
  by_cases hbr : isBraid s xs = true
  · simp only [mTurn, if_pos hbr, Prod.mk.injEq] at hM
    obtain ⟨rfl, rfl, rfl⟩ := hM
    have HSM := Lib.hid (small_of_isBraid _ _ hbr)
    have g1 := lo_of_isBraid _ _ hbr
    have g2 := hi_of_isBraid _ _ hbr
    have HEQ := Lib.hid (turnM_eq s xs (letters_ne _ _ hbr))
    go_enter Try.func28, Try.ntmps28
    replace R := Lib.hid (R.out.alloc (.cells #[.int .i64 s, .slice a n cap] 27))
    have A := Lib.hid (At2.new w (.int .i64 s) (.slice a n cap) 27)
    have BB := Lib.hid (below1 w (.cells #[.int .i64 s, .slice a n cap] 27))
    replace R := Lib.hid (R.out.alloc (.cells #[.int .i64 0, .slice none 0 0] 27))
    replace A := Lib.hid (A.out.alloc (.cells #[.int .i64 0, .slice none 0 0] 27))
    have Z := Lib.hid (At2.place (w.alloc (.cells #[.int .i64 s, .slice a n cap] 27)) (.int .i64 0) (.slice none 0 0) 27 (w.heap.size + 1) (by simp))
    replace BB := Lib.hid (BB.out.alloc (by first | omega | (simp; done) | (simp; omega)) (.cells #[.int .i64 0, .slice none 0 0] 27))
    go_wp2_with fail
    refine (l01Is_any _ _ _ _ xs _ R.out HF.out hn).mono ?_
    rintro e w1 ⟨rfl, hb⟩
    replace R := Lib.hid (R.out.below hb)
    replace A := Lib.hid (A.out.below hb)
    replace Z := Lib.hid (Z.out.below hb)
    have z1 : w.heap.size + 2 ≤ w1.heap.size := by have := hb.size; simp at this; omega
    replace BB := Lib.hid (below_go BB.out hb (by first | omega | (simp; done) | (simp; omega)))
    clear hb
    obtain ⟨qA1, qA2, qA3, qA4, qA5⟩ := A.out
    obtain ⟨qZ1, qZ2, qZ3, qZ4, qZ5⟩ := Z.out
    go_wp2
    go_region_held3 (fun w' => w'.cell? ⟨w.heap.size, 0, none⟩ = some (.int .i64 s) ∧ w'.cell? ⟨w.heap.size, 1, none⟩ = some (.slice a n cap)) (first | exact ⟨qA2, qA3⟩ | exact ⟨rA2, rA3⟩ | go_keep)
      (first
        | (go_at_call 58; refine (l01Turned_any _ _ _ _ _ _ R.out.drew HSM.out hn (by omega) g2).mono ?_; rintro e w2 ⟨a2, c2, rfl, ho, hb⟩; obtain ⟨rA1, rA2, rA3, rA4, rA5⟩ := A.out.drew.below hb; obtain ⟨rZ1, rZ2, rZ3, rZ4, rZ5⟩ := Z.out.drew.below hb))
    go_wp2
    have z2 : w1.heap.size ≤ w2.heap.size := hb.size
    rw [HEQ.out] at ho
    obtain ⟨_, e2, e3, _, _⟩ := (Z.out.drew.below hb).fill (.int .i64 s) (.slice a2 n c2)
    refine bodyPost_ret (v := .tuple #[.agg #[.int .i64 s, .slice a2 n c2], .int .i64 0]) (by simp [results, Try.results28, go_sem, e2, e3]) rfl ⟨a2, n, c2, rfl, hn, ?_, ?_⟩
    · exact ((ho.setCell_below (by show _ < w1.heap.size; simp; omega) _).setCell_below (by show _ < w1.heap.size; simp; omega) _).mono (by show _ ≤ w1.heap.size; omega)
    · exact ((below_go BB.out.drew hb (by show _ ≤ w1.heap.size; omega)).setCell (p := ⟨w.heap.size + 1, 0, none⟩) (by simp) _).setCell (p := ⟨w.heap.size + 1, 1, none⟩) (by simp) _
  · have hb0 : isBraid s xs = false := by simpa using hbr
    simp only [mTurn, if_neg hbr, Prod.mk.injEq] at hM
    obtain ⟨rfl, rfl, rfl⟩ := hM
    clear hbr
    go_enter Try.func28, Try.ntmps28
    replace R := Lib.hid (R.out.alloc (.cells #[.int .i64 s, .slice a n cap] 27))
    have A := Lib.hid (At2.new w (.int .i64 s) (.slice a n cap) 27)
    have BB := Lib.hid (below1 w (.cells #[.int .i64 s, .slice a n cap] 27))
    replace R := Lib.hid (R.out.alloc (.cells #[.int .i64 0, .slice none 0 0] 27))
    replace A := Lib.hid (A.out.alloc (.cells #[.int .i64 0, .slice none 0 0] 27))
    have Z := Lib.hid (At2.place (w.alloc (.cells #[.int .i64 s, .slice a n cap] 27)) (.int .i64 0) (.slice none 0 0) 27 (w.heap.size + 1) (by simp))
    replace BB := Lib.hid (BB.out.alloc (by first | omega | (simp; done) | (simp; omega)) (.cells #[.int .i64 0, .slice none 0 0] 27))
    go_wp2_with fail
    refine (l01Is_any _ _ _ _ xs _ R.out HF.out hn).mono ?_
    rintro e w1 ⟨rfl, hb⟩
    replace R := Lib.hid (R.out.below hb)
    replace A := Lib.hid (A.out.below hb)
    replace Z := Lib.hid (Z.out.below hb)
    have z1 : w.heap.size + 2 ≤ w1.heap.size := by have := hb.size; simp at this; omega
    replace BB := Lib.hid (below_go BB.out hb (by first | omega | (simp; done) | (simp; omega)))
    clear hb
    obtain ⟨qA1, qA2, qA3, qA4, qA5⟩ := A.out
    obtain ⟨qZ1, qZ2, qZ3, qZ4, qZ5⟩ := Z.out
    go_wp2
    obtain ⟨_, e2, e3, _, _⟩ := Z.out.fill (.int .i64 0) (.slice none 0 0)
    refine bodyPost_ret (v := .tuple #[.agg #[.int .i64 0, .slice none 0 0], .int .i64 1]) (by simp [results, Try.results28, go_sem, e2, e3]) rfl ⟨none, 0, 0, rfl, Nat.zero_le _, Own.nil _ _, ?_⟩
    exact (BB.out.setCell (p := ⟨w.heap.size + 1, 0, none⟩) (by simp) _).setCell (p := ⟨w.heap.size + 1, 1, none⟩) (by simp) _

set_option maxHeartbeats 1000000 in
theorem implTurn_any {s : Int} {a : Option Addr} {n cap : Nat} {xs : List Int} {w : World} {fs : Int} {fxs : List Int} {fc : Int} (hr : Reads w a n xs) (hf : Fits xs) (hn : n ≤ 1048576) (hM : mTurn s xs = (fs, fxs, fc)) :
    Calls Try.prog 29 #[.agg #[.int .i64 s, .slice a n cap]] w (RetBraid w fs fxs fc) := by
  have R := Lib.hid hr; clear hr
  have HF := Lib.hid hf; clear hf
  by_cases hbr : isBraid s xs = true
  · have HSM := Lib.hid (small_of_isBraid _ _ hbr)
    have g1 := lo_of_isBraid _ _ hbr
    have g2 := hi_of_isBraid _ _ hbr
    simp only [mTurn, if_pos hbr, Prod.mk.injEq] at hM
    obtain ⟨rfl, rfl, rfl⟩ := hM
    go_enter Try.func29, Try.ntmps29
    replace R := Lib.hid (R.out.alloc (.cells #[.int .i64 s, .slice a n cap] 27))
    have A := Lib.hid (At2.new w (.int .i64 s) (.slice a n cap) 27)
    have BB := Lib.hid (below1 w (.cells #[.int .i64 s, .slice a n cap] 27))
    replace R := Lib.hid (R.out.alloc (.cells #[.int .i64 0, .slice none 0 0] 27))
    replace A := Lib.hid (A.out.alloc (.cells #[.int .i64 0, .slice none 0 0] 27))
    have Z := Lib.hid (At2.place (w.alloc (.cells #[.int .i64 s, .slice a n cap] 27)) (.int .i64 0) (.slice none 0 0) 27 (w.heap.size + 1) (by simp))
    replace BB := Lib.hid (BB.out.alloc (by first | omega | (simp; done) | (simp; omega)) (.cells #[.int .i64 0, .slice none 0 0] 27))
    go_wp2_with fail
    refine (implIsBraid_any _ _ _ _ xs _ R.out hn).mono ?_
    rintro e w1 ⟨rfl, hb⟩
    replace R := Lib.hid (R.out.below hb)
    replace A := Lib.hid (A.out.below hb)
    replace Z := Lib.hid (Z.out.below hb)
    have z1 : w.heap.size + 2 ≤ w1.heap.size := by have := hb.size; simp at this; omega
    replace BB := Lib.hid (below_go BB.out hb (by first | omega | (simp; done) | (simp; omega)))
    clear hb
    obtain ⟨qA1, qA2, qA3, qA4, qA5⟩ := A.out
    obtain ⟨qZ1, qZ2, qZ3, qZ4, qZ5⟩ := Z.out
    go_wp2_with fail
    refine (changed_any 59 #[.pointer (some ⟨w.heap.size, 0, none⟩)] (turnLetter s) _ _ _ _ _ _ _ R.out HSM.out hn enter_turn1 (fun x W hW h1 h2 => turn1_any x s ⟨w.heap.size, 0, none⟩ W (A.out.below hW).2.1 h1 h2 (by omega) g2)).mono ?_
    rintro e w2 ⟨a2, n2, c2, rfl, ho, hb⟩
    clear qA1 qA2 qA3 qA4 qA5 qZ1 qZ2 qZ3 qZ4 qZ5
    have O2 : Hid (OwnIn (w1.heap.size) w2.heap.size w2 a2 n2 c2 (xs.map (turnLetter s))) := Lib.hid (by simpa using ho.within); clear ho
    replace R := Lib.hid (R.out.below hb)
    replace A := Lib.hid (A.out.below hb)
    replace Z := Lib.hid (Z.out.below hb)
    have z2 : w1.heap.size ≤ w2.heap.size := hb.size
    replace BB := Lib.hid (below_go BB.out hb (by omega))
    clear hb
    obtain ⟨qA1, qA2, qA3, qA4, qA5⟩ := A.out
    obtain ⟨qZ1, qZ2, qZ3, qZ4, qZ5⟩ := Z.out
    have hl2 : n2 ≤ 1048576 := by have := O2.out.len; have := R.out.len; simp at *; omega
    go_wp2
    obtain ⟨_, e2, e3, _, _⟩ := Z.out.fill (.int .i64 s) (.slice a2 n2 c2)
    refine bodyPost_ret (v := .tuple #[.agg #[.int .i64 s, .slice a2 n2 c2], .int .i64 0]) (by simp [results, Try.results29, go_sem, e2, e3]) rfl ⟨a2, n2, c2, rfl, by omega, ?_, ?_⟩
    · exact ((O2.out.1.setCell_below (by simp; omega) _).setCell_below (by simp; omega) _).mono (by omega)
    · exact (BB.out.setCell (p := ⟨w.heap.size + 1, 0, none⟩) (by simp; try omega) _).setCell (p := ⟨w.heap.size + 1, 1, none⟩) (by simp; try omega) _
  · have hb0 : isBraid s xs = false := by simpa using hbr
    simp only [mTurn, if_neg hbr, Prod.mk.injEq] at hM
    obtain ⟨rfl, rfl, rfl⟩ := hM
    clear hbr
    go_enter Try.func29, Try.ntmps29
    replace R := Lib.hid (R.out.alloc (.cells #[.int .i64 s, .slice a n cap] 27))
    have A := Lib.hid (At2.new w (.int .i64 s) (.slice a n cap) 27)
    have BB := Lib.hid (below1 w (.cells #[.int .i64 s, .slice a n cap] 27))
    replace R := Lib.hid (R.out.alloc (.cells #[.int .i64 0, .slice none 0 0] 27))
    replace A := Lib.hid (A.out.alloc (.cells #[.int .i64 0, .slice none 0 0] 27))
    have Z := Lib.hid (At2.place (w.alloc (.cells #[.int .i64 s, .slice a n cap] 27)) (.int .i64 0) (.slice none 0 0) 27 (w.heap.size + 1) (by simp))
    replace BB := Lib.hid (BB.out.alloc (by first | omega | (simp; done) | (simp; omega)) (.cells #[.int .i64 0, .slice none 0 0] 27))
    go_wp2_with fail
    refine (implIsBraid_any _ _ _ _ xs _ R.out hn).mono ?_
    rintro e w1 ⟨rfl, hb⟩
    replace R := Lib.hid (R.out.below hb)
    replace A := Lib.hid (A.out.below hb)
    replace Z := Lib.hid (Z.out.below hb)
    have z1 : w.heap.size + 2 ≤ w1.heap.size := by have := hb.size; simp at this; omega
    replace BB := Lib.hid (below_go BB.out hb (by first | omega | (simp; done) | (simp; omega)))
    clear hb
    obtain ⟨qA1, qA2, qA3, qA4, qA5⟩ := A.out
    obtain ⟨qZ1, qZ2, qZ3, qZ4, qZ5⟩ := Z.out
    go_wp2
    obtain ⟨_, e2, e3, _, _⟩ := Z.out.fill (.int .i64 0) (.slice none 0 0)
    refine bodyPost_ret (v := .tuple #[.agg #[.int .i64 0, .slice none 0 0], .int .i64 1]) (by simp [results, Try.results29, go_sem, e2, e3]) rfl ⟨none, 0, 0, rfl, Nat.zero_le _, Own.nil _ _, ?_⟩
    exact (BB.out.setCell (p := ⟨w.heap.size + 1, 0, none⟩) (by simp) _).setCell (p := ⟨w.heap.size + 1, 1, none⟩) (by simp) _

end Go.Proofs.Ytmiihjhhbjpalaa