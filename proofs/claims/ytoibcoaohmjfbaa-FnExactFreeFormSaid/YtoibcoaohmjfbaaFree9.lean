/- The free form of a braid: the model's answer and the program's. -/
import Derived.Test.YtoibcoaohmjfbaaFree8
import Derived.Test.YtoibcoaohmjfbaaWPrY
import Derived.Deep.RegionHeld3
namespace Go.Proofs.Ytoibcoaohmjfbaa
open Go.RowKit Go.ChangeShapes

set_option maxHeartbeats 1000000 in
theorem specFree_any {s : Int} {a : Option Addr} {n cap : Nat} {xs : List Int} {w : World} {fs : Int} {fxs : List Int} {fc : Int} (hr : Reads w a n xs) (hf : Fits xs) (hn : n ≤ 1048576) (hM : mFree s xs = (fs, fxs, fc)) :
    Calls Try.prog 45 #[.agg #[.int .i64 s, .slice a n cap]] w (RetBraid w fs fxs fc) := by
  have R := Lib.hid hr; clear hr
  have HF := Lib.hid hf; clear hf
  by_cases hbr : isBraid s xs = true
  · simp only [mFree, if_pos hbr, Prod.mk.injEq] at hM
    obtain ⟨rfl, rfl, rfl⟩ := hM
    have HSM := Lib.hid (small_of_isBraid _ _ hbr)
    have fl : (free xs).length ≤ 1048576 := by have := free_len xs; have := len_of_isBraid _ _ hbr; omega
    go_enter Try.func45, Try.ntmps45
    replace R := Lib.hid (R.out.alloc (.cells #[.int .i64 s, .slice a n cap] 35))
    have A := Lib.hid (At2.new w (.int .i64 s) (.slice a n cap) 35)
    have BB := Lib.hid (below1 w (.cells #[.int .i64 s, .slice a n cap] 35))
    replace R := Lib.hid (R.out.alloc (.cells #[.int .i64 0, .slice none 0 0] 35))
    replace A := Lib.hid (A.out.alloc (.cells #[.int .i64 0, .slice none 0 0] 35))
    have Z := Lib.hid (At2.place (w.alloc (.cells #[.int .i64 s, .slice a n cap] 35)) (.int .i64 0) (.slice none 0 0) 35 (w.heap.size + 1) (by simp))
    replace BB := Lib.hid (BB.out.alloc (by first | omega | (simp; done) | (simp; omega)) (.cells #[.int .i64 0, .slice none 0 0] 35))
    go_wp2_with fail
    refine (l01Is_any _ _ _ _ xs _ R.out HF.out hn).mono ?_
    rintro e w1 ⟨rfl, hb⟩
    replace R := Lib.hid (R.out.below hb)
    replace A := Lib.hid (A.out.below hb)
    replace Z := Lib.hid (Z.out.below hb)
    have z1 : w.heap.size + 2 ≤ w1.heap.size := by have := hb.size; simp at this; omega
    replace BB := Lib.hid (below_go BB.out hb (by first | omega | (simp; done) | (simp; omega)))
    clear hb
    obtain ⟨qA1, qA2, qA3, qA4, qA5⟩ := A.out
    obtain ⟨qZ1, qZ2, qZ3, qZ4, qZ5⟩ := Z.out
    go_wp2
    go_region_held3 (fun w' => w'.cell? ⟨w.heap.size, 0, none⟩ = some (.int .i64 s) ∧ w'.cell? ⟨w.heap.size, 1, none⟩ = some (.slice a n cap)) (first | exact ⟨qA2, qA3⟩ | exact ⟨rA2, rA3⟩ | go_keep)
      (first
        | (go_at_call 75; refine (l01Free_any _ _ _ _ _ R.out.drew HSM.out hn).mono ?_; rintro e w2 ⟨a2, c2, rfl, ho, hb⟩; obtain ⟨rA1, rA2, rA3, rA4, rA5⟩ := A.out.drew.below hb; obtain ⟨rZ1, rZ2, rZ3, rZ4, rZ5⟩ := Z.out.drew.below hb))
    go_wp2
    have z2 : w1.heap.size ≤ w2.heap.size := hb.size
    obtain ⟨_, e2, e3, _, _⟩ := (Z.out.drew.below hb).fill (.int .i64 s) (.slice a2 (free xs).length c2)
    refine bodyPost_ret (v := .tuple #[.agg #[.int .i64 s, .slice a2 (free xs).length c2], .int .i64 0]) (by simp [results, Try.results45, go_sem, e2, e3]) rfl ⟨a2, _, c2, rfl, fl, ?_, ?_⟩
    · exact ((ho.setCell_below (by show _ < w1.heap.size; simp; omega) _).setCell_below (by show _ < w1.heap.size; simp; omega) _).mono (by show _ ≤ w1.heap.size; omega)
    · exact ((below_go BB.out.drew hb (by show _ ≤ w1.heap.size; omega)).setCell (p := ⟨w.heap.size + 1, 0, none⟩) (by simp) _).setCell (p := ⟨w.heap.size + 1, 1, none⟩) (by simp) _
  · have hb0 : isBraid s xs = false := by simpa using hbr
    simp only [mFree, if_neg hbr, Prod.mk.injEq] at hM
    obtain ⟨rfl, rfl, rfl⟩ := hM
    clear hbr
    go_enter Try.func45, Try.ntmps45
    replace R := Lib.hid (R.out.alloc (.cells #[.int .i64 s, .slice a n cap] 35))
    have A := Lib.hid (At2.new w (.int .i64 s) (.slice a n cap) 35)
    have BB := Lib.hid (below1 w (.cells #[.int .i64 s, .slice a n cap] 35))
    replace R := Lib.hid (R.out.alloc (.cells #[.int .i64 0, .slice none 0 0] 35))
    replace A := Lib.hid (A.out.alloc (.cells #[.int .i64 0, .slice none 0 0] 35))
    have Z := Lib.hid (At2.place (w.alloc (.cells #[.int .i64 s, .slice a n cap] 35)) (.int .i64 0) (.slice none 0 0) 35 (w.heap.size + 1) (by simp))
    replace BB := Lib.hid (BB.out.alloc (by first | omega | (simp; done) | (simp; omega)) (.cells #[.int .i64 0, .slice none 0 0] 35))
    go_wp2_with fail
    refine (l01Is_any _ _ _ _ xs _ R.out HF.out hn).mono ?_
    rintro e w1 ⟨rfl, hb⟩
    replace R := Lib.hid (R.out.below hb)
    replace A := Lib.hid (A.out.below hb)
    replace Z := Lib.hid (Z.out.below hb)
    have z1 : w.heap.size + 2 ≤ w1.heap.size := by have := hb.size; simp at this; omega
    replace BB := Lib.hid (below_go BB.out hb (by first | omega | (simp; done) | (simp; omega)))
    clear hb
    obtain ⟨qA1, qA2, qA3, qA4, qA5⟩ := A.out
    obtain ⟨qZ1, qZ2, qZ3, qZ4, qZ5⟩ := Z.out
    go_wp2
    obtain ⟨_, e2, e3, _, _⟩ := Z.out.fill (.int .i64 0) (.slice none 0 0)
    refine bodyPost_ret (v := .tuple #[.agg #[.int .i64 0, .slice none 0 0], .int .i64 1]) (by simp [results, Try.results45, go_sem, e2, e3]) rfl ⟨none, 0, 0, rfl, Nat.zero_le _, Own.nil _ _, ?_⟩
    exact (BB.out.setCell (p := ⟨w.heap.size + 1, 0, none⟩) (by simp) _).setCell (p := ⟨w.heap.size + 1, 1, none⟩) (by simp) _

set_option maxRecDepth 100000 in
set_option maxHeartbeats 1000000 in
theorem implFree_any {s : Int} {a : Option Addr} {n cap : Nat} {xs : List Int} {w : World} {fs : Int} {fxs : List Int} {fc : Int} (hr : Reads w a n xs) (hf : Fits xs) (hn : n ≤ 1048576) (hM : mFree s xs = (fs, fxs, fc)) :
    Calls Try.prog 46 #[.agg #[.int .i64 s, .slice a n cap]] w (RetBraid w fs fxs fc) := by
  have R := Lib.hid hr; clear hr
  have HF := Lib.hid hf; clear hf
  by_cases hbr : isBraid s xs = true
  · have HSM := Lib.hid (small_of_isBraid _ _ hbr)
    have HL := Lib.hid R.out.len
    have hl200 := len_of_isBraid _ _ hbr
    have hn200 : n ≤ 200 := by have := HL.out; omega
    clear hl200
    simp only [mFree, if_pos hbr, Prod.mk.injEq] at hM
    obtain ⟨rfl, rfl, rfl⟩ := hM
    have fl : (free xs).length ≤ 1048576 := by have := free_len xs; have := HL.out; omega
    obtain ⟨zs, hz⟩ := sm_of xs HSM.out
    have hzl : zs.length ≤ 1048576 := by have h1 := congrArg List.length hz; rw [List.length_map] at h1; have := HL.out; omega
    have HZ := Lib.hid hz; clear hz
    obtain ⟨q, hqe⟩ : ∃ q, q = (free xs).length := ⟨_, rfl⟩
    rw [← hqe] at fl
    have HQ := Lib.hid hqe; clear hqe
    go_enter Try.func46, Try.ntmps46
    replace R := Lib.hid (R.out.alloc (.cells #[.int .i64 s, .slice a n cap] 35))
    have A := Lib.hid (At2.new w (.int .i64 s) (.slice a n cap) 35)
    have BB := Lib.hid (below1 w (.cells #[.int .i64 s, .slice a n cap] 35))
    replace R := Lib.hid (R.out.alloc (.cells #[.int .i64 0, .slice none 0 0] 35))
    replace A := Lib.hid (A.out.alloc (.cells #[.int .i64 0, .slice none 0 0] 35))
    have Z := Lib.hid (At2.place (w.alloc (.cells #[.int .i64 s, .slice a n cap] 35)) (.int .i64 0) (.slice none 0 0) 35 (w.heap.size + 1) (by simp))
    replace BB := Lib.hid (BB.out.alloc (by first | omega | (simp; done) | (simp; omega)) (.cells #[.int .i64 0, .slice none 0 0] 35))
    go_wp2_with fail
    refine (implIsBraid_any _ _ _ _ xs _ R.out hn).mono ?_
    rintro e w1 ⟨rfl, hb⟩
    replace R := Lib.hid (R.out.below hb)
    replace A := Lib.hid (A.out.below hb)
    replace Z := Lib.hid (Z.out.below hb)
    have z1 : w.heap.size + 2 ≤ w1.heap.size := by have := hb.size; simp at this; omega
    replace BB := Lib.hid (below_go BB.out hb (by first | omega | (simp; done) | (simp; omega)))
    clear hb
    obtain ⟨qA1, qA2, qA3, qA4, qA5⟩ := A.out
    obtain ⟨qZ1, qZ2, qZ3, qZ4, qZ5⟩ := Z.out
    go_wp2
    go_region_held3 (fun w' => w'.cell? ⟨w.heap.size, 0, none⟩ = some (.int .i64 s) ∧ w'.cell? ⟨w.heap.size, 1, none⟩ = some (.slice a n cap)) (first | exact ⟨qA2, qA3⟩ | exact ⟨rA2, rA3⟩ | exact ⟨pA2, pA3⟩ | go_keep)
      (first
        | (go_at_call 77; refine (values_any _ _ _ _).mono ?_; rintro e wv ⟨rfl, hwv⟩; have hbv : Below w1.heap.size w1.drew wv := (by rw [hwv]; exact below1 w1.drew _); have hsq := values_seq (w1.heap.size + 1) a n cap xs zs w1.drew R.out.drew HZ.out hn (by show w1.heap.size < _; omega); rw [← hwv] at hsq; have hvs : wv.heap.size = w1.heap.size + 1 := (by rw [hwv]; simp); have hvs2 : w1.heap.size ≤ wv.heap.size := (by omega); rw [← hvs] at hsq; clear hvs hwv; obtain ⟨rA1, rA2, rA3, rA4, rA5⟩ := A.out.drew.below hbv)
        | (go_at_call 76; refine (withoutPairs_ys wv hsq hzl HZ.out q HQ.out).mono ?_; rintro e w2 ⟨a2, c2, rfl, ho, hb⟩; obtain ⟨pA1, pA2, pA3, pA4, pA5⟩ := (A.out.drew.below hbv).below hb; obtain ⟨rZ1, rZ2, rZ3, rZ4, rZ5⟩ := (Z.out.drew.below hbv).below hb))
    go_wp2
    have z2 : wv.heap.size ≤ w2.heap.size := hb.size
    obtain ⟨_, e2, e3, _, _⟩ := ((Z.out.drew.below hbv).below hb).fill (.int .i64 s) (.slice a2 q c2)
    refine bodyPost_ret (v := .tuple #[.agg #[.int .i64 s, .slice a2 q c2], .int .i64 0]) (by simp [results, Try.results46, go_sem, e2, e3]) rfl ⟨a2, _, c2, rfl, fl, ?_, ?_⟩
    · exact ((ho.setCell_below (by show w.heap.size + 1 < wv.heap.size; omega) _).setCell_below (by show w.heap.size + 1 < wv.heap.size; omega) _).mono (by omega)
    · exact ((below_go (BB.out.drew.trans (hbv.mono (by show _ ≤ w1.heap.size; omega))) hb (by show _ ≤ wv.heap.size; omega)).setCell (p := ⟨w.heap.size + 1, 0, none⟩) (by simp) _).setCell (p := ⟨w.heap.size + 1, 1, none⟩) (by simp) _
  · have hb0 : isBraid s xs = false := by simpa using hbr
    simp only [mFree, if_neg hbr, Prod.mk.injEq] at hM
    obtain ⟨rfl, rfl, rfl⟩ := hM
    clear hbr
    go_enter Try.func46, Try.ntmps46
    replace R := Lib.hid (R.out.alloc (.cells #[.int .i64 s, .slice a n cap] 35))
    have A := Lib.hid (At2.new w (.int .i64 s) (.slice a n cap) 35)
    have BB := Lib.hid (below1 w (.cells #[.int .i64 s, .slice a n cap] 35))
    replace R := Lib.hid (R.out.alloc (.cells #[.int .i64 0, .slice none 0 0] 35))
    replace A := Lib.hid (A.out.alloc (.cells #[.int .i64 0, .slice none 0 0] 35))
    have Z := Lib.hid (At2.place (w.alloc (.cells #[.int .i64 s, .slice a n cap] 35)) (.int .i64 0) (.slice none 0 0) 35 (w.heap.size + 1) (by simp))
    replace BB := Lib.hid (BB.out.alloc (by first | omega | (simp; done) | (simp; omega)) (.cells #[.int .i64 0, .slice none 0 0] 35))
    go_wp2_with fail
    refine (implIsBraid_any _ _ _ _ xs _ R.out hn).mono ?_
    rintro e w1 ⟨rfl, hb⟩
    replace R := Lib.hid (R.out.below hb)
    replace A := Lib.hid (A.out.below hb)
    replace Z := Lib.hid (Z.out.below hb)
    have z1 : w.heap.size + 2 ≤ w1.heap.size := by have := hb.size; simp at this; omega
    replace BB := Lib.hid (below_go BB.out hb (by first | omega | (simp; done) | (simp; omega)))
    clear hb
    obtain ⟨qA1, qA2, qA3, qA4, qA5⟩ := A.out
    obtain ⟨qZ1, qZ2, qZ3, qZ4, qZ5⟩ := Z.out
    go_wp2
    obtain ⟨_, e2, e3, _, _⟩ := Z.out.fill (.int .i64 0) (.slice none 0 0)
    refine bodyPost_ret (v := .tuple #[.agg #[.int .i64 0, .slice none 0 0], .int .i64 1]) (by simp [results, Try.results46, go_sem, e2, e3]) rfl ⟨none, 0, 0, rfl, Nat.zero_le _, Own.nil _ _, ?_⟩
    exact (BB.out.setCell (p := ⟨w.heap.size + 1, 0, none⟩) (by simp) _).setCell (p := ⟨w.heap.size + 1, 1, none⟩) (by simp) _

end Go.Proofs.Ytoibcoaohmjfbaa