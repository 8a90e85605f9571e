/- The word to which the reduction of a braid leads: the exported functions, the model's and the program's. -/
import Derived.Test.YtckdhnpnkgmikaaDoorRds
import Derived.Test.YtckdhnpnkgmikaaDoorFirst
import Derived.Test.YtckdhnpnkgmikaaDoorKit6
import Derived.Deep.RegionHeld3
import Derived.Deep.DeepCutAuto
namespace Go.Proofs.YtckdhnpnkgmikaaDoor
open Go.RowKit Go.ChangeShapes

/-- The reduction of a braid, and the code. -/
def mFreeH (s : Int) (xs : List Int) : Int × List Int × Int :=
  if isBraid s xs = true then (match red 3000 xs with | none => (0, [], 3) | some ys => if ys.length ≤ 200 then (s, ys, 0) else (0, [], 3)) else (0, [], 1)

theorem At2.c0 {w : World} {g : Nat} {u v : Value} (h : At2 w g u v) : w.cell? ⟨g, 0, none⟩ = some u := h.2.1

/-- A package-level variable holds what it held. -/
theorem gvar {w W : World} {v : Value} {b : Nat} (h : Below w.heap.size w W) (hg : w.cell? ⟨b, 0, none⟩ = some v) : W.cell? ⟨b, 0, none⟩ = some v := (h.cell (World.block_lt_of_cell? _ _ hg)).trans hg

set_option maxRecDepth 100000 in
set_option maxHeartbeats 1000000 in
theorem specHfr_any {s : Int} {a : Option Addr} {n cap : Nat} {xs : List Int} {w : World} {fs : Int} {fxs : List Int} {fc : Int} (hr : Reads w a n xs) (hf : Fits xs) (hn : n ≤ 1048576) (hcap : n ≤ cap) (hM : mFreeH s xs = (fs, fxs, fc)) :
    Calls Tryd.prog 10 #[.agg #[.int .i64 s, .slice a n cap]] w (RetBraid w fs fxs fc) := by
  have R := Lib.hid hr; clear hr
  have HF := Lib.hid hf; clear hf
  have HL := Lib.hid R.out.len
  by_cases hbr : isBraid s xs = true
  · have HX := Lib.hid (lt8_of_isBraid hbr)
    have hn200 : n ≤ 200 := by have := len_of_isBraid _ _ hbr; have := HL.out; omega
    rw [mFreeH, if_pos hbr] at hM
    have HM := Lib.hid hM; clear hM
    go_enter Tryd.func10, Tryd.ntmps10
    replace R := Lib.hid ((R.out.alloc (.cells #[.int .i64 s, .slice a n cap] 26)).alloc (.cells #[.int .i64 0, .slice none 0 0] 26))
    have A := Lib.hid ((At2.new w (.int .i64 s) (.slice a n cap) 26).alloc (.cells #[.int .i64 0, .slice none 0 0] 26))
    have Z := Lib.hid (At2.place (w.alloc (.cells #[.int .i64 s, .slice a n cap] 26)) (.int .i64 0) (.slice none 0 0) 26 (w.heap.size + 1) (by simp))
    have BB := Lib.hid (below2 w (.cells #[.int .i64 s, .slice a n cap] 26) (.cells #[.int .i64 0, .slice none 0 0] 26))
    obtain ⟨qA1, qA2, qA3, qA4, qA5⟩ := A.out
    obtain ⟨qZ1, qZ2, qZ3, qZ4, qZ5⟩ := Z.out
    go_wp2_with fail
    refine (l01Is_any _ _ _ _ xs _ R.out HF.out hn).mono ?_
    rintro e w1 ⟨rfl, hb⟩
    clear qA1 qA2 qA3 qA4 qA5 qZ1 qZ2 qZ3 qZ4 qZ5
    replace R := Lib.hid (R.out.below hb)
    replace A := Lib.hid (A.out.below hb)
    replace Z := Lib.hid (Z.out.below hb)
    replace BB := Lib.hid (below_go BB.out hb BB.out.size)
    clear hb
    obtain ⟨qA1, qA2, qA3, qA4, qA5⟩ := A.out
    obtain ⟨qZ1, qZ2, qZ3, qZ4, qZ5⟩ := Z.out
    go_wp2_with fail
    refine (l06Reduce_any _ _ _ xs _ R.out HX.out (by omega) hcap).mono ?_
    rintro e w2 ⟨hp, hb⟩
    clear qA1 qA2 qA3 qA4 qA5 qZ1 qZ2 qZ3 qZ4 qZ5
    replace R := Lib.hid (R.out.below hb)
    replace A := Lib.hid (A.out.below hb)
    replace Z := Lib.hid (Z.out.below hb)
    replace BB := Lib.hid (below_go BB.out hb BB.out.size)
    clear hb
    cases hrd : red 3000 xs with
    | none =>
      rw [hrd] at hp; obtain rfl := hp
      replace HM := HM.out; rw [hrd] at HM; simp only [Prod.mk.injEq] at HM; obtain ⟨rfl, rfl, rfl⟩ := HM
      clear hrd
      obtain ⟨qA1, qA2, qA3, qA4, qA5⟩ := A.out
      obtain ⟨qZ1, qZ2, qZ3, qZ4, qZ5⟩ := Z.out
      go_wp2
      obtain ⟨_, e2, e3, _, _⟩ := Z.out.fill (.int .i64 0) (.slice none 0 0)
      refine bodyPost_ret (v := .tuple #[.agg #[.int .i64 0, .slice none 0 0], .int .i64 3]) (by simp [results, Tryd.results10, go_sem, e2, e3]) rfl ⟨none, 0, 0, rfl, Nat.zero_le _, ?_, ?_⟩
      · exact Own.nil _ _
      · exact ((BB.out.setCell (p := ⟨w.heap.size + 1, 0, none⟩) (by simp) _).setCell (p := ⟨w.heap.size + 1, 1, none⟩) (by simp) _)
    | some ys =>
      rw [hrd] at hp; obtain ⟨b2, m2, c2, rfl, hy⟩ := hp
      replace HM := HM.out; rw [hrd] at HM; simp only at HM; replace HM := Lib.hid HM
      have hlen := red_out hrd
      have R2 := Lib.hid hy; clear hy hrd
      have HL2 := Lib.hid R2.out.len
      have hm2 : m2 ≤ 2000 := by have := HL2.out; omega
      clear hlen
      by_cases hl : m2 ≤ 200
      · replace HM := HM.out; rw [if_pos (by rw [HL2.out]; exact hl)] at HM; simp only [Prod.mk.injEq] at HM; obtain ⟨rfl, rfl, rfl⟩ := HM
        have hl2 : ¬ (200 : Int) < (m2 : Int) := by omega
        obtain ⟨qA1, qA2, qA3, qA4, qA5⟩ := A.out
        go_upto_region 6 with fail
        clear qA1 qA2 qA3 qA4 qA5
        have zz := Z.out.1
        replace A : Hid (At2 w2.drew w.heap.size (.int .i64 s) (.slice a n cap)) := Lib.hid A.out.drew
        replace Z : Hid (At2 w2.drew (w.heap.size + 1) (.int .i64 0) (.slice none 0 0)) := Lib.hid Z.out.drew
        replace R2 : Hid (Reads w2.drew b2 m2 ys) := Lib.hid R2.out.drew
        replace BB : Hid (Below w.heap.size w w2.drew) := Lib.hid BB.out.drew
        go_region_held3 (fun w' => w'.cell? ⟨w.heap.size, 0, none⟩ = some (.int .i64 s)) (first | with_reducible exact At2.c0 A.out | exact At2.c0 ((A.out.setCell (p := ⟨w.heap.size + 1, 0, none⟩) (by simp) _).setCell (p := ⟨w.heap.size + 1, 1, none⟩) (by simp) _))
          (first
            | (go_at_call 36; refine (l01Own_any _ _ _ ys _ R2.out (by omega)).mono ?_; rintro e w3 ⟨b3, c3, rfl, ho, g1⟩; have HO : Hid (Own (w.heap.size + 1 + 1) w3 b3 m2 c3 ys) := Lib.hid (ho.mono (by simp; omega)); replace A := Lib.hid (A.out.below g1); replace Z := Lib.hid (Z.out.below g1); replace BB := Lib.hid (below_go BB.out g1 BB.out.size); clear ho g1; obtain ⟨qZ1, qZ2, qZ3, qZ4, qZ5⟩ := Z.out))
        all_goals
          clear qZ1 qZ2 qZ3 qZ4 qZ5
          go_wp2
          obtain ⟨_, e2, e3, _, _⟩ := Z.out.fill (.int .i64 s) (.slice b3 m2 c3)
          refine bodyPost_ret (v := .tuple #[.agg #[.int .i64 s, .slice b3 m2 c3], .int .i64 0]) (by simp [results, Tryd.results10, go_sem, e2, e3]) rfl ⟨b3, m2, c3, rfl, by omega, ?_, ?_⟩
          · exact ((HO.out.setCell_below (by simp) _).setCell_below (by simp) _).mono (by omega)
          · exact (BB.out.setCell (p := ⟨w.heap.size + 1, 0, none⟩) (by simp) _).setCell (p := ⟨w.heap.size + 1, 1, none⟩) (by simp) _
      · replace HM := HM.out; rw [if_neg (by rw [HL2.out]; exact hl)] at HM; simp only [Prod.mk.injEq] at HM; obtain ⟨rfl, rfl, rfl⟩ := HM
        have hl2 : (200 : Int) < (m2 : Int) := by omega
        obtain ⟨qA1, qA2, qA3, qA4, qA5⟩ := A.out
        obtain ⟨qZ1, qZ2, qZ3, qZ4, qZ5⟩ := Z.out
        go_wp2
        obtain ⟨_, e2, e3, _, _⟩ := Z.out.fill (.int .i64 0) (.slice none 0 0)
        refine bodyPost_ret (v := .tuple #[.agg #[.int .i64 0, .slice none 0 0], .int .i64 3]) (by simp [results, Tryd.results10, go_sem, e2, e3]) rfl ⟨none, 0, 0, rfl, Nat.zero_le _, ?_, ?_⟩
        · exact Own.nil _ _
        · exact ((BB.out.setCell (p := ⟨w.heap.size + 1, 0, none⟩) (by simp) _).setCell (p := ⟨w.heap.size + 1, 1, none⟩) (by simp) _)
  · have hb0 : isBraid s xs = false := by simpa using hbr
    rw [mFreeH, if_neg hbr] at hM
    simp only [Prod.mk.injEq] at hM
    obtain ⟨rfl, rfl, rfl⟩ := hM
    clear hbr
    go_enter Tryd.func10, Tryd.ntmps10
    replace R := Lib.hid ((R.out.alloc (.cells #[.int .i64 s, .slice a n cap] 26)).alloc (.cells #[.int .i64 0, .slice none 0 0] 26))
    have A := Lib.hid ((At2.new w (.int .i64 s) (.slice a n cap) 26).alloc (.cells #[.int .i64 0, .slice none 0 0] 26))
    have Z := Lib.hid (At2.place (w.alloc (.cells #[.int .i64 s, .slice a n cap] 26)) (.int .i64 0) (.slice none 0 0) 26 (w.heap.size + 1) (by simp))
    have BB := Lib.hid (below2 w (.cells #[.int .i64 s, .slice a n cap] 26) (.cells #[.int .i64 0, .slice none 0 0] 26))
    obtain ⟨qA1, qA2, qA3, qA4, qA5⟩ := A.out
    obtain ⟨qZ1, qZ2, qZ3, qZ4, qZ5⟩ := Z.out
    go_wp2_with fail
    refine (l01Is_any _ _ _ _ xs _ R.out HF.out hn).mono ?_
    rintro e w1 ⟨rfl, hb⟩
    clear qA1 qA2 qA3 qA4 qA5 qZ1 qZ2 qZ3 qZ4 qZ5
    replace R := Lib.hid (R.out.below hb)
    replace A := Lib.hid (A.out.below hb)
    replace Z := Lib.hid (Z.out.below hb)
    replace BB := Lib.hid (below_go BB.out hb BB.out.size)
    clear hb
    obtain ⟨qA1, qA2, qA3, qA4, qA5⟩ := A.out
    obtain ⟨qZ1, qZ2, qZ3, qZ4, qZ5⟩ := Z.out
    go_wp2
    obtain ⟨_, e2, e3, _, _⟩ := Z.out.fill (.int .i64 0) (.slice none 0 0)
    refine bodyPost_ret (v := .tuple #[.agg #[.int .i64 0, .slice none 0 0], .int .i64 1]) (by simp [results, Tryd.results10, go_sem, e2, e3]) rfl ⟨none, 0, 0, rfl, Nat.zero_le _, ?_, ?_⟩
    · exact Own.nil _ _
    · exact ((BB.out.setCell (p := ⟨w.heap.size + 1, 0, none⟩) (by simp) _).setCell (p := ⟨w.heap.size + 1, 1, none⟩) (by simp) _)

set_option maxRecDepth 100000 in
set_option maxHeartbeats 1000000 in
theorem implHfr_any {s : Int} {a : Option Addr} {n cap : Nat} {xs : List Int} {w : World} {ep : Value} {fs : Int} {fxs : List Int} {fc : Int} (hr : Reads w a n xs) (hf : Fits xs) (hn : n ≤ 1048576) (hcap : n ≤ cap) (hg : w.cell? ⟨0, 0, none⟩ = some (.iface 90 ep)) (hM : mFreeH s xs = (fs, fxs, fc)) :
    Calls Tryd.prog 12 #[.agg #[.int .i64 s, .slice a n cap]] w (RetBraid w fs fxs fc) := by
  have R := Lib.hid hr; clear hr
  have HF := Lib.hid hf; clear hf
  have HL := Lib.hid R.out.len
  have HG := Lib.hid hg; clear hg
  by_cases hbr : isBraid s xs = true
  · have HX := Lib.hid (lt8_of_isBraid hbr)
    have hn200 : n ≤ 200 := by have := len_of_isBraid _ _ hbr; have := HL.out; omega
    rw [mFreeH, if_pos hbr] at hM
    have HM := Lib.hid hM; clear hM
    go_enter Tryd.func12, Tryd.ntmps12
    replace R := Lib.hid ((R.out.alloc (.cells #[.int .i64 s, .slice a n cap] 26)).alloc (.cells #[.int .i64 0, .slice none 0 0] 26))
    have A := Lib.hid ((At2.new w (.int .i64 s) (.slice a n cap) 26).alloc (.cells #[.int .i64 0, .slice none 0 0] 26))
    have Z := Lib.hid (At2.place (w.alloc (.cells #[.int .i64 s, .slice a n cap] 26)) (.int .i64 0) (.slice none 0 0) 26 (w.heap.size + 1) (by simp))
    have BB := Lib.hid (below2 w (.cells #[.int .i64 s, .slice a n cap] 26) (.cells #[.int .i64 0, .slice none 0 0] 26))
    obtain ⟨qA1, qA2, qA3, qA4, qA5⟩ := A.out
    obtain ⟨qZ1, qZ2, qZ3, qZ4, qZ5⟩ := Z.out
    go_wp2_with fail
    refine (implIsBraid_any _ _ _ _ xs _ R.out hn).mono ?_
    rintro e w1 ⟨rfl, hb⟩
    clear qA1 qA2 qA3 qA4 qA5 qZ1 qZ2 qZ3 qZ4 qZ5
    replace R := Lib.hid (R.out.below hb)
    replace A := Lib.hid (A.out.below hb)
    replace Z := Lib.hid (Z.out.below hb)
    replace BB := Lib.hid (below_go BB.out hb BB.out.size)
    clear hb
    obtain ⟨qA1, qA2, qA3, qA4, qA5⟩ := A.out
    obtain ⟨qZ1, qZ2, qZ3, qZ4, qZ5⟩ := Z.out
    go_wp2_with fail
    refine (handleFree_any _ _ _ xs ep _ R.out HX.out (by omega) hcap (gvar BB.out HG.out)).mono ?_
    rintro e w2 ⟨hp, hb⟩
    clear qA1 qA2 qA3 qA4 qA5 qZ1 qZ2 qZ3 qZ4 qZ5
    replace R := Lib.hid (R.out.below hb)
    replace A := Lib.hid (A.out.below hb)
    replace Z := Lib.hid (Z.out.below hb)
    replace BB := Lib.hid (below_go BB.out hb BB.out.size)
    clear hb
    cases hrd : red 3000 xs with
    | none =>
      rw [hrd] at hp; obtain rfl := hp
      replace HM := HM.out; rw [hrd] at HM; simp only [Prod.mk.injEq] at HM; obtain ⟨rfl, rfl, rfl⟩ := HM
      clear hrd
      obtain ⟨qA1, qA2, qA3, qA4, qA5⟩ := A.out
      obtain ⟨qZ1, qZ2, qZ3, qZ4, qZ5⟩ := Z.out
      go_wp2
      obtain ⟨_, e2, e3, _, _⟩ := Z.out.fill (.int .i64 0) (.slice none 0 0)
      refine bodyPost_ret (v := .tuple #[.agg #[.int .i64 0, .slice none 0 0], .int .i64 3]) (by simp [results, Tryd.results12, go_sem, e2, e3]) rfl ⟨none, 0, 0, rfl, Nat.zero_le _, ?_, ?_⟩
      · exact Own.nil _ _
      · exact ((BB.out.setCell (p := ⟨w.heap.size + 1, 0, none⟩) (by simp) _).setCell (p := ⟨w.heap.size + 1, 1, none⟩) (by simp) _)
    | some ys =>
      rw [hrd] at hp; obtain ⟨b2, m2, c2, rfl, hy⟩ := hp
      replace HM := HM.out; rw [hrd] at HM; simp only at HM; replace HM := Lib.hid HM
      have hlen := red_out hrd
      have R2 := Lib.hid hy; clear hy hrd
      have HL2 := Lib.hid R2.out.len
      have hm2 : m2 ≤ 2000 := by have := HL2.out; omega
      clear hlen
      by_cases hl : m2 ≤ 200
      · replace HM := HM.out; rw [if_pos (by rw [HL2.out]; exact hl)] at HM; simp only [Prod.mk.injEq] at HM; obtain ⟨rfl, rfl, rfl⟩ := HM
        have hl2 : ¬ (200 : Int) < (m2 : Int) := by omega
        obtain ⟨qA1, qA2, qA3, qA4, qA5⟩ := A.out
        go_upto_region 8 with fail
        clear qA1 qA2 qA3 qA4 qA5
        have zz := Z.out.1
        replace A : Hid (At2 w2.drew w.heap.size (.int .i64 s) (.slice a n cap)) := Lib.hid A.out.drew
        replace Z : Hid (At2 w2.drew (w.heap.size + 1) (.int .i64 0) (.slice none 0 0)) := Lib.hid Z.out.drew
        replace R2 : Hid (Reads w2.drew b2 m2 ys) := Lib.hid R2.out.drew
        replace BB : Hid (Below w.heap.size w w2.drew) := Lib.hid BB.out.drew
        go_region_held3 (fun w' => w'.cell? ⟨w.heap.size, 0, none⟩ = some (.int .i64 s)) (first | with_reducible exact At2.c0 A.out | exact At2.c0 ((A.out.setCell (p := ⟨w.heap.size + 1, 0, none⟩) (by simp) _).setCell (p := ⟨w.heap.size + 1, 1, none⟩) (by simp) _))
          (first
            | (go_at_call 40; refine (cloneI_any _ _ _ ys _ R2.out (by omega)).mono ?_; rintro e w3 ⟨b3, c3, rfl, ho, g1⟩; have HO : Hid (Own (w.heap.size + 1 + 1) w3 b3 m2 c3 ys) := Lib.hid (ho.mono (by simp; omega)); replace A := Lib.hid (A.out.below g1); replace Z := Lib.hid (Z.out.below g1); replace BB := Lib.hid (below_go BB.out g1 BB.out.size); clear ho g1; obtain ⟨qZ1, qZ2, qZ3, qZ4, qZ5⟩ := Z.out))
        all_goals
          clear qZ1 qZ2 qZ3 qZ4 qZ5
          go_wp2
          obtain ⟨_, e2, e3, _, _⟩ := Z.out.fill (.int .i64 s) (.slice b3 m2 c3)
          refine bodyPost_ret (v := .tuple #[.agg #[.int .i64 s, .slice b3 m2 c3], .int .i64 0]) (by simp [results, Tryd.results12, go_sem, e2, e3]) rfl ⟨b3, m2, c3, rfl, by omega, ?_, ?_⟩
          · exact ((HO.out.setCell_below (by simp) _).setCell_below (by simp) _).mono (by omega)
          · exact (BB.out.setCell (p := ⟨w.heap.size + 1, 0, none⟩) (by simp) _).setCell (p := ⟨w.heap.size + 1, 1, none⟩) (by simp) _
      · replace HM := HM.out; rw [if_neg (by rw [HL2.out]; exact hl)] at HM; simp only [Prod.mk.injEq] at HM; obtain ⟨rfl, rfl, rfl⟩ := HM
        have hl2 : (200 : Int) < (m2 : Int) := by omega
        obtain ⟨qA1, qA2, qA3, qA4, qA5⟩ := A.out
        obtain ⟨qZ1, qZ2, qZ3, qZ4, qZ5⟩ := Z.out
        go_wp2
        obtain ⟨_, e2, e3, _, _⟩ := Z.out.fill (.int .i64 0) (.slice none 0 0)
        refine bodyPost_ret (v := .tuple #[.agg #[.int .i64 0, .slice none 0 0], .int .i64 3]) (by simp [results, Tryd.results12, go_sem, e2, e3]) rfl ⟨none, 0, 0, rfl, Nat.zero_le _, ?_, ?_⟩
        · exact Own.nil _ _
        · exact ((BB.out.setCell (p := ⟨w.heap.size + 1, 0, none⟩) (by simp) _).setCell (p := ⟨w.heap.size + 1, 1, none⟩) (by simp) _)
  · have hb0 : isBraid s xs = false := by simpa using hbr
    rw [mFreeH, if_neg hbr] at hM
    simp only [Prod.mk.injEq] at hM
    obtain ⟨rfl, rfl, rfl⟩ := hM
    clear hbr
    go_enter Tryd.func12, Tryd.ntmps12
    replace R := Lib.hid ((R.out.alloc (.cells #[.int .i64 s, .slice a n cap] 26)).alloc (.cells #[.int .i64 0, .slice none 0 0] 26))
    have A := Lib.hid ((At2.new w (.int .i64 s) (.slice a n cap) 26).alloc (.cells #[.int .i64 0, .slice none 0 0] 26))
    have Z := Lib.hid (At2.place (w.alloc (.cells #[.int .i64 s, .slice a n cap] 26)) (.int .i64 0) (.slice none 0 0) 26 (w.heap.size + 1) (by simp))
    have BB := Lib.hid (below2 w (.cells #[.int .i64 s, .slice a n cap] 26) (.cells #[.int .i64 0, .slice none 0 0] 26))
    obtain ⟨qA1, qA2, qA3, qA4, qA5⟩ := A.out
    obtain ⟨qZ1, qZ2, qZ3, qZ4, qZ5⟩ := Z.out
    go_wp2_with fail
    refine (implIsBraid_any _ _ _ _ xs _ R.out hn).mono ?_
    rintro e w1 ⟨rfl, hb⟩
    clear qA1 qA2 qA3 qA4 qA5 qZ1 qZ2 qZ3 qZ4 qZ5
    replace R := Lib.hid (R.out.below hb)
    replace A := Lib.hid (A.out.below hb)
    replace Z := Lib.hid (Z.out.below hb)
    replace BB := Lib.hid (below_go BB.out hb BB.out.size)
    clear hb
    obtain ⟨qA1, qA2, qA3, qA4, qA5⟩ := A.out
    obtain ⟨qZ1, qZ2, qZ3, qZ4, qZ5⟩ := Z.out
    go_wp2
    obtain ⟨_, e2, e3, _, _⟩ := Z.out.fill (.int .i64 0) (.slice none 0 0)
    refine bodyPost_ret (v := .tuple #[.agg #[.int .i64 0, .slice none 0 0], .int .i64 1]) (by simp [results, Tryd.results12, go_sem, e2, e3]) rfl ⟨none, 0, 0, rfl, Nat.zero_le _, ?_, ?_⟩
    · exact Own.nil _ _
    · exact ((BB.out.setCell (p := ⟨w.heap.size + 1, 0, none⟩) (by simp) _).setCell (p := ⟨w.heap.size + 1, 1, none⟩) (by simp) _)

end Go.Proofs.YtckdhnpnkgmikaaDoor
