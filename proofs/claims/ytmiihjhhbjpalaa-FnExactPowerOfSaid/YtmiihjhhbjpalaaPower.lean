/- The powers of a braid: the program's answer. -/
import Derived.Test.YtmiihjhhbjpalaaRep
import Derived.Deep.RegionHeld3
namespace Go.Proofs.Ytmiihjhhbjpalaa
open Go.RowKit Go.ChangeShapes

/-- The power of a braid, and the code. -/
def mPower (s : Int) (xs : List Int) (k : Int) : Int × List Int × Int :=
  if isBraid s xs = true then
    (if -100 ≤ k ∧ k ≤ 100 then (if k.natAbs * xs.length ≤ 200 then (s, rep k.natAbs (if k < 0 then inverse xs else xs), 0) else (0, [], 3)) else (0, [], 2))
  else (0, [], 1)

theorem mul_bounds (kn n : Nat) (h1 : kn ≤ 100) (h2 : n ≤ 200) : 0 ≤ (kn : Int) * (n : Int) ∧ (kn : Int) * (n : Int) ≤ 20000 := by
  have := Nat.mul_le_mul h1 h2
  have e : ((kn * n : Nat) : Int) = (kn : Int) * (n : Int) := Int.natCast_mul kn n
  omega

theorem mul_cast (kn n : Nat) : (kn : Int) * (n : Int) = ((kn * n : Nat) : Int) := (Int.natCast_mul kn n).symm

set_option maxHeartbeats 2000000 in
theorem implPower_any {s : Int} {a : Option Addr} {n cap : Nat} {xs : List Int} {k : Int} {w : World} {fs : Int} {fxs : List Int} {fc : Int} (hr : Reads w a n xs) (hf : Fits xs) (hn : n ≤ 1048576) (hk : (Lit.int .i64 k).wf = true) (hM : mPower s xs k = (fs, fxs, fc)) :
    Calls Try.prog 35 #[.agg #[.int .i64 s, .slice a n cap], .int .i64 k] w (RetBraid w fs fxs fc) := by
  have R := Lib.hid hr; clear hr
  have HF := Lib.hid hf; clear hf
  have HK := Lib.hid hk; clear hk
  by_cases hbr : isBraid s xs = true
  · have HSM := Lib.hid (small_of_isBraid _ _ hbr)
    have HL := Lib.hid R.out.len
    have hn200 : n ≤ 200 := by have := HL.out; have := len_of_isBraid _ _ hbr; omega
    by_cases hkk : -100 ≤ k ∧ k ≤ 100
    · simp only [mPower, if_pos hbr, if_pos hkk] at hM
      obtain ⟨kk1, kk2⟩ := hkk
      rw [HL.out] at hM
      rcases Int.lt_or_le k 0 with hneg | hpos
      · obtain ⟨kn, hkn⟩ : ∃ kn : Nat, k = -(kn : Int) := ⟨k.natAbs, by omega⟩
        have hab : k.natAbs = kn := by omega
        rw [hab, if_pos hneg] at hM
        subst hkn
        clear hab
        have hk1 : 0 < (kn : Int) := by omega
        have hk100 : kn ≤ 100 := by omega
        clear hneg kk1 kk2
        obtain ⟨p1, p2⟩ := mul_bounds kn n hk100 hn200
        by_cases hprod : kn * n ≤ 200
        · simp only [if_pos hprod, Prod.mk.injEq] at hM
          obtain ⟨rfl, rfl, rfl⟩ := hM
          have HP := Lib.hid hprod; clear hprod
          have p3 : (kn : Int) * (n : Int) ≤ 200 := by rw [mul_cast]; have := HP.out; omega
          go_enter Try.func35, Try.ntmps35
          replace R := Lib.hid (R.out.alloc (.cells #[.int .i64 s, .slice a n cap] 27))
          have A := Lib.hid (At2.new w (.int .i64 s) (.slice a n cap) 27)
          have BB := Lib.hid (below1 w (.cells #[.int .i64 s, .slice a n cap] 27))
          replace R := Lib.hid (R.out.alloc (.cells #[.int .i64 0, .slice none 0 0] 27))
          replace A := Lib.hid (A.out.alloc (.cells #[.int .i64 0, .slice none 0 0] 27))
          have Z := Lib.hid (At2.place (w.alloc (.cells #[.int .i64 s, .slice a n cap] 27)) (.int .i64 0) (.slice none 0 0) 27 (w.heap.size + 1) (by simp))
          replace BB := Lib.hid (BB.out.alloc (by first | omega | (simp; done) | (simp; omega)) (.cells #[.int .i64 0, .slice none 0 0] 27))
          go_wp2_with fail
          refine (implIsBraid_any _ _ _ _ xs _ R.out hn).mono ?_
          rintro e w1 ⟨rfl, hb⟩
          replace R := Lib.hid (R.out.below hb)
          replace A := Lib.hid (A.out.below hb)
          replace Z := Lib.hid (Z.out.below hb)
          have z1 : w.heap.size + 2 ≤ w1.heap.size := by have := hb.size; simp at this; omega
          replace BB := Lib.hid (below_go BB.out hb (by first | omega | (simp; done) | (simp; omega)))
          clear hb
          obtain ⟨qA1, qA2, qA3, qA4, qA5⟩ := A.out
          obtain ⟨qZ1, qZ2, qZ3, qZ4, qZ5⟩ := Z.out
          have HZ0 := Z; have HB0 := BB
          replace R := Lib.hid (R.out.alloc (.cells #[.int .i64 s, .slice a n cap] 27))
          replace A := Lib.hid (A.out.alloc (.cells #[.int .i64 s, .slice a n cap] 27))
          replace Z := Lib.hid (Z.out.alloc (.cells #[.int .i64 s, .slice a n cap] 27))
          have F := Lib.hid (At2.new w1 (.int .i64 s) (.slice a n cap) 27)
          replace BB := Lib.hid (BB.out.alloc (by first | omega | (simp; done) | (simp; omega)) (.cells #[.int .i64 s, .slice a n cap] 27))
          go_wp2_with fail
          refine (changed_any 57 #[] (fun x => -x) _ _ _ _ _ _ _ R.out HSM.out hn enter_inverse (fun x W _ h1 h2 => (inverse_any x W h1 h2).mono fun _ _ ⟨he, hw⟩ => ⟨he, hw ▸ Below.refl _ _⟩)).mono ?_
          rintro e w2 ⟨a2, n2, c2, rfl, ho, hb⟩
          clear qA1 qA2 qA3 qA4 qA5 qZ1 qZ2 qZ3 qZ4 qZ5
          have O2 : Hid (OwnIn (w1.heap.size + 1) w2.heap.size w2 a2 n2 c2 (xs.map fun x => -x)) := Lib.hid (by simpa using ho.within); clear ho
          replace R := Lib.hid (R.out.below hb)
          replace A := Lib.hid (A.out.below hb)
          replace Z := Lib.hid (Z.out.below hb)
          replace F := Lib.hid (F.out.below hb)
          have z2 : w1.heap.size + 1 ≤ w2.heap.size := by have := hb.size; simp at this; omega
          replace BB := Lib.hid (below_go BB.out hb (by first | omega | (simp; done) | (simp; omega)))
          clear hb
          obtain ⟨qA1, qA2, qA3, qA4, qA5⟩ := A.out
          obtain ⟨qZ1, qZ2, qZ3, qZ4, qZ5⟩ := Z.out
          obtain ⟨qF1, qF2, qF3, qF4, qF5⟩ := F.out
          have hl2 : n2 ≤ 1048576 := by have := O2.out.len; have := R.out.len; simp at *; omega
          go_wp2_with fail
          refine (backwards_any _ _ _ _ _ _ O2.out.reads hl2).mono ?_
          rintro e w3 ⟨a3, n3, c3, rfl, ho, hb⟩
          clear qA1 qA2 qA3 qA4 qA5 qZ1 qZ2 qZ3 qZ4 qZ5 qF1 qF2 qF3 qF4 qF5
          have O3 : Hid (OwnIn w2.heap.size w3.heap.size w3 a3 n3 c3 (inverse xs)) := Lib.hid ho.within; clear ho
          have hl3 : n = n3 := by have h1 := O3.out.len; rw [inverse_length, HL.out] at h1; exact h1
          clear O2
          replace R := Lib.hid (R.out.below hb)
          replace A := Lib.hid (A.out.below hb)
          replace Z := Lib.hid (Z.out.below hb)
          replace F := Lib.hid (F.out.below hb)
          have z3 : w2.heap.size ≤ w3.heap.size := hb.size
          replace BB := Lib.hid (below_go BB.out hb (by omega))
          clear hb
          obtain ⟨qA1, qA2, qA3, qA4, qA5⟩ := A.out
          obtain ⟨qZ1, qZ2, qZ3, qZ4, qZ5⟩ := Z.out
          obtain ⟨qF1, qF2, qF3, qF4, qF5⟩ := F.out
          obtain rfl := hl3
          skip
          have HZ := Lib.hid ((Z.out.setCell (p := ⟨w1.heap.size, 0, none⟩) (by simp; omega) (.int .i64 s)).setCell (p := ⟨w1.heap.size, 1, none⟩) (by simp; omega) (.slice a3 n c3))
          have HBW := Lib.hid ((BB.out.setCell (p := ⟨w1.heap.size, 0, none⟩) (by simp; omega) (.int .i64 s)).setCell (p := ⟨w1.heap.size, 1, none⟩) (by simp; omega) (.slice a3 n c3))
          have HRR := Lib.hid ((O3.out.1.setCell_below (p := ⟨w1.heap.size, 0, none⟩) (by simp; omega) (.int .i64 s)).setCell_below (p := ⟨w1.heap.size, 1, none⟩) (by simp; omega) (.slice a3 n c3)).reads
          have hsz : w1.heap.size + 1 ≤ ((w3.setCell ⟨w1.heap.size, 0, none⟩ (.int .i64 s)).setCell ⟨w1.heap.size, 1, none⟩ (.slice a3 n c3)).heap.size := by simp [World.setCell]; omega
          go_wp2_with fail
          refine (repeated_any _ _ _ _ (inverse xs) kn _ HRR.out hn (by omega) (Nat.le_trans HP.out (by decide))).mono ?_
          rintro e w9 ⟨a9, n9, c9, rfl, ho, hb⟩
          clear qA1 qA2 qA3 qA4 qA5 qZ1 qZ2 qZ3 qZ4 qZ5 qF1 qF2 qF3 qF4 qF5
          have hn9 : n9 ≤ 1048576 := by have h1 := ho.len; rw [rep_len, inverse_length, HL.out] at h1; have h2 := HP.out; omega
          have HZ9 := Lib.hid (HZ.out.below hb)
          have HB9 := Lib.hid (below_go HBW.out hb (by have := hsz; omega))
          have hsz9 : w1.heap.size + 1 ≤ w9.heap.size := Nat.le_trans hsz hb.size
          have HO9 := Lib.hid (ho.mono hsz)
          clear ho hb hsz
          obtain ⟨y1, y2, y3, y4, y5⟩ := HZ9.out
          go_wp2
          obtain ⟨_, e2, e3, _, _⟩ := HZ9.out.fill (.int .i64 s) (.slice a9 n9 c9)
          refine bodyPost_ret (v := .tuple #[.agg #[.int .i64 s, .slice a9 n9 c9], .int .i64 0]) (by simp [results, Try.results35, go_sem, e2, e3]) rfl ⟨a9, n9, c9, rfl, hn9, ?_, ?_⟩
          · exact ((HO9.out.setCell_below (by simp; omega) _).setCell_below (by simp; omega) _).mono (by omega)
          · exact (HB9.out.setCell (p := ⟨w.heap.size + 1, 0, none⟩) (by simp) _).setCell (p := ⟨w.heap.size + 1, 1, none⟩) (by simp) _
        · simp only [if_neg hprod, Prod.mk.injEq] at hM
          obtain ⟨rfl, rfl, rfl⟩ := hM
          have HP := Lib.hid hprod; clear hprod
          have p3 : 200 < (kn : Int) * (n : Int) := by rw [mul_cast]; have := HP.out; omega
          go_enter Try.func35, Try.ntmps35
          replace R := Lib.hid (R.out.alloc (.cells #[.int .i64 s, .slice a n cap] 27))
          have A := Lib.hid (At2.new w (.int .i64 s) (.slice a n cap) 27)
          have BB := Lib.hid (below1 w (.cells #[.int .i64 s, .slice a n cap] 27))
          replace R := Lib.hid (R.out.alloc (.cells #[.int .i64 0, .slice none 0 0] 27))
          replace A := Lib.hid (A.out.alloc (.cells #[.int .i64 0, .slice none 0 0] 27))
          have Z := Lib.hid (At2.place (w.alloc (.cells #[.int .i64 s, .slice a n cap] 27)) (.int .i64 0) (.slice none 0 0) 27 (w.heap.size + 1) (by simp))
          replace BB := Lib.hid (BB.out.alloc (by first | omega | (simp; done) | (simp; omega)) (.cells #[.int .i64 0, .slice none 0 0] 27))
          go_wp2_with fail
          refine (implIsBraid_any _ _ _ _ xs _ R.out hn).mono ?_
          rintro e w1 ⟨rfl, hb⟩
          replace R := Lib.hid (R.out.below hb)
          replace A := Lib.hid (A.out.below hb)
          replace Z := Lib.hid (Z.out.below hb)
          have z1 : w.heap.size + 2 ≤ w1.heap.size := by have := hb.size; simp at this; omega
          replace BB := Lib.hid (below_go BB.out hb (by first | omega | (simp; done) | (simp; omega)))
          clear hb
          obtain ⟨qA1, qA2, qA3, qA4, qA5⟩ := A.out
          obtain ⟨qZ1, qZ2, qZ3, qZ4, qZ5⟩ := Z.out
          have HZ0 := Z; have HB0 := BB
          replace R := Lib.hid (R.out.alloc (.cells #[.int .i64 s, .slice a n cap] 27))
          replace A := Lib.hid (A.out.alloc (.cells #[.int .i64 s, .slice a n cap] 27))
          replace Z := Lib.hid (Z.out.alloc (.cells #[.int .i64 s, .slice a n cap] 27))
          have F := Lib.hid (At2.new w1 (.int .i64 s) (.slice a n cap) 27)
          replace BB := Lib.hid (BB.out.alloc (by first | omega | (simp; done) | (simp; omega)) (.cells #[.int .i64 s, .slice a n cap] 27))
          go_wp2_with fail
          refine (changed_any 57 #[] (fun x => -x) _ _ _ _ _ _ _ R.out HSM.out hn enter_inverse (fun x W _ h1 h2 => (inverse_any x W h1 h2).mono fun _ _ ⟨he, hw⟩ => ⟨he, hw ▸ Below.refl _ _⟩)).mono ?_
          rintro e w2 ⟨a2, n2, c2, rfl, ho, hb⟩
          clear qA1 qA2 qA3 qA4 qA5 qZ1 qZ2 qZ3 qZ4 qZ5
          have O2 : Hid (OwnIn (w1.heap.size + 1) w2.heap.size w2 a2 n2 c2 (xs.map fun x => -x)) := Lib.hid (by simpa using ho.within); clear ho
          replace R := Lib.hid (R.out.below hb)
          replace A := Lib.hid (A.out.below hb)
          replace Z := Lib.hid (Z.out.below hb)
          replace F := Lib.hid (F.out.below hb)
          have z2 : w1.heap.size + 1 ≤ w2.heap.size := by have := hb.size; simp at this; omega
          replace BB := Lib.hid (below_go BB.out hb (by first | omega | (simp; done) | (simp; omega)))
          clear hb
          obtain ⟨qA1, qA2, qA3, qA4, qA5⟩ := A.out
          obtain ⟨qZ1, qZ2, qZ3, qZ4, qZ5⟩ := Z.out
          obtain ⟨qF1, qF2, qF3, qF4, qF5⟩ := F.out
          have hl2 : n2 ≤ 1048576 := by have := O2.out.len; have := R.out.len; simp at *; omega
          go_wp2_with fail
          refine (backwards_any _ _ _ _ _ _ O2.out.reads hl2).mono ?_
          rintro e w3 ⟨a3, n3, c3, rfl, ho, hb⟩
          clear qA1 qA2 qA3 qA4 qA5 qZ1 qZ2 qZ3 qZ4 qZ5 qF1 qF2 qF3 qF4 qF5
          have O3 : Hid (OwnIn w2.heap.size w3.heap.size w3 a3 n3 c3 (inverse xs)) := Lib.hid ho.within; clear ho
          have hl3 : n = n3 := by have h1 := O3.out.len; rw [inverse_length, HL.out] at h1; exact h1
          clear O2
          replace R := Lib.hid (R.out.below hb)
          replace A := Lib.hid (A.out.below hb)
          replace Z := Lib.hid (Z.out.below hb)
          replace F := Lib.hid (F.out.below hb)
          have z3 : w2.heap.size ≤ w3.heap.size := hb.size
          replace BB := Lib.hid (below_go BB.out hb (by omega))
          clear hb
          obtain ⟨qA1, qA2, qA3, qA4, qA5⟩ := A.out
          obtain ⟨qZ1, qZ2, qZ3, qZ4, qZ5⟩ := Z.out
          obtain ⟨qF1, qF2, qF3, qF4, qF5⟩ := F.out
          obtain rfl := hl3
          skip
          have HZ := Lib.hid ((Z.out.setCell (p := ⟨w1.heap.size, 0, none⟩) (by simp; omega) (.int .i64 s)).setCell (p := ⟨w1.heap.size, 1, none⟩) (by simp; omega) (.slice a3 n c3))
          have HBW := Lib.hid ((BB.out.setCell (p := ⟨w1.heap.size, 0, none⟩) (by simp; omega) (.int .i64 s)).setCell (p := ⟨w1.heap.size, 1, none⟩) (by simp; omega) (.slice a3 n c3))
          go_wp2
          obtain ⟨_, e2, e3, _, _⟩ := HZ.out.fill (.int .i64 0) (.slice none 0 0)
          refine bodyPost_ret (v := .tuple #[.agg #[.int .i64 0, .slice none 0 0], .int .i64 3]) (by simp [results, Try.results35, go_sem, e2, e3]) rfl ⟨none, 0, 0, rfl, Nat.zero_le _, Own.nil _ _, ?_⟩
          exact (HBW.out.setCell (p := ⟨w.heap.size + 1, 0, none⟩) (by simp) _).setCell (p := ⟨w.heap.size + 1, 1, none⟩) (by simp) _
      · obtain ⟨kn, hkn⟩ : ∃ kn : Nat, k = (kn : Int) := ⟨k.natAbs, by omega⟩
        have hab : k.natAbs = kn := by omega
        rw [hab, if_neg (show ¬ k < 0 by omega)] at hM
        subst hkn
        have hk100 : kn ≤ 100 := by omega
        clear hab kk1 hpos
        obtain ⟨p1, p2⟩ := mul_bounds kn n hk100 hn200
        by_cases hprod : kn * n ≤ 200
        · simp only [if_pos hprod, Prod.mk.injEq] at hM
          obtain ⟨rfl, rfl, rfl⟩ := hM
          have HP := Lib.hid hprod; clear hprod
          have p3 : (kn : Int) * (n : Int) ≤ 200 := by rw [mul_cast]; have := HP.out; omega
          go_enter Try.func35, Try.ntmps35
          replace R := Lib.hid (R.out.alloc (.cells #[.int .i64 s, .slice a n cap] 27))
          have A := Lib.hid (At2.new w (.int .i64 s) (.slice a n cap) 27)
          have BB := Lib.hid (below1 w (.cells #[.int .i64 s, .slice a n cap] 27))
          replace R := Lib.hid (R.out.alloc (.cells #[.int .i64 0, .slice none 0 0] 27))
          replace A := Lib.hid (A.out.alloc (.cells #[.int .i64 0, .slice none 0 0] 27))
          have Z := Lib.hid (At2.place (w.alloc (.cells #[.int .i64 s, .slice a n cap] 27)) (.int .i64 0) (.slice none 0 0) 27 (w.heap.size + 1) (by simp))
          replace BB := Lib.hid (BB.out.alloc (by first | omega | (simp; done) | (simp; omega)) (.cells #[.int .i64 0, .slice none 0 0] 27))
          go_wp2_with fail
          refine (implIsBraid_any _ _ _ _ xs _ R.out hn).mono ?_
          rintro e w1 ⟨rfl, hb⟩
          replace R := Lib.hid (R.out.below hb)
          replace A := Lib.hid (A.out.below hb)
          replace Z := Lib.hid (Z.out.below hb)
          have z1 : w.heap.size + 2 ≤ w1.heap.size := by have := hb.size; simp at this; omega
          replace BB := Lib.hid (below_go BB.out hb (by first | omega | (simp; done) | (simp; omega)))
          clear hb
          obtain ⟨qA1, qA2, qA3, qA4, qA5⟩ := A.out
          obtain ⟨qZ1, qZ2, qZ3, qZ4, qZ5⟩ := Z.out
          have HZ0 := Z; have HB0 := BB
          replace R := Lib.hid (R.out.alloc (.cells #[.int .i64 s, .slice a n cap] 27))
          replace A := Lib.hid (A.out.alloc (.cells #[.int .i64 s, .slice a n cap] 27))
          replace Z := Lib.hid (Z.out.alloc (.cells #[.int .i64 s, .slice a n cap] 27))
          have F := Lib.hid (At2.new w1 (.int .i64 s) (.slice a n cap) 27)
          replace BB := Lib.hid (BB.out.alloc (by first | omega | (simp; done) | (simp; omega)) (.cells #[.int .i64 s, .slice a n cap] 27))
          have HZ := Z; have HBW := BB; have HRR := R
          have hsz : w1.heap.size + 1 ≤ (w1.alloc (.cells #[.int .i64 s, .slice a n cap] 27)).heap.size := by simp
          go_wp2_with fail
          refine (repeated_any _ _ _ _ xs kn _ HRR.out hn (by omega) (Nat.le_trans HP.out (by decide))).mono ?_
          rintro e w9 ⟨a9, n9, c9, rfl, ho, hb⟩
          clear qA1 qA2 qA3 qA4 qA5 qZ1 qZ2 qZ3 qZ4 qZ5
          have hn9 : n9 ≤ 1048576 := by have h1 := ho.len; rw [rep_len, HL.out] at h1; have h2 := HP.out; omega
          have HZ9 := Lib.hid (HZ.out.below hb)
          have HB9 := Lib.hid (below_go HBW.out hb (by have := hsz; omega))
          have hsz9 : w1.heap.size + 1 ≤ w9.heap.size := Nat.le_trans hsz hb.size
          have HO9 := Lib.hid (ho.mono hsz)
          clear ho hb hsz
          obtain ⟨y1, y2, y3, y4, y5⟩ := HZ9.out
          go_wp2
          obtain ⟨_, e2, e3, _, _⟩ := HZ9.out.fill (.int .i64 s) (.slice a9 n9 c9)
          refine bodyPost_ret (v := .tuple #[.agg #[.int .i64 s, .slice a9 n9 c9], .int .i64 0]) (by simp [results, Try.results35, go_sem, e2, e3]) rfl ⟨a9, n9, c9, rfl, hn9, ?_, ?_⟩
          · exact ((HO9.out.setCell_below (by simp; omega) _).setCell_below (by simp; omega) _).mono (by omega)
          · exact (HB9.out.setCell (p := ⟨w.heap.size + 1, 0, none⟩) (by simp) _).setCell (p := ⟨w.heap.size + 1, 1, none⟩) (by simp) _
        · simp only [if_neg hprod, Prod.mk.injEq] at hM
          obtain ⟨rfl, rfl, rfl⟩ := hM
          have HP := Lib.hid hprod; clear hprod
          have p3 : 200 < (kn : Int) * (n : Int) := by rw [mul_cast]; have := HP.out; omega
          go_enter Try.func35, Try.ntmps35
          replace R := Lib.hid (R.out.alloc (.cells #[.int .i64 s, .slice a n cap] 27))
          have A := Lib.hid (At2.new w (.int .i64 s) (.slice a n cap) 27)
          have BB := Lib.hid (below1 w (.cells #[.int .i64 s, .slice a n cap] 27))
          replace R := Lib.hid (R.out.alloc (.cells #[.int .i64 0, .slice none 0 0] 27))
          replace A := Lib.hid (A.out.alloc (.cells #[.int .i64 0, .slice none 0 0] 27))
          have Z := Lib.hid (At2.place (w.alloc (.cells #[.int .i64 s, .slice a n cap] 27)) (.int .i64 0) (.slice none 0 0) 27 (w.heap.size + 1) (by simp))
          replace BB := Lib.hid (BB.out.alloc (by first | omega | (simp; done) | (simp; omega)) (.cells #[.int .i64 0, .slice none 0 0] 27))
          go_wp2_with fail
          refine (implIsBraid_any _ _ _ _ xs _ R.out hn).mono ?_
          rintro e w1 ⟨rfl, hb⟩
          replace R := Lib.hid (R.out.below hb)
          replace A := Lib.hid (A.out.below hb)
          replace Z := Lib.hid (Z.out.below hb)
          have z1 : w.heap.size + 2 ≤ w1.heap.size := by have := hb.size; simp at this; omega
          replace BB := Lib.hid (below_go BB.out hb (by first | omega | (simp; done) | (simp; omega)))
          clear hb
          obtain ⟨qA1, qA2, qA3, qA4, qA5⟩ := A.out
          obtain ⟨qZ1, qZ2, qZ3, qZ4, qZ5⟩ := Z.out
          have HZ0 := Z; have HB0 := BB
          replace R := Lib.hid (R.out.alloc (.cells #[.int .i64 s, .slice a n cap] 27))
          replace A := Lib.hid (A.out.alloc (.cells #[.int .i64 s, .slice a n cap] 27))
          replace Z := Lib.hid (Z.out.alloc (.cells #[.int .i64 s, .slice a n cap] 27))
          have F := Lib.hid (At2.new w1 (.int .i64 s) (.slice a n cap) 27)
          replace BB := Lib.hid (BB.out.alloc (by first | omega | (simp; done) | (simp; omega)) (.cells #[.int .i64 s, .slice a n cap] 27))
          go_wp2
          obtain ⟨_, e2, e3, _, _⟩ := (HZ0.out.fill (.int .i64 0) (.slice none 0 0)).alloc (.cells #[.int .i64 s, .slice a n cap] 27)
          refine bodyPost_ret (v := .tuple #[.agg #[.int .i64 0, .slice none 0 0], .int .i64 3]) (by simp [results, Try.results35, go_sem, e2, e3]) rfl ⟨none, 0, 0, rfl, Nat.zero_le _, Own.nil _ _, ?_⟩
          exact ((HB0.out.setCell (p := ⟨w.heap.size + 1, 0, none⟩) (by simp) _).setCell (p := ⟨w.heap.size + 1, 1, none⟩) (by simp) _).alloc (by simp; omega) _
    · simp only [mPower, if_pos hbr, if_neg hkk, Prod.mk.injEq] at hM
      obtain ⟨rfl, rfl, rfl⟩ := hM
      rcases Int.lt_or_le k (-100) with h1 | h1
      · skip
        clear hkk
        go_enter Try.func35, Try.ntmps35
        replace R := Lib.hid (R.out.alloc (.cells #[.int .i64 s, .slice a n cap] 27))
        have A := Lib.hid (At2.new w (.int .i64 s) (.slice a n cap) 27)
        have BB := Lib.hid (below1 w (.cells #[.int .i64 s, .slice a n cap] 27))
        replace R := Lib.hid (R.out.alloc (.cells #[.int .i64 0, .slice none 0 0] 27))
        replace A := Lib.hid (A.out.alloc (.cells #[.int .i64 0, .slice none 0 0] 27))
        have Z := Lib.hid (At2.place (w.alloc (.cells #[.int .i64 s, .slice a n cap] 27)) (.int .i64 0) (.slice none 0 0) 27 (w.heap.size + 1) (by simp))
        replace BB := Lib.hid (BB.out.alloc (by first | omega | (simp; done) | (simp; omega)) (.cells #[.int .i64 0, .slice none 0 0] 27))
        go_wp2_with fail
        refine (implIsBraid_any _ _ _ _ xs _ R.out hn).mono ?_
        rintro e w1 ⟨rfl, hb⟩
        replace R := Lib.hid (R.out.below hb)
        replace A := Lib.hid (A.out.below hb)
        replace Z := Lib.hid (Z.out.below hb)
        have z1 : w.heap.size + 2 ≤ w1.heap.size := by have := hb.size; simp at this; omega
        replace BB := Lib.hid (below_go BB.out hb (by first | omega | (simp; done) | (simp; omega)))
        clear hb
        obtain ⟨qA1, qA2, qA3, qA4, qA5⟩ := A.out
        obtain ⟨qZ1, qZ2, qZ3, qZ4, qZ5⟩ := Z.out
        go_wp2
        obtain ⟨_, e2, e3, _, _⟩ := Z.out.fill (.int .i64 0) (.slice none 0 0)
        refine bodyPost_ret (v := .tuple #[.agg #[.int .i64 0, .slice none 0 0], .int .i64 2]) (by simp [results, Try.results35, go_sem, e2, e3]) rfl ⟨none, 0, 0, rfl, Nat.zero_le _, Own.nil _ _, ?_⟩
        exact (BB.out.setCell (p := ⟨w.heap.size + 1, 0, none⟩) (by simp; try omega) _).setCell (p := ⟨w.heap.size + 1, 1, none⟩) (by simp; try omega) _
      · have h2 : 100 < k := by omega
        clear hkk
        go_enter Try.func35, Try.ntmps35
        replace R := Lib.hid (R.out.alloc (.cells #[.int .i64 s, .slice a n cap] 27))
        have A := Lib.hid (At2.new w (.int .i64 s) (.slice a n cap) 27)
        have BB := Lib.hid (below1 w (.cells #[.int .i64 s, .slice a n cap] 27))
        replace R := Lib.hid (R.out.alloc (.cells #[.int .i64 0, .slice none 0 0] 27))
        replace A := Lib.hid (A.out.alloc (.cells #[.int .i64 0, .slice none 0 0] 27))
        have Z := Lib.hid (At2.place (w.alloc (.cells #[.int .i64 s, .slice a n cap] 27)) (.int .i64 0) (.slice none 0 0) 27 (w.heap.size + 1) (by simp))
        replace BB := Lib.hid (BB.out.alloc (by first | omega | (simp; done) | (simp; omega)) (.cells #[.int .i64 0, .slice none 0 0] 27))
        go_wp2_with fail
        refine (implIsBraid_any _ _ _ _ xs _ R.out hn).mono ?_
        rintro e w1 ⟨rfl, hb⟩
        replace R := Lib.hid (R.out.below hb)
        replace A := Lib.hid (A.out.below hb)
        replace Z := Lib.hid (Z.out.below hb)
        have z1 : w.heap.size + 2 ≤ w1.heap.size := by have := hb.size; simp at this; omega
        replace BB := Lib.hid (below_go BB.out hb (by first | omega | (simp; done) | (simp; omega)))
        clear hb
        obtain ⟨qA1, qA2, qA3, qA4, qA5⟩ := A.out
        obtain ⟨qZ1, qZ2, qZ3, qZ4, qZ5⟩ := Z.out
        go_wp2
        obtain ⟨_, e2, e3, _, _⟩ := Z.out.fill (.int .i64 0) (.slice none 0 0)
        refine bodyPost_ret (v := .tuple #[.agg #[.int .i64 0, .slice none 0 0], .int .i64 2]) (by simp [results, Try.results35, go_sem, e2, e3]) rfl ⟨none, 0, 0, rfl, Nat.zero_le _, Own.nil _ _, ?_⟩
        exact (BB.out.setCell (p := ⟨w.heap.size + 1, 0, none⟩) (by simp; try omega) _).setCell (p := ⟨w.heap.size + 1, 1, none⟩) (by simp; try omega) _
  · have hb0 : isBraid s xs = false := by simpa using hbr
    simp only [mPower, if_neg hbr, Prod.mk.injEq] at hM
    obtain ⟨rfl, rfl, rfl⟩ := hM
    clear hbr
    go_enter Try.func35, Try.ntmps35
    replace R := Lib.hid (R.out.alloc (.cells #[.int .i64 s, .slice a n cap] 27))
    have A := Lib.hid (At2.new w (.int .i64 s) (.slice a n cap) 27)
    have BB := Lib.hid (below1 w (.cells #[.int .i64 s, .slice a n cap] 27))
    replace R := Lib.hid (R.out.alloc (.cells #[.int .i64 0, .slice none 0 0] 27))
    replace A := Lib.hid (A.out.alloc (.cells #[.int .i64 0, .slice none 0 0] 27))
    have Z := Lib.hid (At2.place (w.alloc (.cells #[.int .i64 s, .slice a n cap] 27)) (.int .i64 0) (.slice none 0 0) 27 (w.heap.size + 1) (by simp))
    replace BB := Lib.hid (BB.out.alloc (by first | omega | (simp; done) | (simp; omega)) (.cells #[.int .i64 0, .slice none 0 0] 27))
    go_wp2_with fail
    refine (implIsBraid_any _ _ _ _ xs _ R.out hn).mono ?_
    rintro e w1 ⟨rfl, hb⟩
    replace R := Lib.hid (R.out.below hb)
    replace A := Lib.hid (A.out.below hb)
    replace Z := Lib.hid (Z.out.below hb)
    have z1 : w.heap.size + 2 ≤ w1.heap.size := by have := hb.size; simp at this; omega
    replace BB := Lib.hid (below_go BB.out hb (by first | omega | (simp; done) | (simp; omega)))
    clear hb
    obtain ⟨qA1, qA2, qA3, qA4, qA5⟩ := A.out
    obtain ⟨qZ1, qZ2, qZ3, qZ4, qZ5⟩ := Z.out
    go_wp2
    obtain ⟨_, e2, e3, _, _⟩ := Z.out.fill (.int .i64 0) (.slice none 0 0)
    refine bodyPost_ret (v := .tuple #[.agg #[.int .i64 0, .slice none 0 0], .int .i64 1]) (by simp [results, Try.results35, go_sem, e2, e3]) rfl ⟨none, 0, 0, rfl, Nat.zero_le _, Own.nil _ _, ?_⟩
    exact (BB.out.setCell (p := ⟨w.heap.size + 1, 0, none⟩) (by simp; try omega) _).setCell (p := ⟨w.heap.size + 1, 1, none⟩) (by simp; try omega) _

end Go.Proofs.Ytmiihjhhbjpalaa