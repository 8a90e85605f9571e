/- The model: is a row a simple braid? -/
import Derived.Test.YtpkhddndapcpjaaSmQA
import Derived.BigQuiet
import Derived.IntWalk
namespace Go.Proofs.Ytpkhddndapcpjaa
open Go.RowKit Go.ChangeShapes

/-- Eight bools in a block. -/
structure Bool8 (w : World) (g : Nat) (f : Nat → Bool) : Prop where
 lt : g < w.heap.size
 cell : ∀ j, j < 8 → w.cell? ⟨g, j, none⟩ = some (.bool (f j))
 free : ∀ j, j < 8 → w.frozen? ⟨g, j, none⟩ = false

theorem Bool8.place (w : World) (t : TypeId) (g : Nat) (hg : w.heap.size = g) : Bool8 (w.alloc (.cells #[.bool false, .bool false, .bool false, .bool false, .bool false, .bool false, .bool false, .bool false] t)) g (fun _ => false) := by
 subst hg
 refine ⟨by simp, fun j hj => ?_, fun j hj => ?_⟩
 ·have : j = 0 ∨ j = 1 ∨ j = 2 ∨ j = 3 ∨ j = 4 ∨ j = 5 ∨ j = 6 ∨ j = 7 := by omega
  rcases this with rfl | rfl | rfl | rfl | rfl | rfl | rfl | rfl <;> simp
 ·simp

theorem Bool8.store {w : World} {g : Nat} {f : Nat → Bool} (h : Bool8 w g f) (i : Nat) (hi : i < 8) (x : Bool) : Bool8 (w.setCell ⟨g, i, none⟩ (.bool x)) g (fun j => if i = j then x else f j) := by
 refine ⟨by simpa [World.setCell] using h.lt, fun j hj => ?_, fun j hj => by simpa using h.free j hj⟩
 by_cases e : i = j
 ·subst e
  rw [if_pos rfl]
  exact World.cell?_setCell_same _ _ _ (h.cell i hi)
 ·rw [if_neg e]
  refine (World.cell?_setCell_other _ _ _ _ ?_).trans (h.cell j hj)
  simp

theorem Bool8.congr {w : World} {g : Nat} {f f' : Nat → Bool} (h : Bool8 w g f) (e : ∀ j, j < 8 → f j = f' j) : Bool8 w g f' := ⟨h.lt, fun j hj => by rw [← e j hj]; exact h.cell j hj, h.free⟩

/-- v stands at one of the first k places. -/
def metB (s : List Int) (k : Nat) (v : Nat) : Bool := (List.range k).any fun x => decide (at8 s x = v)

theorem metB_iff (s : List Int) (k v : Nat) : metB s k v = true ↔ ∃ x, x < k ∧ at8 s x = v := by simp [metB]

theorem metB_step (s : List Int) (k v : Nat) (u : Nat) (hu : at8 s k = u) : metB s (k + 1) v = if u = v then true else metB s k v := by
 rw [Bool.eq_iff_iff, metB_iff]
 by_cases e : u = v
 ·subst e
  simp only [if_true, iff_true]
  exact ⟨k, by omega, hu⟩
 ·rw [if_neg e, metB_iff]
  constructor
  ·rintro ⟨x, hx, h⟩
   by_cases e2 : x = k
   ·subst e2; omega
   ·exact ⟨x, by omega, h⟩
  ·rintro ⟨x, hx, h⟩
   exact ⟨x, by omega, h⟩

theorem simB_out (n : Int) (s : List Int) (h : inB n 1 8 = false) : simB n s = false := by
 unfold simB
 unfold inB at h
 rw [h, Bool.false_and]

set_option maxRecDepth 100000 in
set_option maxHeartbeats 1000000 in
theorem l02Is_no (n : Int) (s : List Int) (hin : inB n 1 8 = false) (w : World) :
  Calls Try.prog 35 #[arr8 .u8 s, .int .i64 n] w fun e w' => e = .returned (.bool (simB n s)) ∧ Below w.heap.size w w' := by
 rw [simB_out n s hin]
 have HIN := Lib.hid hin
 clear hin
 go_enter Try.func35, Try.ntmps35
 go_wp2_with (go_at_call 34; refine (l01In_any _ _ _ _).mono ?_; rw [HIN.out]; rintro e w' ⟨rfl, rfl⟩)
 go_ret
 exact ⟨rfl, below1 w _⟩

set_option maxRecDepth 100000 in
set_option maxHeartbeats 1000000 in
theorem l02Is_yes (n : Nat) (h1 : 1 ≤ n) (h8 : n ≤ 8) (s : List Int) (ls : s.length = 8) (hb : Bytes8 s) (w : World) :
  Calls Try.prog 35 #[arr8 .u8 s, .int .i64 n] w fun e w' => e = .returned (.bool (simB n s)) ∧ Below w.heap.size w w' := by
 have HB := Lib.hid hb
 clear hb
 have HIN := Lib.hid ((inB_iff (n : Int) 1 8).2 ⟨by omega, by omega⟩)
 go_enter Try.func35, Try.ntmps35
 have RA := Lib.hid (Row8.place w .u8 s 53 w.heap.size rfl ls)
 have BB := Lib.hid (below1 w (.cells #[.int .u8 (at8 s 0), .int .u8 (at8 s 1), .int .u8 (at8 s 2), .int .u8 (at8 s 3), .int .u8 (at8 s 4), .int .u8 (at8 s 5), .int .u8 (at8 s 6), .int .u8 (at8 s 7)] 53))
 have LS := Lib.hid ls
 clear ls
 go_wp2_with (go_at_call 34; refine (l01In_any _ _ _ _).mono ?_; rw [HIN.out]; rintro e w' ⟨rfl, rfl⟩)
 have RM := Lib.hid (Bool8.place (w.alloc (.cells #[.int .u8 (at8 s 0), .int .u8 (at8 s 1), .int .u8 (at8 s 2), .int .u8 (at8 s 3), .int .u8 (at8 s 4), .int .u8 (at8 s 5), .int .u8 (at8 s 6), .int .u8 (at8 s 7)] 53)) 68 (w.heap.size + 1) (by simp))
 replace RA := Lib.hid (RA.out.alloc (.cells #[.bool false, .bool false, .bool false, .bool false, .bool false, .bool false, .bool false, .bool false] 68))
 replace BB := Lib.hid (BB.out.alloc (by simp) (.cells #[.bool false, .bool false, .bool false, .bool false, .bool false, .bool false, .bool false, .bool false] 68))
 go_loopw [6] (fun i wr => ∃ k : Nat, k ≤ 8 ∧ i = .int .i64 k ∧ (∀ j, j < k → (j < n → at8 s j < n ∧ ∀ i, i < j → at8 s i ≠ at8 s j) ∧ (n ≤ j → at8 s j = 0)) ∧ Row8 wr w.heap.size .u8 s ∧ Bool8 wr (w.heap.size + 1) (metB s (min k n)) ∧ Below w.heap.size w wr) (fun i _ => 8 - (intOf i).toNat)
 case atStart => exact ⟨0, Nat.zero_le _, rfl, fun j hj => absurd hj (Nat.not_lt_zero _), RA.out, RM.out.congr fun j _ => by simp [metB], BB.out⟩
 case round =>
  obtain ⟨k, hk, rfl, hok, hRA, hRM, hBB⟩ := hrel
  have HOK := Lib.hid hok; clear hok
  clear RA RM BB
  have RA := Lib.hid hRA
  have RM := Lib.hid hRM
  have BB := Lib.hid hBB
  clear hRA hRM hBB
  by_cases hlt : k < 8
  ·have c1 := RA.out.cell k (by omega)
   obtain ⟨y1, y2⟩ := HB.out k
   obtain ⟨v, hv⟩ : ∃ v : Nat, at8 s k = (v : Int) := ⟨(at8 s k).toNat, by omega⟩
   rw [hv] at c1 y1 y2
   have HV := Lib.hid hv
   clear hv
   have z1 := RM.out.lt
   by_cases hkn : n ≤ k
   ·by_cases hz : v = 0
    ·have t1 : ((v : Int) != 0) = false := by simp [hz]
     have HZ := Lib.hid hz
     clear hz
     go_wp2
     go_roundw
     case rel =>
      refine ⟨k + 1, by omega, by go_num, fun j hj => ?_, RA.out, RM.out.congr fun j _ => by rw [show min (k + 1) n = min k n by omega], BB.out⟩
      by_cases e : j = k
      ·subst e
       exact ⟨fun h => by omega, fun _ => by rw [HV.out, HZ.out]; rfl⟩
      ·exact HOK.out j (by omega)
     case measure => simp [intOf]; omega
    ·have t1 : ((v : Int) != 0) = true := by rw [bne_iff_ne]; omega
     have HNO : Hid (simB n s = false) := Lib.hid (by
      rw [← Bool.not_eq_true, simB_iff _ _ LS.out]
      rintro ⟨m, hm, h⟩
      have : m = n := by omega
      subst this
      have := h.tail k hkn
      rw [HV.out] at this
      omega)
     go_wp2
     go_ret
     exact ⟨ret_bool HNO.out.symm, BB.out⟩
   ·by_cases hbig : n ≤ v
    ·have HNO : Hid (simB n s = false) := Lib.hid (by
      rw [← Bool.not_eq_true, simB_iff _ _ LS.out]
      rintro ⟨m, hm, h⟩
      have : m = n := by omega
      subst this
      have := h.bd k (by omega)
      rw [HV.out] at this
      omega)
     go_wp2
     go_ret
     exact ⟨ret_bool HNO.out.symm, BB.out⟩
    ·have c2 := RM.out.cell v (by omega)
     have f2 := RM.out.free v (by omega)
     by_cases hm : metB s (min k n) v = true
     ·have HNO : Hid (simB n s = false) := Lib.hid (by
       obtain ⟨x, hx, ex⟩ := (metB_iff _ _ _).1 hm
       rw [← Bool.not_eq_true, simB_iff _ _ LS.out]
       rintro ⟨m, hm, h⟩
       have : m = n := by omega
       subst this
       have := h.inj x k (by omega) (by omega) (by rw [ex, HV.out])
       omega)
      rw [hm] at c2
      clear hm
      go_wp2
      go_ret
      exact ⟨ret_bool HNO.out.symm, BB.out⟩
     ·have hm0 : metB s (min k n) v = false := by simpa using hm
      clear hm
      rw [hm0] at c2
      have HM := Lib.hid hm0
      clear hm0
      go_wp2
      go_roundw
      case rel =>
       refine ⟨k + 1, by omega, by go_num, fun j hj => ?_, RA.out.setCell (by simp) _, ?_, BB.out.setCell (by simp) _⟩
       ·by_cases e : j = k
        ·subst e
         refine ⟨fun _ => ⟨by rw [HV.out]; omega, fun i hi e => ?_⟩, fun h => by omega⟩
         have := HM.out
         rw [← Bool.not_eq_true, metB_iff] at this
         exact this ⟨i, by omega, by rw [e, HV.out]⟩
        ·exact HOK.out j (by omega)
       ·refine (RM.out.store v (by omega) true).congr fun j _ => ?_
        rw [show min (k + 1) n = k + 1 by omega, show min k n = k by omega, metB_step s k j v HV.out]
      case measure => simp [intOf]; omega
  ·have hk8 : k = 8 := by omega
   subst hk8
   have HYES : Hid (simB n s = true) := Lib.hid ((simB_iff _ _ LS.out).2 ⟨n, rfl, h1, h8, LS.out, fun j hj => ⟨(HB.out j).1, ((HOK.out j (by omega)).1 hj).1⟩, fun i j hi hj e => by
    rcases Nat.lt_trichotomy i j with h3 | h3 | h3
    ·exact absurd e (((HOK.out j (by omega)).1 hj).2 i h3)
    ·exact h3
    ·exact absurd e.symm (((HOK.out i (by omega)).1 hi).2 j h3), fun j hj => by
    by_cases e : j < 8
    ·exact (HOK.out j e).2 hj
    ·exact at8_over LS.out j (by omega)⟩)
   go_wp2
   go_ret
   exact ⟨ret_bool HYES.out.symm, BB.out⟩

theorem l02Is_any (n : Int) (s : List Int) (ls : s.length = 8) (hb : Bytes8 s) (w : World) :
  Calls Try.prog 35 #[arr8 .u8 s, .int .i64 n] w fun e w' => e = .returned (.bool (simB n s)) ∧ Below w.heap.size w w' := by
 by_cases h : 1 ≤ n ∧ n ≤ 8
 ·obtain ⟨k, rfl⟩ : ∃ k : Nat, n = k := ⟨n.toNat, by omega⟩
  exact l02Is_yes k (by omega) (by omega) s ls hb w
 ·exact l02Is_no n s ((inB_not n 1 8).2 (by omega)) w

end Go.Proofs.Ytpkhddndapcpjaa

