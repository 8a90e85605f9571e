/- The program: the length of a simple braid. -/
import Derived.Test.YtpkhddndapcpjaaSuQA
namespace Go.Proofs.Ytpkhddndapcpjaa
open Go.RowKit Go.ChangeShapes

set_option maxRecDepth 100000 in
set_option maxHeartbeats 1000000 in
theorem length_any (n : Nat) (h8 : n ≤ 8) (s : List Int) (ls : s.length = 8) (w : World) :
  Calls Try.prog 70 #[arr8 .u8 s, .int .i64 n] w fun e w' => e = .returned (.int .i64 (lenR s n)) ∧ Below w.heap.size w w' := by
 go_enter Try.func70, Try.ntmps70
 have RA := Lib.hid (Row8.place w .u8 s 53 w.heap.size rfl ls)
 have BB := Lib.hid (below1 w (.cells #[.int .u8 (at8 s 0), .int .u8 (at8 s 1), .int .u8 (at8 s 2), .int .u8 (at8 s 3), .int .u8 (at8 s 4), .int .u8 (at8 s 5), .int .u8 (at8 s 6), .int .u8 (at8 s 7)] 53))
 have hsl := slice_simple w.heap.size n h8
 go_wp2
 clear hsl
 go_loopw [5, 11] (fun c i wr => ∃ k : Nat, k ≤ n ∧ i = .int .i64 k ∧ c = .int .i64 (lenR s k) ∧ Row8 wr w.heap.size .u8 s ∧ Below w.heap.size w wr) (fun _ i _ => n - (intOf i).toNat)
 case atStart => exact ⟨0, Nat.zero_le _, rfl, rfl, RA.out, BB.out⟩
 case round =>
  obtain ⟨k, hk, rfl, rfl, hRA, hBB⟩ := hrel
  clear RA BB
  have RA := Lib.hid hRA
  have BB := Lib.hid hBB
  clear hRA hBB
  have lb := lenR_bd s k (by omega)
  by_cases hlt : k < n
  ·go_wp2
   go_loopw [5, 15] (fun c i wr => ∃ m : Nat, m ≤ k ∧ i = .int .i64 m ∧ c = .int .i64 (lenR s k + colL s k m) ∧ Row8 wr w.heap.size .u8 s ∧ Below w.heap.size w wr) (fun _ i _ => k - (intOf i).toNat)
   case atStart => exact ⟨0, by omega, rfl, by simp [colL, sumN], RA.out, BB.out⟩
   case round =>
    obtain ⟨m, hm2, rfl, rfl, hRA, hBB⟩ := hrel
    clear RA BB
    have RA := Lib.hid hRA
    have BB := Lib.hid hBB
    clear hRA hBB
    have rb := colL_bd s k m
    by_cases hlt2 : m < k
    ·have HST := Lib.hid (colL_step s k m)
     have c1 := RA.out.cell k (by omega)
     have c2 := RA.out.cell m (by omega)
     have z1 := RA.out.lt
     obtain ⟨c, hc⟩ : ∃ c, c = lenR s k + colL s k m := ⟨_, rfl⟩
     have cb : 0 ≤ c ∧ c ≤ 1000 := by omega
     rw [← hc]
     have HC := Lib.hid hc
     clear hc lb rb
     by_cases hd : at8 s k < at8 s m
     ·go_wp2
      go_quiet (fail)
      go_wp2
      go_roundw
      case rel =>
       have hb := below_draws wr.heap.size wr nq
       exact ⟨m + 1, by omega, by go_num, by rw [HST.out, dsc, if_pos hd, HC.out]; congr 1; omega, RA.out.below hb, below_go BB.out hb BB.out.size⟩
      case measure => simp [intOf]; omega
     ·go_wp2
      go_quiet (fail)
      go_wp2
      go_roundw
      case rel =>
       have hb := below_draws wr.heap.size wr nq
       exact ⟨m + 1, by omega, by go_num, by rw [HST.out, dsc, if_neg (by omega), HC.out]; congr 1; omega, RA.out.below hb, below_go BB.out hb BB.out.size⟩
      case measure => simp [intOf]; omega
    ·have hmn : m = k := by omega
     subst hmn
     have HST := Lib.hid (lenR_step s m)
     obtain ⟨c, hc⟩ : ∃ c, c = lenR s m + colL s m m := ⟨_, rfl⟩
     rw [← hc]
     have HC := Lib.hid hc
     clear hc lb rb
     go_wp2
     go_roundw
     case rel =>
      exact ⟨m + 1, by omega, by go_num, by rw [HST.out, HC.out], RA.out, BB.out⟩
     case measure => simp [intOf]; omega
  ·have hkn : k = n := by omega
   subst hkn
   go_wp2
   go_ret
   exact ⟨rfl, BB.out⟩

end Go.Proofs.Ytpkhddndapcpjaa

