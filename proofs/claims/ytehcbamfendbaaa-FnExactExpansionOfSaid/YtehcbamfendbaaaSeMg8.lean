/- Merged texts. -/
import Derived.Test.YtehcbamfendbaaaSeIs2
import Derived.Test.YtehcbamfendbaaaSeQA
import Derived.Deep.RegionHeld3
import Derived.Test.YtehcbamfendbaaaSeLetters
import Derived.Test.YtehcbamfendbaaaSeFreP

/- The inverse of a word: the model's answer. -/
namespace Go.Proofs.Ytehcbamfendbaaa
open Go.RowKit Go.ChangeShapes

set_option maxRecDepth 100000 in
set_option maxHeartbeats 1000000 in
theorem l01Inverse_any (a : Option Addr) (n cap : Nat) (xs : List Int) (w : World) (hr : Reads w a n xs) (hsm : Small xs) (hn : n ≤ 1048576) :
  Calls Try.prog 70 #[.slice a n cap] w (MadeInts w n (inverse xs)) := by
 obtain ⟨i0, hi, hz0, hz1, hz2⟩ := info_parts infoInt
 have HL := Lib.hid hr.len
 have HSM := Lib.hid hsm; clear hsm
 rcases Nat.eq_zero_or_pos n with h0 | h0
 ·subst h0
  have HR := Lib.hid hr; clear hr
  go_enter Try.func70, Try.ntmps70
  go_wp2
  refine wp_loop_rounds 1 ?_; rw [rounds_succ]
  go_wp2
  go_ret
  have hx : xs = [] := List.eq_nil_of_length_eq_zero HL.out
  rw [hx]
  exact ⟨_, _, rfl, OwnV.empty w, below1 w _⟩
 ·obtain ⟨b, off, rfl, hb, hc⟩ := hr.cells h0
  have HC := Lib.hid hc; clear hc hr
  go_enter Try.func70, Try.ntmps70
  go_wp2
  go_loopw [3, 4] (fun v i wr => ∃ k : Nat, k ≤ n ∧ i = .int .i64 ((n : Int) - 1 - k) ∧ OwnV w.heap.size wr v k ((inverse xs).take k) ∧ Below w.heap.size w wr) (fun _ i _ => (intOf i + 1).toNat)
  case atStart => exact ⟨0, Nat.zero_le _, by simp, OwnV.empty w, below1 w _⟩
  case round =>
   obtain ⟨k, hk, rfl, ho, hbl⟩ := hrel
   by_cases hlt : k < n
   ·have hm := HSM.out _ (getD_mem xs (n - 1 - k) (by rw [HL.out]; omega))
    obtain ⟨x, hx⟩ : ∃ x, x = xs.getD (n - 1 - k) 0 := ⟨_, rfl⟩
    have h1 : wr.cell? ⟨b, off + (n - 1 - k), none⟩ = some (.int .i64 x) := by rw [hx]; exact (hbl.cell (by exact hb)).trans (HC.out _ (by omega))
    rw [← hx] at hm
    have HX := Lib.hid hx; clear hx
    obtain ⟨hm1, hm2⟩ := hm
    have hz : w.heap.size ≤ wr.heap.size := hbl.size
    have HO := Lib.hid ho; clear ho
    have HB := Lib.hid hbl; clear hbl
    go_wp2_with (at_builtin; refine wpList_append_own _ rfl _ _ 22 rfl w.heap.size 2 i0 (.int .i64 0) 1 8 Try.underlying22 hi hz0 hz1 hz2 rfl (by decide) _ _ _ rfl (World.ownsRow.alloc HO.out _) ⟨wr.heap.size, 0, none⟩ 1 1 [.int .i64 (-x)] rfl rfl (one_new wr (-x) _) (one_cell _) (by unfold maxLen; omega) (by omega) (by simp; omega) ?_)
    intro v' w1 hown' hgrow _
    have HO' := Lib.hid (OwnV.appended hown')
    have HB' := Lib.hid (below_appended HB.out hz HO.out hgrow)
    clear hown' hgrow
    go_wp2
    go_roundw
    case rel =>
     refine ⟨k + 1, by omega, by go_num, ?_, HB'.out⟩
     rw [inverse_step xs k (by rw [HL.out]; exact hlt), HL.out, ← HX.out]
     exact HO'.out
    case measure => simp [intOf]; omega
   ·have hkn : k = n := by omega
    have HK := Lib.hid hkn; clear hkn
    go_wp2
    go_ret
    have hh := HL.out
    rw [HK.out, List.take_of_length_le (by rw [inverse_length]; omega)] at ho
    obtain ⟨a', c', rfl, ho'⟩ := ho.form
    exact ⟨a', c', rfl, ho', hbl⟩

end Go.Proofs.Ytehcbamfendbaaa

/- Free forms: the model's answer. -/
namespace Go.Proofs.Ytehcbamfendbaaa
open Go.RowKit Go.ChangeShapes

set_option maxHeartbeats 1000000 in
theorem l01Free_any (a : Option Addr) (n cap : Nat) (xs : List Int) (w : World) (hr : Reads w a n xs) (hsm : Small xs) (hn : n ≤ 1048576) :
  Calls Try.prog 135 #[.slice a n cap] w (MadeInts w (free xs).length (free xs)) := by
 obtain ⟨i0, hi, hz0, hz1, hz2⟩ := info_parts infoInt
 have HL := Lib.hid hr.len
 have HSM := Lib.hid hsm; clear hsm
 rcases Nat.eq_zero_or_pos n with h0 | h0
 ·subst h0
  have HR := Lib.hid hr; clear hr
  go_enter Try.func135, Try.ntmps135
  go_wp2
  refine wp_loop_rounds 1 ?_; rw [rounds_succ]
  go_wp2
  go_ret
  have hx : xs = [] := List.eq_nil_of_length_eq_zero HL.out
  rw [hx]
  exact ⟨_, _, rfl, OwnV.empty w, below1 w _⟩
 ·obtain ⟨b, off, rfl, hb, hc⟩ := hr.cells h0
  have HC := Lib.hid hc; clear hc hr
  go_enter Try.func135, Try.ntmps135
  go_wp2
  go_loopw [3, 4] (fun v i wr => ∃ k : Nat, k ≤ n ∧ i = .int .i64 k ∧ (∃ a m c, v = .slice a m c ∧ Own w.heap.size wr a m c (free (xs.take k))) ∧ Below w.heap.size w wr) (fun _ i _ => n - (intOf i).toNat)
  case atStart => exact ⟨0, Nat.zero_le _, rfl, ⟨_, _, _, rfl, OwnV.empty w⟩, below1 w _⟩
  case round =>
   obtain ⟨k, hk, rfl, ⟨av, m, cv, rfl, ho⟩, hbl⟩ := hrel
   by_cases hlt : k < n
   ·have hm := HSM.out _ (getD_mem xs k (by rw [HL.out]; omega))
    have st := free_step xs k (by rw [HL.out]; omega)
    have fl := free_len (xs.take k)
    rw [List.length_take] at fl
    have mlen := ho.len
    have mcap := ho.cap_ge
    obtain ⟨x, hx⟩ : ∃ x, x = xs.getD k 0 := ⟨_, rfl⟩
    have h1 : wr.cell? ⟨b, off + k, none⟩ = some (.int .i64 x) := by rw [hx]; exact (hbl.cell (by exact hb)).trans (HC.out _ (by omega))
    rw [← hx] at hm st
    obtain ⟨l, hl⟩ : ∃ l, l = free (xs.take k) := ⟨_, rfl⟩
    rw [← hl] at st fl mlen ho
    have hmk : m ≤ 1048576 := by omega
    have HLn := Lib.hid mlen
    have HST := Lib.hid st; clear st fl mlen hx hl
    obtain ⟨hm1, hm2⟩ := hm
    have hz : w.heap.size ≤ wr.heap.size := hbl.size
    have hzd : w.heap.size ≤ wr.drew.heap.size := hz
    have HO := Lib.hid ho
    have HOd : Hid (Own w.heap.size wr.drew av m cv l) := Lib.hid ho
    have HB := Lib.hid hbl
    have HBd : Hid (Below w.heap.size w wr.drew) := Lib.hid hbl.drew
    clear hbl
    have e0 : IntKind.i64.wrap (-x) = -x := IntWalk.i64_in _ (by omega)
    have g0 : 0 ≤ (k : Int) := by omega
    have g1 : (k : Int) < (n : Int) := by omega
    rcases Nat.eq_zero_or_pos m with hm0 | hm0
    ·subst hm0
     clear ho
     have hnl : l = [] := List.eq_nil_of_length_eq_zero HLn.out
     have HNL := Lib.hid hnl; clear hnl
     go_wp2
     go_quiet (fail)
     have HOn : Hid (OwnV w.heap.size (wr.drewN nq) (.slice av 0 cv) 0 l) := Lib.hid (HO.out.heap (fun _ _ => rfl))
     have HBn : Hid (Below w.heap.size w (wr.drewN nq)) := Lib.hid (HB.out.trans (below_draws _ _ _))
     have h1n : (wr.drewN nq).cell? ⟨b, off + k, none⟩ = some (.int .i64 x) := h1
     have hzn : w.heap.size ≤ (wr.drewN nq).heap.size := hz
     clear h1 HO HOd HB HBd hz hzd
     generalize wr.drewN nq = wd at *
     go_wp2_with (at_builtin; refine wpList_append_own _ rfl _ _ 22 rfl w.heap.size 2 i0 (.int .i64 0) 1 8 Try.underlying22 hi hz0 hz1 hz2 rfl (by decide) _ _ _ rfl (World.ownsRow.alloc HOn.out _) ⟨wd.heap.size, 0, none⟩ 1 1 [.int .i64 x] rfl rfl (one_new wd x _) (one_cell _) (by unfold maxLen; omega) (by omega) (by simp; omega) ?_)
     intro v' w1 hown' hgrow _
     have ho' := OwnV.appended hown'
     have HB' := Lib.hid (below_appended HBn.out hzn HOn.out hgrow)
     clear hown' hgrow
     obtain ⟨av', cv', rfl, ho2⟩ := ho'.form
     have HO' := Lib.hid ho2; clear ho' ho2
     go_wp2
     go_roundw
     case rel =>
      refine ⟨k + 1, by omega, by go_num, ⟨_, _, _, rfl, ?_⟩, HB'.out⟩
      rw [HST.out, show freeStep l x = l ++ [x] from by rw [HNL.out]; rfl]
      exact HO'.out
     case measure => simp [intOf]; omega
    ·obtain ⟨g, rfl, hg1, hg2⟩ := ho.block hm0
     have c1 := ho.cellAt (m - 1) (by omega)
     have hlast := last_eq l m HLn.out hm0
     obtain ⟨y, hy⟩ : ∃ y, y = l.getD (m - 1) 0 := ⟨_, rfl⟩
     rw [← hy] at c1 hlast
     have HLA := Lib.hid hlast; clear hlast hy ho
     have j0 : 0 ≤ (m : Int) - 1 := by omega
     have j1 : (m : Int) - 1 < (m : Int) := by omega
     have j2 : ((m : Int) - 1).toNat = m - 1 := by omega
     have j3 : IntKind.i64.wrap ((m : Int) - 1) = (m : Int) - 1 := IntWalk.i64_in _ (by omega)
     have g2 : decide (0 < (m : Int)) = true := by simp; omega
     by_cases hxy : y = -x
     ·have t1 : (y == -x) = true := by simp [hxy]
      have HXY := Lib.hid hxy; clear hxy
      go_wp2
      go_quiet (fail)
      have HOn : Hid (Own w.heap.size (wr.drewN nq) (some ⟨g, 0, none⟩) (m - 1) cv l.dropLast) := Lib.hid (Own.pop (HO.out.heap (fun _ _ => rfl)))
      have HBn : Hid (Below w.heap.size w (wr.drewN nq)) := Lib.hid (HB.out.trans (below_draws _ _ _))
      go_wp2
      go_roundw
      case rel =>
       refine ⟨k + 1, by omega, by go_num, ⟨_, _, _, rfl, ?_⟩, HBn.out⟩
       rw [HST.out, show freeStep l x = l.dropLast from by unfold freeStep; rw [HLA.out, HXY.out, if_pos rfl]]
       exact HOn.out
      case measure => simp [intOf]; omega
     ·have t1 : (y == -x) = false := by simp [hxy]
      have HXY := Lib.hid hxy; clear hxy
      go_wp2
      go_quiet (fail)
      have HOn : Hid (OwnV w.heap.size (wr.drewN nq) (.slice (some ⟨g, 0, none⟩) m cv) m l) := Lib.hid (HO.out.heap (fun _ _ => rfl))
      have HBn : Hid (Below w.heap.size w (wr.drewN nq)) := Lib.hid (HB.out.trans (below_draws _ _ _))
      have h1n : (wr.drewN nq).cell? ⟨b, off + k, none⟩ = some (.int .i64 x) := h1
      have hzn : w.heap.size ≤ (wr.drewN nq).heap.size := hz
      clear h1 c1 HO HOd HB HBd hz hzd
      generalize wr.drewN nq = wd at *
      go_wp2_with (at_builtin; refine wpList_append_own _ rfl _ _ 22 rfl w.heap.size 2 i0 (.int .i64 0) 1 8 Try.underlying22 hi hz0 hz1 hz2 rfl (by decide) _ _ _ rfl (World.ownsRow.alloc HOn.out _) ⟨wd.heap.size, 0, none⟩ 1 1 [.int .i64 x] rfl rfl (one_new wd x _) (one_cell _) (by unfold maxLen; omega) (by omega) (by simp; omega) ?_)
      intro v' w1 hown' hgrow _
      have ho' := OwnV.appended hown'
      have HB' := Lib.hid (below_appended HBn.out hzn HOn.out hgrow)
      clear hown' hgrow
      obtain ⟨av', cv', rfl, ho2⟩ := ho'.form
      have HO' := Lib.hid ho2; clear ho' ho2
      go_wp2
      go_roundw
      case rel =>
       refine ⟨k + 1, by omega, by go_num, ⟨_, _, _, rfl, ?_⟩, HB'.out⟩
       rw [HST.out, show freeStep l x = l ++ [x] from by unfold freeStep; rw [HLA.out, if_neg (fun e => HXY.out (Option.some.inj e))]]
       exact HO'.out
      case measure => simp [intOf]; omega
   ·have hkn : k = n := by omega
    have HK := Lib.hid hkn; clear hkn
    go_wp2
    go_ret
    have hh := HL.out
    rw [HK.out, List.take_of_length_le (by omega)] at ho
    obtain rfl := ho.len
    exact ⟨av, cv, rfl, ho, hbl⟩

end Go.Proofs.Ytehcbamfendbaaa
