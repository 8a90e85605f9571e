/- A letter leads a free word: the model. -/
import Derived.Test.YtehcbamfendbaaaSeMg8
import Derived.Test.YtehcbamfendbaaaSeSFor
import Derived.Test.YtehcbamfendbaaaSeSIm
import Derived.Test.YtehcbamfendbaaaSeActP
namespace Go.Proofs.Ytehcbamfendbaaa
open Go.RowKit Go.ChangeShapes

theorem actL_snoc (l : Int) (xs : List Int) (x : Int) : actL l (xs ++ [x]) = actL l xs ++ putsL l x := by simp [actL]

theorem actL_step (l : Int) (xs : List Int) (k : Nat) (h : k < xs.length) : actL l (xs.take (k + 1)) = actL l (xs.take k) ++ putsL l (xs.getD k 0) := by
 rw [take_snoc xs k h, actL_snoc]

/-- What the index of a number is led to. -/
theorem puts_idx (L x : Int) (hL : L ≠ 0) : putsL (-L) x = if x < 0 then inverse (imgS (-L) (idx x)) else imgS (-L) (idx x) := by
 rw [putsL_eq (-L) x (by omega)]
 by_cases h : x < 0
 ·rw [if_pos h, if_pos h, idx_neg h]
 ·rw [if_neg h, if_neg h, idx_pos h]

theorem actL_small2 (l : Int) (h1 : -100 < l) (h2 : l < 100) (xs : List Int) (h : Small xs) : Small (actL l xs) := by
 intro z hz
 obtain ⟨x, hx, hzx⟩ := List.mem_flatMap.1 hz
 exact putsL_small l x h1 h2 (h x hx).1 (h x hx).2 z hzx

theorem idx_max2 (x : Int) (h1 : -1000 < x) (h2 : x < 1000) : IntKind.i64.wrap (-x) = -x ∧ (if x < -x then -x else x) = idx x ∧ max x (-x) = idx x ∧ 0 ≤ idx x ∧ idx x < 1000 := by
 refine ⟨IntWalk.i64_in _ (by omega), ?_, ?_, ?_⟩
 ·rcases idx_cases x with ⟨g, e, -⟩ | ⟨g, e, -⟩ <;> rw [e] <;> split <;> omega
 ·rcases idx_cases x with ⟨g, e, -⟩ | ⟨g, e, -⟩ <;> rw [e] <;> omega
 ·rcases idx_cases x with ⟨g, e, -⟩ | ⟨g, e, -⟩ <;> rw [e] <;> omega

set_option maxRecDepth 100000 in
set_option maxHeartbeats 4000000 in
theorem l10Led_pos (K : Int) (hK1 : 0 < K) (hK2 : K < 100) (a : Option Addr) (n cap : Nat) (xs : List Int) (w : World) (hr : Reads w a n xs) (hsm : Small xs) (hn : n ≤ 4000) :
  Calls Try.prog 134 #[.slice a n cap, .int .i64 K] w (MadeInts w (joinF [] (actL (-K) xs)).length (joinF [] (actL (-K) xs))) := by
 obtain ⟨i0, hi, hz0, hz1', hz2⟩ := info_parts infoInt
 have HL := Lib.hid hr.len
 have HSM := Lib.hid hsm; clear hsm
 have HR := Lib.hid hr; clear hr
 have HPI : Hid (∀ x, putsL (-K) x = if x < 0 then inverse (imgS (-K) (idx x)) else imgS (-K) (idx x)) := Lib.hid (fun x => by have := puts_idx K x (by omega); rwa [show -K = -K from rfl] at this)
 have EK1 : IntKind.i64.wrap (K + 1) = K + 1 := IntWalk.i64_in _ (by omega)
 have EK2 : IntKind.i64.wrap (-K) = -K := IntWalk.i64_in _ (by omega)
 have EK3 : IntKind.i64.wrap (-K - 1) = -K - 1 := IntWalk.i64_in _ (by omega)
 have EK4 : IntKind.i64.wrap K = K := IntWalk.i64_in _ (by omega)
 have g0 : ¬ (K < -K) := by omega
 have g1 : K > 0 := by omega
 have g2 : ¬ (K < 0) := by omega
 have HIMG : Hid (∀ m, imgS (-K) m = if m = K then [K + 1] else if m = K + 1 then [-K - 1, K, K + 1] else [m]) := Lib.hid (fun m => by
  unfold imgS
  have n1 : -K < 0 := by omega
  have n2 : ¬ (0 < -K) := by omega
  simp only [n1, n2, if_false, false_and, true_and, Int.neg_neg]
  by_cases c1 : m = K
  ·rw [if_pos c1, if_pos c1]
  ·by_cases c2 : m = K + 1
   ·rw [if_neg c1, if_pos c2, if_neg c1, if_pos c2, show -(K + 1) = -K - 1 by omega]
   ·rw [if_neg c1, if_neg c2, if_neg c1, if_neg c2])
 go_enter Try.func134, Try.ntmps134
 go_wp2
 clear g0
 go_loopw [5, 7] (fun v i wr => ∃ k m : Nat, k ≤ n ∧ m ≤ 3 * k ∧ i = .int .i64 k ∧ OwnV w.heap.size wr v m (actL (-K) (xs.take k)) ∧ Below w.heap.size w wr) (fun _ i _ => n - (intOf i).toNat)
 case atStart => exact ⟨0, 0, Nat.zero_le _, Nat.zero_le _, rfl, OwnV.empty _, (Below.refl _ _).alloc (Nat.le_refl _) _⟩
 case round =>
  obtain ⟨k, m, hk, hmk, rfl, ho, hbl⟩ := hrel
  by_cases hlt : k < n
  ·have hkl : k < xs.length := by rw [HL.out]; exact hlt
   obtain ⟨b, off, rfl, hb, hc⟩ := HR.out.cells (by omega)
   obtain ⟨x, hx⟩ : ∃ x, x = xs.getD k 0 := ⟨_, rfl⟩
   have h1 : wr.cell? ⟨b, off + k, none⟩ = some (.int .i64 x) := by rw [hx]; exact (hbl.cell (by exact hb)).trans (hc _ hlt)
   obtain ⟨x1, x2⟩ : -1000 < x ∧ x < 1000 := by rw [hx]; exact HSM.out _ (getD_mem xs k hkl)
   have HST := Lib.hid (actL_step (-K) xs k hkl)
   rw [← hx, HPI.out x] at HST
   obtain ⟨M1, M2, M3, q0, q1⟩ := idx_max2 x x1 x2
   obtain ⟨q, hq⟩ : ∃ q, q = idx x := ⟨_, rfl⟩
   rw [← hq, HIMG.out q] at HST
   rw [← hq] at M2 M3 q0 q1
   have HO := Lib.hid ho; have HB := Lib.hid hbl
   have hz := hbl.size
   have hbw : b < wr.heap.size := by omega
   have hqd := hq
   clear hx hc hq M2 M3 ho hbl
   by_cases hxm : x < 0
   ·obtain ⟨hxq, q0⟩ : x = -q ∧ 0 < q := by rw [hqd, idx_neg hxm]; omega
    rw [if_pos hxm] at HST
    clear hqd hxm
    subst hxq
    have E0 : IntKind.i64.wrap q = q := IntWalk.i64_in _ (by omega)
    have E1 : IntKind.i64.wrap (-q) = -q := IntWalk.i64_in _ (by omega)
    have e2 : -q < q := by omega
    have e3 : -q < 0 := by omega
    clear M1 x1 x2
    by_cases c1 : q = K
    ·have t1 : (q == K) = true := by simp [c1]
     have t2 : (q == K + 1) = false := by simp; omega
     rw [if_pos c1] at HST
     have HC1 := Lib.hid c1; clear c1
     have HRD : Hid (Reads (((wr.alloc (.cells #[.int .i64 q] 2)).drew).alloc (.cells #[.int .i64 (K + 1)] 2)) (some ⟨wr.heap.size + 1, 0, none⟩) 1 [K + 1]) := Lib.hid (by have h := (own_lit ((wr.alloc (.cells #[.int .i64 q] 2)).drew) [K + 1] (by simp [maxLen])).reads; simpa using h)
     have HO1 : Hid (OwnV w.heap.size (((wr.alloc (.cells #[.int .i64 q] 2)).drew).alloc (.cells #[.int .i64 (K + 1)] 2)) _ m (actL (-K) (xs.take k))) := Lib.hid (World.ownsRow.alloc (show (wr.alloc (.cells #[.int .i64 q] 2)).drew.ownsRow _ _ _ _ _ _ from World.ownsRow.alloc HO.out (.cells #[.int .i64 q] 2)) _)
     have HB1 : Hid (Below w.heap.size w (((wr.alloc (.cells #[.int .i64 q] 2)).drew).alloc (.cells #[.int .i64 (K + 1)] 2))) := Lib.hid (((HB.out.alloc hz (.cells #[.int .i64 q] 2)).drew).alloc (by show _ ≤ (wr.alloc (.cells #[.int .i64 q] 2)).heap.size; simp; omega) (.cells #[.int .i64 (K + 1)] 2))
     have hz1 : w.heap.size ≤ (((wr.alloc (.cells #[.int .i64 q] 2)).drew).alloc (.cells #[.int .i64 (K + 1)] 2)).heap.size := by show _ ≤ _; simp [World.drew]; omega
     go_wp2
     go_region
     go_wp2_with fail
     refine (l01Inverse_any (some ⟨wr.heap.size + 1, 0, none⟩) 1 1 [K + 1] _ HRD.out (by intro z hz; simp at hz; omega) (by omega)).mono ?_
     rintro e w4 ⟨av, cv, rfl, hov, hbv⟩
     have HO4 := Lib.hid (HO1.out.drawn hbv)
     have HR4 : Hid (Reads w4 av 1 (inverse [K + 1])) := Lib.hid (Own.reads hov)
     have HB4 := Lib.hid (below_go HB1.out hbv hz1)
     have hz4 : w.heap.size ≤ w4.heap.size := HB4.out.size
     clear hov hbv HRD HO1 HB1 hz1 HO
     go_wp2_with (at_builtin; refine wpList_append_ints rfl _ _ 22 rfl w.heap.size i0 Try.underlying22 hi hz0 hz1' hz2 _ m (actL (-K) (xs.take k)) rfl HO4.out _ _ _ (inverse [K + 1]) rfl HR4.out (by omega) hz4 ?_)
     intro v' w5 hown' hgrow
     have HO5 := Lib.hid hown'
     have HB5 := Lib.hid (below_appended5 HB4.out hz4 HO4.out hgrow)
     clear hown' hgrow
     go_wp2
     go_roundw
     case rel => exact ⟨k + 1, m + 1, by omega, by omega, by go_num, by rw [HST.out]; exact HO5.out, HB5.out⟩
     case measure => simp [intOf]; omega
    ·skip
     by_cases c2 : q = K + 1
     ·have t1 : (q == K) = false := by simp [c1]
      have t2 : (q == K + 1) = true := by simp [c2]
      rw [if_neg c1, if_pos c2] at HST
      have HC1 := Lib.hid c1; have HC2 := Lib.hid c2; clear c1 c2
      have HRD : Hid (Reads (((wr.alloc (.cells #[.int .i64 q] 2)).drew).alloc (.cells #[.int .i64 (-K - 1), .int .i64 (K), .int .i64 (K + 1)] 2)) (some ⟨wr.heap.size + 1, 0, none⟩) 3 [-K - 1, K, K + 1]) := Lib.hid (by have h := (own_lit ((wr.alloc (.cells #[.int .i64 q] 2)).drew) [-K - 1, K, K + 1] (by simp [maxLen])).reads; simpa using h)
      have HO1 : Hid (OwnV w.heap.size (((wr.alloc (.cells #[.int .i64 q] 2)).drew).alloc (.cells #[.int .i64 (-K - 1), .int .i64 (K), .int .i64 (K + 1)] 2)) _ m (actL (-K) (xs.take k))) := Lib.hid (World.ownsRow.alloc (show (wr.alloc (.cells #[.int .i64 q] 2)).drew.ownsRow _ _ _ _ _ _ from World.ownsRow.alloc HO.out (.cells #[.int .i64 q] 2)) _)
      have HB1 : Hid (Below w.heap.size w (((wr.alloc (.cells #[.int .i64 q] 2)).drew).alloc (.cells #[.int .i64 (-K - 1), .int .i64 (K), .int .i64 (K + 1)] 2))) := Lib.hid (((HB.out.alloc hz (.cells #[.int .i64 q] 2)).drew).alloc (by show _ ≤ (wr.alloc (.cells #[.int .i64 q] 2)).heap.size; simp; omega) (.cells #[.int .i64 (-K - 1), .int .i64 (K), .int .i64 (K + 1)] 2))
      have hz1 : w.heap.size ≤ (((wr.alloc (.cells #[.int .i64 q] 2)).drew).alloc (.cells #[.int .i64 (-K - 1), .int .i64 (K), .int .i64 (K + 1)] 2)).heap.size := by show _ ≤ _; simp [World.drew]; omega
      go_wp2
      go_region
      go_wp2_with fail
      refine (l01Inverse_any (some ⟨wr.heap.size + 1, 0, none⟩) 3 3 [-K - 1, K, K + 1] _ HRD.out (by intro z hz; simp at hz; omega) (by omega)).mono ?_
      rintro e w4 ⟨av, cv, rfl, hov, hbv⟩
      have HO4 := Lib.hid (HO1.out.drawn hbv)
      have HR4 : Hid (Reads w4 av 3 (inverse [-K - 1, K, K + 1])) := Lib.hid (Own.reads hov)
      have HB4 := Lib.hid (below_go HB1.out hbv hz1)
      have hz4 : w.heap.size ≤ w4.heap.size := HB4.out.size
      clear hov hbv HRD HO1 HB1 hz1 HO
      go_wp2_with (at_builtin; refine wpList_append_ints rfl _ _ 22 rfl w.heap.size i0 Try.underlying22 hi hz0 hz1' hz2 _ m (actL (-K) (xs.take k)) rfl HO4.out _ _ _ (inverse [-K - 1, K, K + 1]) rfl HR4.out (by omega) hz4 ?_)
      intro v' w5 hown' hgrow
      have HO5 := Lib.hid hown'
      have HB5 := Lib.hid (below_appended5 HB4.out hz4 HO4.out hgrow)
      clear hown' hgrow
      go_wp2
      go_roundw
      case rel => exact ⟨k + 1, m + 3, by omega, by omega, by go_num, by rw [HST.out]; exact HO5.out, HB5.out⟩
      case measure => simp [intOf]; omega
     ·have t1 : (q == K) = false := by simp [c1]
      have t2 : (q == K + 1) = false := by simp [c2]
      rw [if_neg c1, if_neg c2] at HST
      have HC1 := Lib.hid c1; have HC2 := Lib.hid c2; clear c1 c2
      have HRD : Hid (Reads ((wr.alloc (.cells #[.int .i64 q] 2)).drew) (some ⟨wr.heap.size, 0, none⟩) 1 [q]) := Lib.hid ((own_lit wr [q] (by simp [maxLen])).reads)
      have HO1 : Hid (OwnV w.heap.size ((wr.alloc (.cells #[.int .i64 q] 2)).drew) _ m (actL (-K) (xs.take k))) := Lib.hid (World.ownsRow.alloc HO.out (.cells #[.int .i64 q] 2))
      have HB1 : Hid (Below w.heap.size w ((wr.alloc (.cells #[.int .i64 q] 2)).drew)) := Lib.hid ((HB.out.alloc hz (.cells #[.int .i64 q] 2)).drew)
      have hz1 : w.heap.size ≤ ((wr.alloc (.cells #[.int .i64 q] 2)).drew).heap.size := by show _ ≤ (wr.alloc (.cells #[.int .i64 q] 2)).heap.size; simp; omega
      go_wp2
      go_region
      go_wp2_with fail
      refine (l01Inverse_any (some ⟨wr.heap.size, 0, none⟩) 1 1 [q] _ HRD.out (by intro z hz; simp at hz; omega) (by omega)).mono ?_
      rintro e w4 ⟨av, cv, rfl, hov, hbv⟩
      have HO4 := Lib.hid (HO1.out.drawn hbv)
      have HR4 : Hid (Reads w4 av 1 (inverse [q])) := Lib.hid (Own.reads hov)
      have HB4 := Lib.hid (below_go HB1.out hbv hz1)
      have hz4 : w.heap.size ≤ w4.heap.size := HB4.out.size
      clear hov hbv HRD HO1 HB1 hz1 HO
      go_wp2_with (at_builtin; refine wpList_append_ints rfl _ _ 22 rfl w.heap.size i0 Try.underlying22 hi hz0 hz1' hz2 _ m (actL (-K) (xs.take k)) rfl HO4.out _ _ _ (inverse [q]) rfl HR4.out (by omega) hz4 ?_)
      intro v' w5 hown' hgrow
      have HO5 := Lib.hid hown'
      have HB5 := Lib.hid (below_appended5 HB4.out hz4 HO4.out hgrow)
      clear hown' hgrow
      go_wp2
      go_roundw
      case rel => exact ⟨k + 1, m + 1, by omega, by omega, by go_num, by rw [HST.out]; exact HO5.out, HB5.out⟩
      case measure => simp [intOf]; omega
   ·have hxq : q = x := by rw [hqd, idx_pos hxm]
    rw [if_neg hxm] at HST
    clear hqd hxm
    subst hxq
    have E0 : IntKind.i64.wrap q = q := IntWalk.i64_in _ (by omega)
    have E1 : IntKind.i64.wrap (-q) = -q := IntWalk.i64_in _ (by omega)
    have e2 : ¬ (q < -q) := by omega
    have e3 : ¬ (q < 0) := by omega
    clear M1 x1 x2
    by_cases c1 : q = K
    ·have t1 : (q == K) = true := by simp [c1]
     have t2 : (q == K + 1) = false := by simp; omega
     rw [if_pos c1] at HST
     have HC1 := Lib.hid c1; clear c1
     have HRD : Hid (Reads (((wr.alloc (.cells #[.int .i64 q] 2)).drew).alloc (.cells #[.int .i64 (K + 1)] 2)) (some ⟨wr.heap.size + 1, 0, none⟩) 1 [K + 1]) := Lib.hid (by have h := (own_lit ((wr.alloc (.cells #[.int .i64 q] 2)).drew) [K + 1] (by simp [maxLen])).reads; simpa using h)
     have HO1 : Hid (OwnV w.heap.size (((wr.alloc (.cells #[.int .i64 q] 2)).drew).alloc (.cells #[.int .i64 (K + 1)] 2)) _ m (actL (-K) (xs.take k))) := Lib.hid (World.ownsRow.alloc (show (wr.alloc (.cells #[.int .i64 q] 2)).drew.ownsRow _ _ _ _ _ _ from World.ownsRow.alloc HO.out (.cells #[.int .i64 q] 2)) _)
     have HB1 : Hid (Below w.heap.size w (((wr.alloc (.cells #[.int .i64 q] 2)).drew).alloc (.cells #[.int .i64 (K + 1)] 2))) := Lib.hid (((HB.out.alloc hz (.cells #[.int .i64 q] 2)).drew).alloc (by show _ ≤ (wr.alloc (.cells #[.int .i64 q] 2)).heap.size; simp; omega) (.cells #[.int .i64 (K + 1)] 2))
     have hz1 : w.heap.size ≤ (((wr.alloc (.cells #[.int .i64 q] 2)).drew).alloc (.cells #[.int .i64 (K + 1)] 2)).heap.size := by show _ ≤ _; simp [World.drew]; omega
     go_wp2
     go_region
     go_wp2_with (at_builtin; refine wpList_append_ints rfl _ _ 22 rfl w.heap.size i0 Try.underlying22 hi hz0 hz1' hz2 _ m (actL (-K) (xs.take k)) rfl HO1.out _ _ _ [K + 1] rfl HRD.out (by omega) hz1 ?_)
     intro v' w5 hown' hgrow
     have HO5 := Lib.hid hown'
     have HB5 := Lib.hid (below_appended5 HB1.out hz1 HO1.out hgrow)
     clear hown' hgrow
     go_wp2
     go_roundw
     case rel => exact ⟨k + 1, m + 1, by omega, by omega, by go_num, by rw [HST.out]; exact HO5.out, HB5.out⟩
     case measure => simp [intOf]; omega
    ·skip
     by_cases c2 : q = K + 1
     ·have t1 : (q == K) = false := by simp [c1]
      have t2 : (q == K + 1) = true := by simp [c2]
      rw [if_neg c1, if_pos c2] at HST
      have HC1 := Lib.hid c1; have HC2 := Lib.hid c2; clear c1 c2
      have HRD : Hid (Reads (((wr.alloc (.cells #[.int .i64 q] 2)).drew).alloc (.cells #[.int .i64 (-K - 1), .int .i64 (K), .int .i64 (K + 1)] 2)) (some ⟨wr.heap.size + 1, 0, none⟩) 3 [-K - 1, K, K + 1]) := Lib.hid (by have h := (own_lit ((wr.alloc (.cells #[.int .i64 q] 2)).drew) [-K - 1, K, K + 1] (by simp [maxLen])).reads; simpa using h)
      have HO1 : Hid (OwnV w.heap.size (((wr.alloc (.cells #[.int .i64 q] 2)).drew).alloc (.cells #[.int .i64 (-K - 1), .int .i64 (K), .int .i64 (K + 1)] 2)) _ m (actL (-K) (xs.take k))) := Lib.hid (World.ownsRow.alloc (show (wr.alloc (.cells #[.int .i64 q] 2)).drew.ownsRow _ _ _ _ _ _ from World.ownsRow.alloc HO.out (.cells #[.int .i64 q] 2)) _)
      have HB1 : Hid (Below w.heap.size w (((wr.alloc (.cells #[.int .i64 q] 2)).drew).alloc (.cells #[.int .i64 (-K - 1), .int .i64 (K), .int .i64 (K + 1)] 2))) := Lib.hid (((HB.out.alloc hz (.cells #[.int .i64 q] 2)).drew).alloc (by show _ ≤ (wr.alloc (.cells #[.int .i64 q] 2)).heap.size; simp; omega) (.cells #[.int .i64 (-K - 1), .int .i64 (K), .int .i64 (K + 1)] 2))
      have hz1 : w.heap.size ≤ (((wr.alloc (.cells #[.int .i64 q] 2)).drew).alloc (.cells #[.int .i64 (-K - 1), .int .i64 (K), .int .i64 (K + 1)] 2)).heap.size := by show _ ≤ _; simp [World.drew]; omega
      go_wp2
      go_region
      go_wp2_with (at_builtin; refine wpList_append_ints rfl _ _ 22 rfl w.heap.size i0 Try.underlying22 hi hz0 hz1' hz2 _ m (actL (-K) (xs.take k)) rfl HO1.out _ _ _ [-K - 1, K, K + 1] rfl HRD.out (by omega) hz1 ?_)
      intro v' w5 hown' hgrow
      have HO5 := Lib.hid hown'
      have HB5 := Lib.hid (below_appended5 HB1.out hz1 HO1.out hgrow)
      clear hown' hgrow
      go_wp2
      go_roundw
      case rel => exact ⟨k + 1, m + 3, by omega, by omega, by go_num, by rw [HST.out]; exact HO5.out, HB5.out⟩
      case measure => simp [intOf]; omega
     ·have t1 : (q == K) = false := by simp [c1]
      have t2 : (q == K + 1) = false := by simp [c2]
      rw [if_neg c1, if_neg c2] at HST
      have HC1 := Lib.hid c1; have HC2 := Lib.hid c2; clear c1 c2
      have HRD : Hid (Reads ((wr.alloc (.cells #[.int .i64 q] 2)).drew) (some ⟨wr.heap.size, 0, none⟩) 1 [q]) := Lib.hid ((own_lit wr [q] (by simp [maxLen])).reads)
      have HO1 : Hid (OwnV w.heap.size ((wr.alloc (.cells #[.int .i64 q] 2)).drew) _ m (actL (-K) (xs.take k))) := Lib.hid (World.ownsRow.alloc HO.out (.cells #[.int .i64 q] 2))
      have HB1 : Hid (Below w.heap.size w ((wr.alloc (.cells #[.int .i64 q] 2)).drew)) := Lib.hid ((HB.out.alloc hz (.cells #[.int .i64 q] 2)).drew)
      have hz1 : w.heap.size ≤ ((wr.alloc (.cells #[.int .i64 q] 2)).drew).heap.size := by show _ ≤ (wr.alloc (.cells #[.int .i64 q] 2)).heap.size; simp; omega
      go_wp2
      go_region
      go_wp2_with (at_builtin; refine wpList_append_ints rfl _ _ 22 rfl w.heap.size i0 Try.underlying22 hi hz0 hz1' hz2 _ m (actL (-K) (xs.take k)) rfl HO1.out _ _ _ [q] rfl HRD.out (by omega) hz1 ?_)
      intro v' w5 hown' hgrow
      have HO5 := Lib.hid hown'
      have HB5 := Lib.hid (below_appended5 HB1.out hz1 HO1.out hgrow)
      clear hown' hgrow
      go_wp2
      go_roundw
      case rel => exact ⟨k + 1, m + 1, by omega, by omega, by go_num, by rw [HST.out]; exact HO5.out, HB5.out⟩
      case measure => simp [intOf]; omega
  ·have hkn : k = n := by omega
   have HK := Lib.hid hkn; clear hkn
   have HT : Hid (actL (-K) (xs.take k) = actL (-K) xs) := Lib.hid (by rw [HK.out, List.take_of_length_le (by rw [HL.out]; omega)])
   rw [HT.out] at ho
   obtain ⟨a2, c2, rfl, ho2⟩ := ho.form
   have HO := Lib.hid ho2; have HB := Lib.hid hbl; have hz := hbl.size
   clear ho ho2 hbl
   go_wp2_with fail
   refine (l01Free_any a2 m c2 (actL (-K) xs) _ HO.out.reads (actL_small2 (-K) (by omega) (by omega) xs HSM.out) (by omega)).mono ?_
   rintro e w4 ⟨av, cv, rfl, hov, hbv⟩
   have HB4 := Lib.hid (below_go HB.out hbv hz)
   go_wp2
   go_ret
   exact ⟨av, cv, rfl, hov.mono hz, HB4.out⟩

set_option maxRecDepth 100000 in
set_option maxHeartbeats 4000000 in
theorem l10Led_neg (K : Int) (hK1 : 0 < K) (hK2 : K < 100) (a : Option Addr) (n cap : Nat) (xs : List Int) (w : World) (hr : Reads w a n xs) (hsm : Small xs) (hn : n ≤ 4000) :
  Calls Try.prog 134 #[.slice a n cap, .int .i64 (-K)] w (MadeInts w (joinF [] (actL K xs)).length (joinF [] (actL K xs))) := by
 obtain ⟨i0, hi, hz0, hz1', hz2⟩ := info_parts infoInt
 have HL := Lib.hid hr.len
 have HSM := Lib.hid hsm; clear hsm
 have HR := Lib.hid hr; clear hr
 have HPI : Hid (∀ x, putsL K x = if x < 0 then inverse (imgS K (idx x)) else imgS K (idx x)) := Lib.hid (fun x => by have := puts_idx (-K) x (by omega); rwa [Int.neg_neg] at this)
 have EK1 : IntKind.i64.wrap (K + 1) = K + 1 := IntWalk.i64_in _ (by omega)
 have EK2 : IntKind.i64.wrap (-K) = -K := IntWalk.i64_in _ (by omega)
 have EK3 : IntKind.i64.wrap (-K - 1) = -K - 1 := IntWalk.i64_in _ (by omega)
 have EK4 : IntKind.i64.wrap K = K := IntWalk.i64_in _ (by omega)
 have g0 : -K < K := by omega
 have g1 : ¬ (-K > 0) := by omega
 have g2 : -K < 0 := by omega
 have HIMG : Hid (∀ m, imgS K m = if m = K + 1 then [K] else if m = K then [K, K + 1, -K] else [m]) := Lib.hid (fun m => by
  unfold imgS
  have n1 : ¬ (K < 0) := by omega
  simp only [n1, hK1, if_false, false_and, true_and]
  by_cases c1 : m = K
  ·have c2 : ¬ m = K + 1 := by omega
   rw [if_pos c1, if_neg c2, if_pos c1]
  ·by_cases c2 : m = K + 1
   ·rw [if_neg c1, if_pos c2, if_pos c2]
   ·rw [if_neg c1, if_neg c2, if_neg c2, if_neg c1])
 go_enter Try.func134, Try.ntmps134
 go_wp2
 clear g0
 go_loopw [5, 7] (fun v i wr => ∃ k m : Nat, k ≤ n ∧ m ≤ 3 * k ∧ i = .int .i64 k ∧ OwnV w.heap.size wr v m (actL K (xs.take k)) ∧ Below w.heap.size w wr) (fun _ i _ => n - (intOf i).toNat)
 case atStart => exact ⟨0, 0, Nat.zero_le _, Nat.zero_le _, rfl, OwnV.empty _, (Below.refl _ _).alloc (Nat.le_refl _) _⟩
 case round =>
  obtain ⟨k, m, hk, hmk, rfl, ho, hbl⟩ := hrel
  by_cases hlt : k < n
  ·have hkl : k < xs.length := by rw [HL.out]; exact hlt
   obtain ⟨b, off, rfl, hb, hc⟩ := HR.out.cells (by omega)
   obtain ⟨x, hx⟩ : ∃ x, x = xs.getD k 0 := ⟨_, rfl⟩
   have h1 : wr.cell? ⟨b, off + k, none⟩ = some (.int .i64 x) := by rw [hx]; exact (hbl.cell (by exact hb)).trans (hc _ hlt)
   obtain ⟨x1, x2⟩ : -1000 < x ∧ x < 1000 := by rw [hx]; exact HSM.out _ (getD_mem xs k hkl)
   have HST := Lib.hid (actL_step K xs k hkl)
   rw [← hx, HPI.out x] at HST
   obtain ⟨M1, M2, M3, q0, q1⟩ := idx_max2 x x1 x2
   obtain ⟨q, hq⟩ : ∃ q, q = idx x := ⟨_, rfl⟩
   rw [← hq, HIMG.out q] at HST
   rw [← hq] at M2 M3 q0 q1
   have HO := Lib.hid ho; have HB := Lib.hid hbl
   have hz := hbl.size
   have hbw : b < wr.heap.size := by omega
   have hqd := hq
   clear hx hc hq M2 M3 ho hbl
   by_cases hxm : x < 0
   ·obtain ⟨hxq, q0⟩ : x = -q ∧ 0 < q := by rw [hqd, idx_neg hxm]; omega
    rw [if_pos hxm] at HST
    clear hqd hxm
    subst hxq
    have E0 : IntKind.i64.wrap q = q := IntWalk.i64_in _ (by omega)
    have E1 : IntKind.i64.wrap (-q) = -q := IntWalk.i64_in _ (by omega)
    have e2 : -q < q := by omega
    have e3 : -q < 0 := by omega
    clear M1 x1 x2
    by_cases c1 : q = K + 1
    ·have t1 : (q == K + 1) = true := by simp [c1]
     have t2 : (q == K) = false := by simp; omega
     rw [if_pos c1] at HST
     have HC1 := Lib.hid c1; clear c1
     have HRD : Hid (Reads (((wr.alloc (.cells #[.int .i64 q] 2)).drew).alloc (.cells #[.int .i64 (K)] 2)) (some ⟨wr.heap.size + 1, 0, none⟩) 1 [K]) := Lib.hid (by have h := (own_lit ((wr.alloc (.cells #[.int .i64 q] 2)).drew) [K] (by simp [maxLen])).reads; simpa using h)
     have HO1 : Hid (OwnV w.heap.size (((wr.alloc (.cells #[.int .i64 q] 2)).drew).alloc (.cells #[.int .i64 (K)] 2)) _ m (actL K (xs.take k))) := Lib.hid (World.ownsRow.alloc (show (wr.alloc (.cells #[.int .i64 q] 2)).drew.ownsRow _ _ _ _ _ _ from World.ownsRow.alloc HO.out (.cells #[.int .i64 q] 2)) _)
     have HB1 : Hid (Below w.heap.size w (((wr.alloc (.cells #[.int .i64 q] 2)).drew).alloc (.cells #[.int .i64 (K)] 2))) := Lib.hid (((HB.out.alloc hz (.cells #[.int .i64 q] 2)).drew).alloc (by show _ ≤ (wr.alloc (.cells #[.int .i64 q] 2)).heap.size; simp; omega) (.cells #[.int .i64 (K)] 2))
     have hz1 : w.heap.size ≤ (((wr.alloc (.cells #[.int .i64 q] 2)).drew).alloc (.cells #[.int .i64 (K)] 2)).heap.size := by show _ ≤ _; simp [World.drew]; omega
     go_wp2
     go_region
     go_wp2_with fail
     refine (l01Inverse_any (some ⟨wr.heap.size + 1, 0, none⟩) 1 1 [K] _ HRD.out (by intro z hz; simp at hz; omega) (by omega)).mono ?_
     rintro e w4 ⟨av, cv, rfl, hov, hbv⟩
     have HO4 := Lib.hid (HO1.out.drawn hbv)
     have HR4 : Hid (Reads w4 av 1 (inverse [K])) := Lib.hid (Own.reads hov)
     have HB4 := Lib.hid (below_go HB1.out hbv hz1)
     have hz4 : w.heap.size ≤ w4.heap.size := HB4.out.size
     clear hov hbv HRD HO1 HB1 hz1 HO
     go_wp2_with (at_builtin; refine wpList_append_ints rfl _ _ 22 rfl w.heap.size i0 Try.underlying22 hi hz0 hz1' hz2 _ m (actL K (xs.take k)) rfl HO4.out _ _ _ (inverse [K]) rfl HR4.out (by omega) hz4 ?_)
     intro v' w5 hown' hgrow
     have HO5 := Lib.hid hown'
     have HB5 := Lib.hid (below_appended5 HB4.out hz4 HO4.out hgrow)
     clear hown' hgrow
     go_wp2
     go_roundw
     case rel => exact ⟨k + 1, m + 1, by omega, by omega, by go_num, by rw [HST.out]; exact HO5.out, HB5.out⟩
     case measure => simp [intOf]; omega
    ·skip
     by_cases c2 : q = K
     ·have t1 : (q == K + 1) = false := by simp [c1]
      have t2 : (q == K) = true := by simp [c2]
      rw [if_neg c1, if_pos c2] at HST
      have HC1 := Lib.hid c1; have HC2 := Lib.hid c2; clear c1 c2
      have HRD : Hid (Reads (((wr.alloc (.cells #[.int .i64 q] 2)).drew).alloc (.cells #[.int .i64 (K), .int .i64 (K + 1), .int .i64 (-K)] 2)) (some ⟨wr.heap.size + 1, 0, none⟩) 3 [K, K + 1, -K]) := Lib.hid (by have h := (own_lit ((wr.alloc (.cells #[.int .i64 q] 2)).drew) [K, K + 1, -K] (by simp [maxLen])).reads; simpa using h)
      have HO1 : Hid (OwnV w.heap.size (((wr.alloc (.cells #[.int .i64 q] 2)).drew).alloc (.cells #[.int .i64 (K), .int .i64 (K + 1), .int .i64 (-K)] 2)) _ m (actL K (xs.take k))) := Lib.hid (World.ownsRow.alloc (show (wr.alloc (.cells #[.int .i64 q] 2)).drew.ownsRow _ _ _ _ _ _ from World.ownsRow.alloc HO.out (.cells #[.int .i64 q] 2)) _)
      have HB1 : Hid (Below w.heap.size w (((wr.alloc (.cells #[.int .i64 q] 2)).drew).alloc (.cells #[.int .i64 (K), .int .i64 (K + 1), .int .i64 (-K)] 2))) := Lib.hid (((HB.out.alloc hz (.cells #[.int .i64 q] 2)).drew).alloc (by show _ ≤ (wr.alloc (.cells #[.int .i64 q] 2)).heap.size; simp; omega) (.cells #[.int .i64 (K), .int .i64 (K + 1), .int .i64 (-K)] 2))
      have hz1 : w.heap.size ≤ (((wr.alloc (.cells #[.int .i64 q] 2)).drew).alloc (.cells #[.int .i64 (K), .int .i64 (K + 1), .int .i64 (-K)] 2)).heap.size := by show _ ≤ _; simp [World.drew]; omega
      go_wp2
      go_region
      go_wp2_with fail
      refine (l01Inverse_any (some ⟨wr.heap.size + 1, 0, none⟩) 3 3 [K, K + 1, -K] _ HRD.out (by intro z hz; simp at hz; omega) (by omega)).mono ?_
      rintro e w4 ⟨av, cv, rfl, hov, hbv⟩
      have HO4 := Lib.hid (HO1.out.drawn hbv)
      have HR4 : Hid (Reads w4 av 3 (inverse [K, K + 1, -K])) := Lib.hid (Own.reads hov)
      have HB4 := Lib.hid (below_go HB1.out hbv hz1)
      have hz4 : w.heap.size ≤ w4.heap.size := HB4.out.size
      clear hov hbv HRD HO1 HB1 hz1 HO
      go_wp2_with (at_builtin; refine wpList_append_ints rfl _ _ 22 rfl w.heap.size i0 Try.underlying22 hi hz0 hz1' hz2 _ m (actL K (xs.take k)) rfl HO4.out _ _ _ (inverse [K, K + 1, -K]) rfl HR4.out (by omega) hz4 ?_)
      intro v' w5 hown' hgrow
      have HO5 := Lib.hid hown'
      have HB5 := Lib.hid (below_appended5 HB4.out hz4 HO4.out hgrow)
      clear hown' hgrow
      go_wp2
      go_roundw
      case rel => exact ⟨k + 1, m + 3, by omega, by omega, by go_num, by rw [HST.out]; exact HO5.out, HB5.out⟩
      case measure => simp [intOf]; omega
     ·have t1 : (q == K + 1) = false := by simp [c1]
      have t2 : (q == K) = false := by simp [c2]
      rw [if_neg c1, if_neg c2] at HST
      have HC1 := Lib.hid c1; have HC2 := Lib.hid c2; clear c1 c2
      have HRD : Hid (Reads ((wr.alloc (.cells #[.int .i64 q] 2)).drew) (some ⟨wr.heap.size, 0, none⟩) 1 [q]) := Lib.hid ((own_lit wr [q] (by simp [maxLen])).reads)
      have HO1 : Hid (OwnV w.heap.size ((wr.alloc (.cells #[.int .i64 q] 2)).drew) _ m (actL K (xs.take k))) := Lib.hid (World.ownsRow.alloc HO.out (.cells #[.int .i64 q] 2))
      have HB1 : Hid (Below w.heap.size w ((wr.alloc (.cells #[.int .i64 q] 2)).drew)) := Lib.hid ((HB.out.alloc hz (.cells #[.int .i64 q] 2)).drew)
      have hz1 : w.heap.size ≤ ((wr.alloc (.cells #[.int .i64 q] 2)).drew).heap.size := by show _ ≤ (wr.alloc (.cells #[.int .i64 q] 2)).heap.size; simp; omega
      go_wp2
      go_region
      go_wp2_with fail
      refine (l01Inverse_any (some ⟨wr.heap.size, 0, none⟩) 1 1 [q] _ HRD.out (by intro z hz; simp at hz; omega) (by omega)).mono ?_
      rintro e w4 ⟨av, cv, rfl, hov, hbv⟩
      have HO4 := Lib.hid (HO1.out.drawn hbv)
      have HR4 : Hid (Reads w4 av 1 (inverse [q])) := Lib.hid (Own.reads hov)
      have HB4 := Lib.hid (below_go HB1.out hbv hz1)
      have hz4 : w.heap.size ≤ w4.heap.size := HB4.out.size
      clear hov hbv HRD HO1 HB1 hz1 HO
      go_wp2_with (at_builtin; refine wpList_append_ints rfl _ _ 22 rfl w.heap.size i0 Try.underlying22 hi hz0 hz1' hz2 _ m (actL K (xs.take k)) rfl HO4.out _ _ _ (inverse [q]) rfl HR4.out (by omega) hz4 ?_)
      intro v' w5 hown' hgrow
      have HO5 := Lib.hid hown'
      have HB5 := Lib.hid (below_appended5 HB4.out hz4 HO4.out hgrow)
      clear hown' hgrow
      go_wp2
      go_roundw
      case rel => exact ⟨k + 1, m + 1, by omega, by omega, by go_num, by rw [HST.out]; exact HO5.out, HB5.out⟩
      case measure => simp [intOf]; omega
   ·have hxq : q = x := by rw [hqd, idx_pos hxm]
    rw [if_neg hxm] at HST
    clear hqd hxm
    subst hxq
    have E0 : IntKind.i64.wrap q = q := IntWalk.i64_in _ (by omega)
    have E1 : IntKind.i64.wrap (-q) = -q := IntWalk.i64_in _ (by omega)
    have e2 : ¬ (q < -q) := by omega
    have e3 : ¬ (q < 0) := by omega
    clear M1 x1 x2
    by_cases c1 : q = K + 1
    ·have t1 : (q == K + 1) = true := by simp [c1]
     have t2 : (q == K) = false := by simp; omega
     rw [if_pos c1] at HST
     have HC1 := Lib.hid c1; clear c1
     have HRD : Hid (Reads (((wr.alloc (.cells #[.int .i64 q] 2)).drew).alloc (.cells #[.int .i64 (K)] 2)) (some ⟨wr.heap.size + 1, 0, none⟩) 1 [K]) := Lib.hid (by have h := (own_lit ((wr.alloc (.cells #[.int .i64 q] 2)).drew) [K] (by simp [maxLen])).reads; simpa using h)
     have HO1 : Hid (OwnV w.heap.size (((wr.alloc (.cells #[.int .i64 q] 2)).drew).alloc (.cells #[.int .i64 (K)] 2)) _ m (actL K (xs.take k))) := Lib.hid (World.ownsRow.alloc (show (wr.alloc (.cells #[.int .i64 q] 2)).drew.ownsRow _ _ _ _ _ _ from World.ownsRow.alloc HO.out (.cells #[.int .i64 q] 2)) _)
     have HB1 : Hid (Below w.heap.size w (((wr.alloc (.cells #[.int .i64 q] 2)).drew).alloc (.cells #[.int .i64 (K)] 2))) := Lib.hid (((HB.out.alloc hz (.cells #[.int .i64 q] 2)).drew).alloc (by show _ ≤ (wr.alloc (.cells #[.int .i64 q] 2)).heap.size; simp; omega) (.cells #[.int .i64 (K)] 2))
     have hz1 : w.heap.size ≤ (((wr.alloc (.cells #[.int .i64 q] 2)).drew).alloc (.cells #[.int .i64 (K)] 2)).heap.size := by show _ ≤ _; simp [World.drew]; omega
     go_wp2
     go_region
     go_wp2_with (at_builtin; refine wpList_append_ints rfl _ _ 22 rfl w.heap.size i0 Try.underlying22 hi hz0 hz1' hz2 _ m (actL K (xs.take k)) rfl HO1.out _ _ _ [K] rfl HRD.out (by omega) hz1 ?_)
     intro v' w5 hown' hgrow
     have HO5 := Lib.hid hown'
     have HB5 := Lib.hid (below_appended5 HB1.out hz1 HO1.out hgrow)
     clear hown' hgrow
     go_wp2
     go_roundw
     case rel => exact ⟨k + 1, m + 1, by omega, by omega, by go_num, by rw [HST.out]; exact HO5.out, HB5.out⟩
     case measure => simp [intOf]; omega
    ·skip
     by_cases c2 : q = K
     ·have t1 : (q == K + 1) = false := by simp [c1]
      have t2 : (q == K) = true := by simp [c2]
      rw [if_neg c1, if_pos c2] at HST
      have HC1 := Lib.hid c1; have HC2 := Lib.hid c2; clear c1 c2
      have HRD : Hid (Reads (((wr.alloc (.cells #[.int .i64 q] 2)).drew).alloc (.cells #[.int .i64 (K), .int .i64 (K + 1), .int .i64 (-K)] 2)) (some ⟨wr.heap.size + 1, 0, none⟩) 3 [K, K + 1, -K]) := Lib.hid (by have h := (own_lit ((wr.alloc (.cells #[.int .i64 q] 2)).drew) [K, K + 1, -K] (by simp [maxLen])).reads; simpa using h)
      have HO1 : Hid (OwnV w.heap.size (((wr.alloc (.cells #[.int .i64 q] 2)).drew).alloc (.cells #[.int .i64 (K), .int .i64 (K + 1), .int .i64 (-K)] 2)) _ m (actL K (xs.take k))) := Lib.hid (World.ownsRow.alloc (show (wr.alloc (.cells #[.int .i64 q] 2)).drew.ownsRow _ _ _ _ _ _ from World.ownsRow.alloc HO.out (.cells #[.int .i64 q] 2)) _)
      have HB1 : Hid (Below w.heap.size w (((wr.alloc (.cells #[.int .i64 q] 2)).drew).alloc (.cells #[.int .i64 (K), .int .i64 (K + 1), .int .i64 (-K)] 2))) := Lib.hid (((HB.out.alloc hz (.cells #[.int .i64 q] 2)).drew).alloc (by show _ ≤ (wr.alloc (.cells #[.int .i64 q] 2)).heap.size; simp; omega) (.cells #[.int .i64 (K), .int .i64 (K + 1), .int .i64 (-K)] 2))
      have hz1 : w.heap.size ≤ (((wr.alloc (.cells #[.int .i64 q] 2)).drew).alloc (.cells #[.int .i64 (K), .int .i64 (K + 1), .int .i64 (-K)] 2)).heap.size := by show _ ≤ _; simp [World.drew]; omega
      go_wp2
      go_region
      go_wp2_with (at_builtin; refine wpList_append_ints rfl _ _ 22 rfl w.heap.size i0 Try.underlying22 hi hz0 hz1' hz2 _ m (actL K (xs.take k)) rfl HO1.out _ _ _ [K, K + 1, -K] rfl HRD.out (by omega) hz1 ?_)
      intro v' w5 hown' hgrow
      have HO5 := Lib.hid hown'
      have HB5 := Lib.hid (below_appended5 HB1.out hz1 HO1.out hgrow)
      clear hown' hgrow
      go_wp2
      go_roundw
      case rel => exact ⟨k + 1, m + 3, by omega, by omega, by go_num, by rw [HST.out]; exact HO5.out, HB5.out⟩
      case measure => simp [intOf]; omega
     ·have t1 : (q == K + 1) = false := by simp [c1]
      have t2 : (q == K) = false := by simp [c2]
      rw [if_neg c1, if_neg c2] at HST
      have HC1 := Lib.hid c1; have HC2 := Lib.hid c2; clear c1 c2
      have HRD : Hid (Reads ((wr.alloc (.cells #[.int .i64 q] 2)).drew) (some ⟨wr.heap.size, 0, none⟩) 1 [q]) := Lib.hid ((own_lit wr [q] (by simp [maxLen])).reads)
      have HO1 : Hid (OwnV w.heap.size ((wr.alloc (.cells #[.int .i64 q] 2)).drew) _ m (actL K (xs.take k))) := Lib.hid (World.ownsRow.alloc HO.out (.cells #[.int .i64 q] 2))
      have HB1 : Hid (Below w.heap.size w ((wr.alloc (.cells #[.int .i64 q] 2)).drew)) := Lib.hid ((HB.out.alloc hz (.cells #[.int .i64 q] 2)).drew)
      have hz1 : w.heap.size ≤ ((wr.alloc (.cells #[.int .i64 q] 2)).drew).heap.size := by show _ ≤ (wr.alloc (.cells #[.int .i64 q] 2)).heap.size; simp; omega
      go_wp2
      go_region
      go_wp2_with (at_builtin; refine wpList_append_ints rfl _ _ 22 rfl w.heap.size i0 Try.underlying22 hi hz0 hz1' hz2 _ m (actL K (xs.take k)) rfl HO1.out _ _ _ [q] rfl HRD.out (by omega) hz1 ?_)
      intro v' w5 hown' hgrow
      have HO5 := Lib.hid hown'
      have HB5 := Lib.hid (below_appended5 HB1.out hz1 HO1.out hgrow)
      clear hown' hgrow
      go_wp2
      go_roundw
      case rel => exact ⟨k + 1, m + 1, by omega, by omega, by go_num, by rw [HST.out]; exact HO5.out, HB5.out⟩
      case measure => simp [intOf]; omega
  ·have hkn : k = n := by omega
   have HK := Lib.hid hkn; clear hkn
   have HT : Hid (actL K (xs.take k) = actL K xs) := Lib.hid (by rw [HK.out, List.take_of_length_le (by rw [HL.out]; omega)])
   rw [HT.out] at ho
   obtain ⟨a2, c2, rfl, ho2⟩ := ho.form
   have HO := Lib.hid ho2; have HB := Lib.hid hbl; have hz := hbl.size
   clear ho ho2 hbl
   go_wp2_with fail
   refine (l01Free_any a2 m c2 (actL K xs) _ HO.out.reads (actL_small2 K (by omega) (by omega) xs HSM.out) (by omega)).mono ?_
   rintro e w4 ⟨av, cv, rfl, hov, hbv⟩
   have HB4 := Lib.hid (below_go HB.out hbv hz)
   go_wp2
   go_ret
   exact ⟨av, cv, rfl, hov.mono hz, HB4.out⟩

end Go.Proofs.Ytehcbamfendbaaa

