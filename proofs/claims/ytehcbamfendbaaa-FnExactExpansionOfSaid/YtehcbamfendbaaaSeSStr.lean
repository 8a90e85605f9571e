/- The free word of a strand: the model. -/
import Derived.Test.YtehcbamfendbaaaSeCmbQ
import Derived.Test.YtehcbamfendbaaaSeSLed
namespace Go.Proofs.Ytehcbamfendbaaa
open Go.RowKit Go.ChangeShapes

theorem l10Led_all (L : Int) (hL0 : L ≠ 0) (hL1 : -100 < L) (hL2 : L < 100) (a : Option Addr) (n cap : Nat) (xs : List Int) (w : World) (hr : Reads w a n xs) (hsm : Small xs) (hn : n ≤ 4000) :
  Calls Try.prog 134 #[.slice a n cap, .int .i64 L] w (MadeInts w (joinF [] (actL (-L) xs)).length (joinF [] (actL (-L) xs))) := by
 by_cases h : 0 < L
 ·exact l10Led_pos L h hL2 a n cap xs w hr hsm hn
 ·have h2 := l10Led_neg (-L) (by omega) (by omega) a n cap xs w hr hsm hn
  rw [Int.neg_neg] at h2
  exact h2

theorem inverse_drop (ws : List Int) (d : Nat) (h : d < ws.length) : (inverse ws).drop d = -(ws.getD (ws.length - 1 - d) 0) :: (inverse ws).drop (d + 1) := by
 have hl : (inverse ws).length = ws.length := inverse_length ws
 rw [List.drop_eq_getElem_cons (by omega)]
 congr 1
 simp [inverse, List.getElem_reverse, List.getD, show ws.length - 1 - d < ws.length by omega]

theorem small_letts {n : Int} {xs : List Int} (h : ∀ x ∈ xs, Lett n x) (hn : n ≤ 1000) : Small xs := fun x hx => (h x hx).small hn

theorem joinF_small2 (xs ys : List Int) (hx : Small xs) (hy : Small ys) : Small (joinF xs ys) := joinF_small xs ys hx hy

theorem one_new1 (w : World) (o : Obj) (x : Int) (t : TypeId) : ∀ j u, [Value.int .i64 x][j]? = some u → ((w.alloc o).alloc (.cells #[.int .i64 x] t)).cell? ((⟨w.heap.size + 1, 0, none⟩ : Addr).add j) = some u := by
 intro j u hj
 have h := one_new (w.alloc o) x t j u hj
 rwa [World.size_alloc] at h

/-- Own slices that lie apart. -/
def Apart (u v : Value) : Prop := ∀ g, u.ownBlock = some g → v.ownBlock = some g → False

theorem OwnV.keep {B : Nat} {w w1 : World} {u v : Value} {n : Nat} {xs : List Int} {o : Obj} (h : OwnV B w u n xs) (hg : (w.alloc o).grownBy w1 v.ownBlock) (ha : Apart v u) : OwnV B w1 u n xs := by
 refine World.ownsRow.kept (World.ownsRow.alloc h o) hg ?_
 cases hu : u.ownBlock with
 | none =>
  rcases h.2 with ⟨rfl, _⟩ | ⟨g, c, cur, rfl, _⟩
  ·exact .inl rfl
  ·cases hu
 | some g => exact .inr fun e => ha g e.symm hu

theorem OwnV.keep5 {B : Nat} {w w1 : World} {u v : Value} {n : Nat} {xs : List Int} (h : OwnV B w u n xs) (hg : w.grownBy w1 v.ownBlock) (ha : Apart v u) : OwnV B w1 u n xs := by
 refine World.ownsRow.kept h hg ?_
 cases hu : u.ownBlock with
 | none =>
  rcases h.2 with ⟨rfl, _⟩ | ⟨g, c, cur, rfl, _⟩
  ·exact .inl rfl
  ·cases hu
 | some g => exact .inr fun e => ha g e.symm hu

theorem OwnV.block_lt {B : Nat} {w : World} {u : Value} {n : Nat} {xs : List Int} (h : OwnV B w u n xs) {g : Nat} (hg : u.ownBlock = some g) : g < w.heap.size := (World.ownsRow.lt h g hg).2

theorem OwnV.block_ge {B : Nat} {w : World} {u : Value} {n : Nat} {xs : List Int} (h : OwnV B w u n xs) {g : Nat} (hg : u.ownBlock = some g) : B ≤ g := (World.ownsRow.lt h g hg).1

set_option maxRecDepth 100000 in
set_option maxHeartbeats 4000000 in
theorem l10Strand_any (j : Int) (hj1 : 0 ≤ j) (hj7 : j ≤ 7) (a : Option Addr) (n cap : Nat) (ls : List Int) (w : World) (hr : Reads w a n ls) (hls : ∀ x ∈ ls, Lett (j + 1) x) (hn : n ≤ 1000) :
  Calls Try.prog 113 #[.int .i64 j, .slice a n cap] w fun e w' => ((∃ f fa fn fc wa wn wc, strF j ls n = some f ∧ e = .returned (.tuple #[.slice fa fn fc, .slice wa wn wc, .bool true]) ∧ fn ≤ 400 ∧ wn ≤ n ∧ w.heap.size + 1 < w'.heap.size ∧ Small f ∧ Own w.heap.size w' fa fn fc f ∧ Own w.heap.size w' wa wn wc (forgetL j ls)) ∨ (strF j ls n = none ∧ e = .returned (.tuple #[.slice none 0 0, .slice none 0 0, .bool false]))) ∧ Below w.heap.size w w' := by
 obtain ⟨i0, hi, hz0, hz1, hz2⟩ := info_parts infoInt
 have HL := Lib.hid hr.len
 have HLS := Lib.hid hls; clear hls
 have HR := Lib.hid hr; clear hr
 go_enter Try.func113, Try.ntmps113
 go_wp2
 go_loopw [7, 8, 9, 10] (fun vf vw pv i wr => ∃ (k mf mw : Nat) (f : List Int), k ≤ n ∧ mf ≤ 400 ∧ mw ≤ k ∧ i = .int .i64 k ∧ pv = .int .i64 (placeL j (ls.take k)) ∧ strF j ls k = some f ∧ Red f ∧ Small f ∧ OwnV w.heap.size wr vf mf f ∧ OwnV w.heap.size wr vw mw (forgetL j (ls.take k)) ∧ Apart vf vw ∧ Below w.heap.size w wr ∧ w.heap.size + 1 < wr.heap.size) (fun _ _ _ i _ => n - (intOf i).toNat)
 case atStart => exact ⟨0, 0, 0, [], Nat.zero_le _, Nat.zero_le _, Nat.zero_le _, rfl, rfl, rfl, Red.nil, (fun z hz => (by cases hz)), World.ownsRow.alloc (OwnV.empty w) _, (by have h : OwnV (w.heap.size + 1) ((w.alloc (.cells #[] 2)).alloc (.cells #[] 2)) (.slice (some ⟨w.heap.size + 1, 0, none⟩) 0 0) 0 [] := (by have h0 := OwnV.empty (w.alloc (.cells #[] 2)); rwa [World.size_alloc] at h0); exact Own.mono (show Own (w.heap.size + 1) ((w.alloc (.cells #[] 2)).alloc (.cells #[] 2)) (some ⟨w.heap.size + 1, 0, none⟩) 0 0 [] from h) (by omega)), (by intro g e1 e2; simp [Value.ownBlock] at e1 e2; omega), below2 w _ _, by simp⟩
 case round =>
  obtain ⟨k, mf, mw, f, hk, hmf, hmw, rfl, rfl, hsf, hred, hsm, hof, how, hap, hbl, hzz⟩ := hrel
  by_cases hlt : k < n
  ·have hkl : k < ls.length := by rw [HL.out]; exact hlt
   obtain ⟨b, off, rfl, hb, hc⟩ := HR.out.cells (by omega)
   obtain ⟨l, hl⟩ : ∃ l, l = ls.getD k 0 := ⟨_, rfl⟩
   have h1 : wr.cell? ⟨b, off + k, none⟩ = some (.int .i64 l) := by rw [hl]; exact (hbl.cell (by exact hb)).trans (hc _ hlt)
   have hle : Lett (j + 1) l := HLS.out l (by rw [hl]; exact getD_mem ls k hkl)
   have hpl := placeL_in (n := j + 1) hj1 (by omega) (letts_take HLS.out k)
   have HWS : Hid (Small (forgetL j (ls.take k)) ∧ ∀ z ∈ forgetL j (ls.take k), Lett j z) := Lib.hid (by
    have h := forgetL_lett (n := j + 1) hj1 (by omega) (letts_take HLS.out k)
    rw [Int.add_sub_cancel] at h
    exact ⟨small_letts h (by omega), h⟩)
   have HSF := Lib.hid (forgetL_step j ls k hkl)
   have HSP := Lib.hid (placeL_step j ls k hkl)
   have HSS := Lib.hid (strF_some hsf)
   have HDE : Hid (strF j ls (k + 1) = none → strF j ls n = none) := Lib.hid fun h => strF_dead h hlt
   rw [← hl] at HSF HSP HSS
   obtain ⟨P, hP⟩ : ∃ P, P = placeL j (ls.take k) := ⟨_, rfl⟩
   rw [← hP] at HSF HSP HSS hpl ⊢
   obtain ⟨ws, hws⟩ : ∃ ws, ws = forgetL j (ls.take k) := ⟨_, rfl⟩
   rw [← hws] at how HSF HSS HWS
   have hsml := hle.small (by omega)
   obtain ⟨M1, M2, M3⟩ := idx_max hle (by omega)
   have hcs := idx_cases l
   have hq1 := hle.1
   have hq2 := hle.2
   unfold withoutP at HSF
   unfold stepP at HSP
   obtain ⟨q, hq⟩ : ∃ q, q = idx l := ⟨_, rfl⟩
   rw [← hq] at M2 M3 hcs HSF HSP hq1 hq2
   have HOF := Lib.hid hof; have HOW := Lib.hid how; have HAP := Lib.hid hap; have HB := Lib.hid hbl; have HRD := Lib.hid hred; have HSM := Lib.hid hsm
   have hz := hbl.size
   clear hl hP hws hc hle hq hof how hap hbl hred hsm hsf
   obtain ⟨p1, p2⟩ := hpl
   obtain ⟨u1, u2⟩ := hsml
   have E1 : IntKind.i64.wrap (P - 1) = P - 1 := IntWalk.i64_in _ (by omega)
   have E2 : IntKind.i64.wrap (P + 1) = P + 1 := IntWalk.i64_in _ (by omega)
   have E3 : IntKind.i64.wrap (q - 1) = q - 1 := IntWalk.i64_in _ (by omega)
   have E4 : IntKind.i64.wrap (-P) = -P := IntWalk.i64_in _ (by omega)
   have E5 : IntKind.i64.wrap ((mw : Int) - 1) = (mw : Int) - 1 := IntWalk.i64_in _ (by omega)
   clear M2 M3
   rcases hcs with ⟨hneg, hcl, hcn⟩ | ⟨hneg, hcl, hcn⟩
   ·obtain rfl : l = -q := by omega
    have gx : -q < q := by omega
    have g1 : -q < 0 := hneg
    have g2 : ¬ (-q > 0) := by omega
    have E6 : IntKind.i64.wrap q = q := IntWalk.i64_in _ (by omega)
    rw [hcn] at HSF
    clear hcl hcn hneg M1 u1 u2
    by_cases c1 : q < P
    ·have s1 : q ≤ P - 1 := by omega
     have s2 : ¬ (q > P + 1) := by omega
     have s3 : (q == P) = false := by simp; omega
     have s4 : (q == P + 1) = false := by simp; omega
     rw [if_pos c1] at HSF
     rw [if_neg (by omega), if_neg (by omega)] at HSP
     clear c1
     have hst : strStep P ws f (-q) = some f := strStep_skip (by omega) (by omega)
     have HST := Lib.hid hst; clear hst
     have HEM := Lib.hid (OwnV.empty wr)
     have HOW0 : Hid (OwnV w.heap.size (wr.alloc (.cells #[] 2)) _ mw ws) := Lib.hid (World.ownsRow.alloc HOW.out _)
     have HOF0 : Hid (OwnV w.heap.size (wr.alloc (.cells #[] 2)) _ mf f) := Lib.hid (World.ownsRow.alloc HOF.out _)
     have HB0 := Lib.hid (HB.out.alloc hz (.cells #[] 2))
     obtain ⟨W0, hW0⟩ : ∃ W0, W0 = wr.alloc (.cells #[] 2) := ⟨_, rfl⟩
     have hz0' : w.heap.size ≤ W0.heap.size := by rw [hW0]; exact HB0.out.size
     go_wp2_with (at_builtin; refine wpList_append_own_at _ rfl _ _ 22 rfl w.heap.size 2 i0 (.int .i64 0) 1 8 Try.underlying22 hi hz0 hz1 hz2 rfl (by decide) _ _ _ rfl (World.ownsRow.alloc HOW0.out _) ⟨wr.heap.size + 1, 0, none⟩ 1 1 [.int .i64 (-q)] rfl rfl (one_new1 wr _ (-q) _) (one_cell _) (by unfold maxLen; omega) (by omega) (by simp; omega) ?_)
     intro v6 w6 hown6 hgrow6 _ hlies6
     have HOW6 := Lib.hid (OwnV.appended hown6)
     have HOF6 := Lib.hid (HOF0.out.keep hgrow6 (fun g e1 e2 => HAP.out g e2 e1))
     have HB6 := Lib.hid (below_appended HB0.out (by rw [← hW0]; exact hz0') HOW0.out hgrow6)
     have hz6 : w.heap.size ≤ w6.heap.size := HB6.out.size
     have HAP6 : Hid (Apart _ v6) := Lib.hid (fun g e1 e2 => by
      rcases hlies6 with h | h
      ·exact HAP.out g e1 (h.symm.trans e2)
      ·have h3 := HOF0.out.block_lt e1
       rw [h] at e2
       simp at e2
       simp at h3
       omega)
     have hs6 : w.heap.size + 1 < w6.heap.size := by have := hgrow6.size; simp at this; omega
     clear hown6 hgrow6 hlies6 hW0
     obtain ⟨a6, c6, rfl, _⟩ := HOW6.out.form
     have E8 : IntKind.i64.wrap ((mw : Int) + 1 - 1) = (mw : Int) := (IntWalk.i64_in _ (by omega)).trans (by omega)
     have cm : (mw : Int) ≥ 0 := by omega
     go_wp2
     refine wp_loop_rounds 1 ?_; rw [rounds_succ]
     go_wp2_with (at_builtin; refine wpList_append_ints rfl _ _ 22 rfl w.heap.size i0 Try.underlying22 hi hz0 hz1 hz2 _ mf f rfl HOF6.out _ _ _ [] rfl (Reads.zero rfl) (by omega) hz6 ?_)
     intro v' w7 hown' hgrow
     have HF7 := Lib.hid hown'
     have HW7 := Lib.hid (HOW6.out.keep5 hgrow HAP6.out)
     have HB7 := Lib.hid (below_appended5 HB6.out hz6 HOF6.out hgrow)
     have hz7 : w.heap.size ≤ w7.heap.size := HB7.out.size
     have hs7 : w.heap.size + 1 < w7.heap.size := by have := hgrow.size; omega
     clear hown' hgrow
     obtain ⟨a7, c7, rfl, ho7⟩ := HF7.out.form
     have HR7 := Lib.hid ho7.reads; clear ho7
     go_wp2_with fail
     refine (l01Free_any a7 _ c7 f _ HR7.out HSM.out (by omega)).mono ?_
     rintro e w8 ⟨a8, c8, rfl, hov, hbv⟩
     have HFN : Hid (free (f) = f) := Lib.hid (HRD.out)
     rw [HFN.out] at hov ⊢
     obtain ⟨m8, hm8⟩ : ∃ m8, m8 = (f).length := ⟨_, rfl⟩
     rw [← hm8] at hov ⊢
     have HM8 := Lib.hid hm8; clear hm8
     have HF8 : Hid (OwnV w.heap.size w8 (.slice a8 m8 c8) m8 (f)) := Lib.hid (Own.mono hov hz7)
     have HW8 := Lib.hid (HW7.out.drawn hbv)
     have HB8 := Lib.hid (below_go HB7.out hbv hz7)
     have HA8 : Hid (Apart (.slice a8 m8 c8) _) := Lib.hid (fun g e1 e2 => by
      have h1 := World.ownsRow.lt hov g e1
      have h2 := HW7.out.block_lt e2
      omega)
     have hs8 : w.heap.size + 1 < w8.heap.size := by have := hbv.size; omega
     clear hov hbv HR7
     have hm400 : m8 ≤ 400 := by rw [HM8.out]; have := HOF.out.len; omega
     go_wp2
     go_roundw
     case rel => exact ⟨k + 1, m8, mw + 1, f, by omega, hm400, by omega, by go_num, by rw [HSP.out], by rw [HSS.out]; exact HST.out, HRD.out, HSM.out, HF8.out, by rw [HSF.out]; exact HW8.out, HA8.out, HB8.out, hs8⟩
     case measure => simp [intOf]; omega
    ·have s1 : ¬ (q ≤ P - 1) := by omega
     by_cases c2 : P + 1 < q
     ·have s2 : q > P + 1 := c2
      have s3 : (q == P) = false := by simp; omega
      have s4 : (q == P + 1) = false := by simp; omega
      rw [if_neg c1, if_pos c2] at HSF
      rw [if_neg (by omega), if_neg (by omega)] at HSP
      clear c1 c2
      obtain ⟨vv, hvv⟩ : ∃ vv, vv = (q - 1) * -1 := ⟨_, rfl⟩
      rw [← hvv] at HSF
      have F1 : IntKind.i64.wrap (-1 * (q - 1)) = vv := (IntWalk.i64_in _ (by omega)).trans (by omega)
      have F2 : IntKind.i64.wrap (-(q - 1)) = vv := (IntWalk.i64_in _ (by omega)).trans (by omega)
      clear hvv
      have hst : strStep P ws f (-q) = some f := strStep_skip (by omega) (by omega)
      have HST := Lib.hid hst; clear hst
      have HEM := Lib.hid (OwnV.empty wr)
      have HOW0 : Hid (OwnV w.heap.size (wr.alloc (.cells #[] 2)) _ mw ws) := Lib.hid (World.ownsRow.alloc HOW.out _)
      have HOF0 : Hid (OwnV w.heap.size (wr.alloc (.cells #[] 2)) _ mf f) := Lib.hid (World.ownsRow.alloc HOF.out _)
      have HB0 := Lib.hid (HB.out.alloc hz (.cells #[] 2))
      obtain ⟨W0, hW0⟩ : ∃ W0, W0 = wr.alloc (.cells #[] 2) := ⟨_, rfl⟩
      have hz0' : w.heap.size ≤ W0.heap.size := by rw [hW0]; exact HB0.out.size
      go_wp2_with (at_builtin; refine wpList_append_own_at _ rfl _ _ 22 rfl w.heap.size 2 i0 (.int .i64 0) 1 8 Try.underlying22 hi hz0 hz1 hz2 rfl (by decide) _ _ _ rfl (World.ownsRow.alloc HOW0.out _) ⟨wr.heap.size + 1, 0, none⟩ 1 1 [.int .i64 vv] rfl rfl (one_new1 wr _ vv _) (one_cell _) (by unfold maxLen; omega) (by omega) (by simp; omega) ?_)
      intro v6 w6 hown6 hgrow6 _ hlies6
      have HOW6 := Lib.hid (OwnV.appended hown6)
      have HOF6 := Lib.hid (HOF0.out.keep hgrow6 (fun g e1 e2 => HAP.out g e2 e1))
      have HB6 := Lib.hid (below_appended HB0.out (by rw [← hW0]; exact hz0') HOW0.out hgrow6)
      have hz6 : w.heap.size ≤ w6.heap.size := HB6.out.size
      have HAP6 : Hid (Apart _ v6) := Lib.hid (fun g e1 e2 => by
       rcases hlies6 with h | h
       ·exact HAP.out g e1 (h.symm.trans e2)
       ·have h3 := HOF0.out.block_lt e1
        rw [h] at e2
        simp at e2
        simp at h3
        omega)
      have hs6 : w.heap.size + 1 < w6.heap.size := by have := hgrow6.size; simp at this; omega
      clear hown6 hgrow6 hlies6 hW0
      obtain ⟨a6, c6, rfl, _⟩ := HOW6.out.form
      have E8 : IntKind.i64.wrap ((mw : Int) + 1 - 1) = (mw : Int) := (IntWalk.i64_in _ (by omega)).trans (by omega)
      have cm : (mw : Int) ≥ 0 := by omega
      go_wp2
      refine wp_loop_rounds 1 ?_; rw [rounds_succ]
      go_wp2_with (at_builtin; refine wpList_append_ints rfl _ _ 22 rfl w.heap.size i0 Try.underlying22 hi hz0 hz1 hz2 _ mf f rfl HOF6.out _ _ _ [] rfl (Reads.zero rfl) (by omega) hz6 ?_)
      intro v' w7 hown' hgrow
      have HF7 := Lib.hid hown'
      have HW7 := Lib.hid (HOW6.out.keep5 hgrow HAP6.out)
      have HB7 := Lib.hid (below_appended5 HB6.out hz6 HOF6.out hgrow)
      have hz7 : w.heap.size ≤ w7.heap.size := HB7.out.size
      have hs7 : w.heap.size + 1 < w7.heap.size := by have := hgrow.size; omega
      clear hown' hgrow
      obtain ⟨a7, c7, rfl, ho7⟩ := HF7.out.form
      have HR7 := Lib.hid ho7.reads; clear ho7
      go_wp2_with fail
      refine (l01Free_any a7 _ c7 f _ HR7.out HSM.out (by omega)).mono ?_
      rintro e w8 ⟨a8, c8, rfl, hov, hbv⟩
      have HFN : Hid (free (f) = f) := Lib.hid (HRD.out)
      rw [HFN.out] at hov ⊢
      obtain ⟨m8, hm8⟩ : ∃ m8, m8 = (f).length := ⟨_, rfl⟩
      rw [← hm8] at hov ⊢
      have HM8 := Lib.hid hm8; clear hm8
      have HF8 : Hid (OwnV w.heap.size w8 (.slice a8 m8 c8) m8 (f)) := Lib.hid (Own.mono hov hz7)
      have HW8 := Lib.hid (HW7.out.drawn hbv)
      have HB8 := Lib.hid (below_go HB7.out hbv hz7)
      have HA8 : Hid (Apart (.slice a8 m8 c8) _) := Lib.hid (fun g e1 e2 => by
       have h1 := World.ownsRow.lt hov g e1
       have h2 := HW7.out.block_lt e2
       omega)
      have hs8 : w.heap.size + 1 < w8.heap.size := by have := hbv.size; omega
      clear hov hbv HR7
      have hm400 : m8 ≤ 400 := by rw [HM8.out]; have := HOF.out.len; omega
      go_wp2
      go_roundw
      case rel => exact ⟨k + 1, m8, mw + 1, f, by omega, hm400, by omega, by go_num, by rw [HSP.out], by rw [HSS.out]; exact HST.out, HRD.out, HSM.out, HF8.out, by rw [HSF.out]; exact HW8.out, HA8.out, HB8.out, hs8⟩
      case measure => simp [intOf]; omega
     ·have s2 : ¬ (q > P + 1) := c2
      rw [if_neg c1, if_neg c2] at HSF
      by_cases c3 : q = P
      ·subst c3
       have s3 : (q == q) = true := by simp
       rw [if_pos rfl] at HSP
       clear c1 c2
       obtain ⟨P, rfl⟩ : ∃ P, P = q := ⟨_, rfl⟩
       have HEM := Lib.hid (OwnV.empty wr)
       have HOW0 : Hid (OwnV w.heap.size (wr.alloc (.cells #[] 2)) _ mw ws) := Lib.hid (World.ownsRow.alloc HOW.out _)
       have HOF0 : Hid (OwnV w.heap.size (wr.alloc (.cells #[] 2)) _ mf f) := Lib.hid (World.ownsRow.alloc HOF.out _)
       have HB0 := Lib.hid (HB.out.alloc hz (.cells #[] 2))
       go_wp2_with (at_builtin; refine wpList_append_own _ rfl _ _ 22 rfl wr.heap.size 2 i0 (.int .i64 0) 1 8 Try.underlying22 hi hz0 hz1 hz2 rfl (by decide) _ _ _ rfl (World.ownsRow.alloc HEM.out _) ⟨wr.heap.size + 1, 0, none⟩ 1 1 [.int .i64 (-P)] rfl rfl (one_new1 wr _ (-P) _) (one_cell _) (by unfold maxLen; omega) (by omega) (by simp; omega) ?_)
       intro v6 w6 hown6 hgrow6 _
       have hbw : Below wr.heap.size wr w6 := below_appended ((Below.refl _ wr).alloc (Nat.le_refl _) _) (by simp) HEM.out hgrow6
       have HOW6 := Lib.hid (HOW.out.drawn hbw)
       have HOF6 := Lib.hid (HOF.out.drawn hbw)
       have HB6 := Lib.hid (below_go HB.out hbw hz)
       have hz6 : w.heap.size ≤ w6.heap.size := HB6.out.size
       have hs6 : w.heap.size + 1 < w6.heap.size := by have := hbw.size; omega
       have HV6 := Lib.hid (OwnV.appended hown6)
       clear hown6 hgrow6 hbw HEM HOW0 HOF0 HB0
       obtain ⟨a6, c6, rfl, ho6⟩ := HV6.out.form
       have HR6 := Lib.hid ho6.reads; clear ho6 HV6
       obtain ⟨aw, cw, rfl, how6⟩ := HOW6.out.form
       have HWR := Lib.hid how6.reads
       have HWL := Lib.hid how6.len
       clear how6
       go_wp2
       obtain ⟨wo, hwo⟩ : ∃ wo, wo = wr := ⟨_, rfl⟩
       subst hwo
       go_loopw [14, 15] (fun vo mv wx => ∃ (d mo : Nat) (cur : List Int) (ao : Option Addr) (co : Nat), d ≤ mw ∧ mv = .int .i64 ((mw : Int) - 1 - d) ∧ vo = .slice ao mo co ∧ mo ≤ 400 ∧ Reads wx ao mo cur ∧ Small cur ∧ actFM 400 ((inverse ws).drop d) cur = actFM 400 (inverse ws) [(-P)] ∧ Below w6.heap.size w6 wx) (fun _ mv _ => (intOf mv + 1).toNat)
       case atStart => exact ⟨0, 1, [(-P)], a6, c6, Nat.zero_le _, by simp, rfl, by omega, by simpa using HR6.out, (by intro z hz; simp at hz; omega), rfl, Below.refl _ _⟩
       case round =>
        obtain ⟨d, mo, cur, ao, co, hd, rfl, rfl, hmo, hro, hsc, hac, hbx⟩ := hrel
        have HRO := Lib.hid hro; have HSC := Lib.hid hsc; have HAC := Lib.hid hac; have HBX := Lib.hid hbx
        have hzx := hbx.size
        clear hro hsc hac hbx
        obtain ⟨wx, hwx⟩ : ∃ wx, wx = wr := ⟨_, rfl⟩
        subst hwx
        by_cases hgo : d < mw ∧ 0 < mo
        ·obtain ⟨hdm, hmo0⟩ := hgo
         have c0 : (mw : Int) - 1 - d ≥ 0 := by omega
         have c1 : (mo : Int) > 0 := by omega
         have HDR := Lib.hid (inverse_drop ws d (by rw [HWL.out]; exact hdm))
         rw [HWL.out] at HDR
         obtain ⟨y, hy⟩ : ∃ y, y = ws.getD (mw - 1 - d) 0 := ⟨_, rfl⟩
         rw [← hy] at HDR
         have hyl := HWS.out.2 y (by rw [hy]; exact getD_mem ws _ (by rw [HWL.out]; omega))
         have hyl2 := (lett_iff j y).1 hyl
         obtain ⟨bw, ow, rfl, hbw, hcw⟩ := HWR.out.cells (by omega)
         have c2 : wx.cell? ⟨bw, ow + (mw - 1 - d), none⟩ = some (.int .i64 y) := by rw [hy]; exact (HBX.out.cell hbw).trans (hcw _ (by omega))
         obtain ⟨e', he'⟩ : ∃ e' : Nat, e' = mw - 1 - d := ⟨_, rfl⟩
         rw [← he'] at c2
         have he2 : (mw : Int) - 1 - d = (e' : Int) := by omega
         have e0 : (0 : Int) ≤ (e' : Int) := by omega
         have e1 : (e' : Int) < (mw : Int) := by omega
         have e3 : IntKind.i64.wrap ((e' : Int) - 1) = (e' : Int) - 1 := IntWalk.i64_in _ (by omega)
         have HE' := Lib.hid he'
         rw [he2]
         clear hy hyl hcw he' c0
         have c0 : (e' : Int) ≥ 0 := e0
         go_wp2_with fail
         refine (l10Led_all y (by omega) (by omega) (by omega) ao mo co cur _ HRO.out HSC.out (by omega)).mono ?_
         rintro e w9 ⟨a9, c9, rfl, hov, hbv⟩
         have HAS := Lib.hid (actFM_cons 400 (-y) ((inverse ws).drop (d + 1)) cur)
         rw [← HDR.out, HAC.out] at HAS
         have HSN := Lib.hid (joinF_small [] _ (fun _ h => by cases h) (actL_small2 (-y) (by omega) (by omega) cur HSC.out))
         obtain ⟨nx, hnx⟩ : ∃ nx, nx = joinF [] (actL (-y) cur) := ⟨_, rfl⟩
         rw [← hnx] at hov HAS HSN ⊢
         obtain ⟨m9, hm9⟩ : ∃ m9, m9 = nx.length := ⟨_, rfl⟩
         rw [← hm9] at hov HAS ⊢
         have HR9 : Hid (Reads w9 a9 m9 nx) := Lib.hid (Own.reads hov)
         have HB9 := Lib.hid (below_go HBX.out hbv hzx)
         clear hnx hm9 hov hbv
         by_cases h400 : m9 ≤ 400
         ·have n4 : ¬ ((m9 : Int) > 400) := by omega
          have HAS2 := Lib.hid (HAS.out.trans (if_neg (by omega)))
          go_wp2
          refine ⟨?_, ?measure⟩
          repeat apply Exists.intro
          refine ⟨?rel, rfl⟩
          case rel => exact ⟨d + 1, m9, nx, a9, c9, by omega, by rw [show (mw : Int) - 1 - (d + 1 : Nat) = (e' : Int) - 1 by omega], rfl, h400, HR9.out, HSN.out, HAS2.out.symm, HB9.out⟩
          case measure => simp [intOf] <;> omega
         ·have n4 : ((m9 : Int) > 400) := by omega
          have HAS2 := Lib.hid (HAS.out.trans (if_pos (by omega)))
          have HSX := Lib.hid (HDE.out (by rw [HSS.out]; exact strStep_none (.inl rfl) HAS2.out))
          go_wp2
          go_ret3
          exact ⟨.inr ⟨HSX.out, rfl⟩, below_go HB6.out HB9.out hz6⟩
        ·have HLD : Hid (actFM 400 (inverse ws) [(-P)] = some cur ∧ Small cur) := Lib.hid ⟨by
          rw [← HAC.out]
          by_cases hdm : d < mw
          ·have h0 : cur = [] := List.eq_nil_of_length_eq_zero (by rw [HRO.out.len]; omega)
           rw [h0]
           exact actFM_nil 400 (by omega) _
          ·rw [List.drop_eq_nil_of_le (by rw [inverse_length, HWL.out]; omega)]
           rfl, HSC.out⟩
         have HOF9 := Lib.hid (HOF6.out.drawn HBX.out)
         have HOW9 := Lib.hid (HOW6.out.drawn HBX.out)
         have HB9 := Lib.hid (below_go HB6.out HBX.out hz6)
         have hz9 : w.heap.size ≤ wx.heap.size := HB9.out.size
         have hs9 : w.heap.size + 1 < wx.heap.size := by have := HBX.out.size; omega
         by_cases hdm : d < mw
         ·have hmo0 : mo = 0 := by omega
          have c0 : (mw : Int) - 1 - d ≥ 0 := by omega
          have c1 : ¬ ((mo : Int) > 0) := by omega
          have HM0 := Lib.hid hmo0; clear hmo0 hgo
          go_wp2_with (at_builtin; refine wpList_append_ints rfl _ _ 22 rfl w.heap.size i0 Try.underlying22 hi hz0 hz1 hz2 _ mf f rfl HOF9.out _ _ _ cur rfl HRO.out (by omega) hz9 ?_)
          intro v' w7 hown' hgrow
          have HF7 := Lib.hid hown'
          have HW7 := Lib.hid (HOW9.out.keep5 hgrow HAP.out)
          have HB7 := Lib.hid (below_appended5 HB9.out hz9 HOF9.out hgrow)
          have hz7 : w.heap.size ≤ w7.heap.size := HB7.out.size
          have hs7 : w.heap.size + 1 < w7.heap.size := by have := hgrow.size; omega
          clear hown' hgrow
          obtain ⟨a7, c7, rfl, ho7⟩ := HF7.out.form
          have HR7 := Lib.hid ho7.reads; clear ho7
          go_wp2_with fail
          refine (l01Free_any a7 _ c7 (f ++ cur) _ HR7.out (fun z hz => (List.mem_append.1 hz).elim (HSM.out z) (HLD.out.2 z)) (by omega)).mono ?_
          rintro e w8 ⟨a8, c8, rfl, hov, hbv⟩
          have HFN : Hid (free (f ++ cur) = joinF f cur) := Lib.hid ((free_join HRD.out _))
          rw [HFN.out] at hov ⊢
          obtain ⟨m8, hm8⟩ : ∃ m8, m8 = (joinF f cur).length := ⟨_, rfl⟩
          rw [← hm8] at hov ⊢
          have HM8 := Lib.hid hm8; clear hm8
          have HF8 : Hid (OwnV w.heap.size w8 (.slice a8 m8 c8) m8 (joinF f cur)) := Lib.hid (Own.mono hov hz7)
          have HW8 := Lib.hid (HW7.out.drawn hbv)
          have HB8 := Lib.hid (below_go HB7.out hbv hz7)
          have HA8 : Hid (Apart (.slice a8 m8 c8) _) := Lib.hid (fun g e1 e2 => by
           have h1 := World.ownsRow.lt hov g e1
           have h2 := HW7.out.block_lt e2
           omega)
          have hs8 : w.heap.size + 1 < w8.heap.size := by have := hbv.size; omega
          clear hov hbv HR7
          by_cases hm400 : m8 ≤ 400
          ·have hn4 : ¬ (400 < ((joinF f cur).length : Int)) := by rw [← HM8.out]; omega
           have HSX := Lib.hid (strStep_some (.inl rfl) HLD.out.1 hn4)
           go_wp2
           go_roundw
           case rel => exact ⟨k + 1, m8, mw, joinF f cur, by omega, hm400, by omega, by go_num, by rw [HSP.out], by rw [HSS.out]; exact HSX.out, HRD.out.join _, joinF_small2 _ _ HSM.out HLD.out.2, HF8.out, by rw [HSF.out, List.append_nil]; exact HW8.out, HA8.out, HB8.out, hs8⟩
           case measure => simp [intOf]; omega
          ·have hn4 : 400 < ((joinF f cur).length : Int) := by rw [← HM8.out]; omega
           have HSX := Lib.hid (HDE.out (by rw [HSS.out]; exact strStep_long (.inl rfl) HLD.out.1 hn4))
           go_wp2
           go_ret3
           exact ⟨.inr ⟨HSX.out, rfl⟩, HB8.out⟩
         ·have c0 : ¬ ((mw : Int) - 1 - d ≥ 0) := by omega
          clear hgo
          go_wp2_with (at_builtin; refine wpList_append_ints rfl _ _ 22 rfl w.heap.size i0 Try.underlying22 hi hz0 hz1 hz2 _ mf f rfl HOF9.out _ _ _ cur rfl HRO.out (by omega) hz9 ?_)
          intro v' w7 hown' hgrow
          have HF7 := Lib.hid hown'
          have HW7 := Lib.hid (HOW9.out.keep5 hgrow HAP.out)
          have HB7 := Lib.hid (below_appended5 HB9.out hz9 HOF9.out hgrow)
          have hz7 : w.heap.size ≤ w7.heap.size := HB7.out.size
          have hs7 : w.heap.size + 1 < w7.heap.size := by have := hgrow.size; omega
          clear hown' hgrow
          obtain ⟨a7, c7, rfl, ho7⟩ := HF7.out.form
          have HR7 := Lib.hid ho7.reads; clear ho7
          go_wp2_with fail
          refine (l01Free_any a7 _ c7 (f ++ cur) _ HR7.out (fun z hz => (List.mem_append.1 hz).elim (HSM.out z) (HLD.out.2 z)) (by omega)).mono ?_
          rintro e w8 ⟨a8, c8, rfl, hov, hbv⟩
          have HFN : Hid (free (f ++ cur) = joinF f cur) := Lib.hid ((free_join HRD.out _))
          rw [HFN.out] at hov ⊢
          obtain ⟨m8, hm8⟩ : ∃ m8, m8 = (joinF f cur).length := ⟨_, rfl⟩
          rw [← hm8] at hov ⊢
          have HM8 := Lib.hid hm8; clear hm8
          have HF8 : Hid (OwnV w.heap.size w8 (.slice a8 m8 c8) m8 (joinF f cur)) := Lib.hid (Own.mono hov hz7)
          have HW8 := Lib.hid (HW7.out.drawn hbv)
          have HB8 := Lib.hid (below_go HB7.out hbv hz7)
          have HA8 : Hid (Apart (.slice a8 m8 c8) _) := Lib.hid (fun g e1 e2 => by
           have h1 := World.ownsRow.lt hov g e1
           have h2 := HW7.out.block_lt e2
           omega)
          have hs8 : w.heap.size + 1 < w8.heap.size := by have := hbv.size; omega
          clear hov hbv HR7
          by_cases hm400 : m8 ≤ 400
          ·have hn4 : ¬ (400 < ((joinF f cur).length : Int)) := by rw [← HM8.out]; omega
           have HSX := Lib.hid (strStep_some (.inl rfl) HLD.out.1 hn4)
           go_wp2
           go_roundw
           case rel => exact ⟨k + 1, m8, mw, joinF f cur, by omega, hm400, by omega, by go_num, by rw [HSP.out], by rw [HSS.out]; exact HSX.out, HRD.out.join _, joinF_small2 _ _ HSM.out HLD.out.2, HF8.out, by rw [HSF.out, List.append_nil]; exact HW8.out, HA8.out, HB8.out, hs8⟩
           case measure => simp [intOf]; omega
          ·have hn4 : 400 < ((joinF f cur).length : Int) := by rw [← HM8.out]; omega
           have HSX := Lib.hid (HDE.out (by rw [HSS.out]; exact strStep_long (.inl rfl) HLD.out.1 hn4))
           go_wp2
           go_ret3
           exact ⟨.inr ⟨HSX.out, rfl⟩, HB8.out⟩
      ·have s3 : (q == P) = false := by simp [c3]
       have c4 : q = P + 1 := by omega
       have s4 : (q == P + 1) = true := by simp [c4]
       rw [if_neg c3, if_pos c4] at HSP
       have HC4 := Lib.hid c4
       have hst : strStep P ws f (-q) = some f := strStep_skip (by omega) (by omega)
       have HST := Lib.hid hst; clear hst c1 c2 c3 c4
       have HOW6 : Hid (OwnV w.heap.size (wr.alloc (.cells #[] 2)) _ mw ws) := Lib.hid (World.ownsRow.alloc HOW.out _)
       have HOF6 : Hid (OwnV w.heap.size (wr.alloc (.cells #[] 2)) _ mf f) := Lib.hid (World.ownsRow.alloc HOF.out _)
       have HB6 := Lib.hid (HB.out.alloc hz (.cells #[] 2))
       have hz6 : w.heap.size ≤ (wr.alloc (.cells #[] 2)).heap.size := HB6.out.size
       have hs6 : w.heap.size + 1 < (wr.alloc (.cells #[] 2)).heap.size := by simp; omega
       obtain ⟨a6, c6, rfl, _⟩ := HOW6.out.form
       by_cases cm : (mw : Int) - 1 ≥ 0
       all_goals
        go_wp2
        refine wp_loop_rounds 1 ?_; rw [rounds_succ]
        go_wp2_with (at_builtin; refine wpList_append_ints rfl _ _ 22 rfl w.heap.size i0 Try.underlying22 hi hz0 hz1 hz2 _ mf f rfl HOF6.out _ _ _ [] rfl (Reads.zero rfl) (by omega) hz6 ?_)
        intro v' w7 hown' hgrow
        have HF7 := Lib.hid hown'
        have HW7 := Lib.hid (HOW6.out.keep5 hgrow HAP.out)
        have HB7 := Lib.hid (below_appended5 HB6.out hz6 HOF6.out hgrow)
        have hz7 : w.heap.size ≤ w7.heap.size := HB7.out.size
        have hs7 : w.heap.size + 1 < w7.heap.size := by have := hgrow.size; omega
        clear hown' hgrow
        obtain ⟨a7, c7, rfl, ho7⟩ := HF7.out.form
        have HR7 := Lib.hid ho7.reads; clear ho7
        go_wp2_with fail
        refine (l01Free_any a7 _ c7 f _ HR7.out HSM.out (by omega)).mono ?_
        rintro e w8 ⟨a8, c8, rfl, hov, hbv⟩
        have HFN : Hid (free (f) = f) := Lib.hid (HRD.out)
        rw [HFN.out] at hov ⊢
        obtain ⟨m8, hm8⟩ : ∃ m8, m8 = (f).length := ⟨_, rfl⟩
        rw [← hm8] at hov ⊢
        have HM8 := Lib.hid hm8; clear hm8
        have HF8 : Hid (OwnV w.heap.size w8 (.slice a8 m8 c8) m8 (f)) := Lib.hid (Own.mono hov hz7)
        have HW8 := Lib.hid (HW7.out.drawn hbv)
        have HB8 := Lib.hid (below_go HB7.out hbv hz7)
        have HA8 : Hid (Apart (.slice a8 m8 c8) _) := Lib.hid (fun g e1 e2 => by
         have h1 := World.ownsRow.lt hov g e1
         have h2 := HW7.out.block_lt e2
         omega)
        have hs8 : w.heap.size + 1 < w8.heap.size := by have := hbv.size; omega
        clear hov hbv HR7
        have hm400 : m8 ≤ 400 := by rw [HM8.out]; have := HOF.out.len; omega
        go_wp2
        go_roundw
        case rel => exact ⟨k + 1, m8, mw, f, by omega, hm400, by omega, by go_num, by rw [HSP.out], by rw [HSS.out]; exact HST.out, HRD.out, HSM.out, HF8.out, by rw [HSF.out, List.append_nil]; exact HW8.out, HA8.out, HB8.out, hs8⟩
        case measure => simp [intOf]; omega
   ·obtain rfl : q = l := hcl
    have gx : ¬ (q < -q) := by omega
    have g1 : ¬ (q < 0) := hneg
    have g2 : q > 0 := by omega
    rw [hcn, Int.mul_one] at HSF
    clear hcn u1 u2
    by_cases c1 : q < P
    ·have s1 : q ≤ P - 1 := by omega
     have s2 : ¬ (q > P + 1) := by omega
     have s3 : (q == P) = false := by simp; omega
     have s4 : (q == P + 1) = false := by simp; omega
     rw [if_pos c1] at HSF
     rw [if_neg (by omega), if_neg (by omega)] at HSP
     clear c1
     have hst : strStep P ws f q = some f := strStep_skip (by omega) (by omega)
     have HST := Lib.hid hst; clear hst
     have HEM := Lib.hid (OwnV.empty wr)
     have HOW0 : Hid (OwnV w.heap.size (wr.alloc (.cells #[] 2)) _ mw ws) := Lib.hid (World.ownsRow.alloc HOW.out _)
     have HOF0 : Hid (OwnV w.heap.size (wr.alloc (.cells #[] 2)) _ mf f) := Lib.hid (World.ownsRow.alloc HOF.out _)
     have HB0 := Lib.hid (HB.out.alloc hz (.cells #[] 2))
     obtain ⟨W0, hW0⟩ : ∃ W0, W0 = wr.alloc (.cells #[] 2) := ⟨_, rfl⟩
     have hz0' : w.heap.size ≤ W0.heap.size := by rw [hW0]; exact HB0.out.size
     go_wp2_with (at_builtin; refine wpList_append_own_at _ rfl _ _ 22 rfl w.heap.size 2 i0 (.int .i64 0) 1 8 Try.underlying22 hi hz0 hz1 hz2 rfl (by decide) _ _ _ rfl (World.ownsRow.alloc HOW0.out _) ⟨wr.heap.size + 1, 0, none⟩ 1 1 [.int .i64 q] rfl rfl (one_new1 wr _ q _) (one_cell _) (by unfold maxLen; omega) (by omega) (by simp; omega) ?_)
     intro v6 w6 hown6 hgrow6 _ hlies6
     have HOW6 := Lib.hid (OwnV.appended hown6)
     have HOF6 := Lib.hid (HOF0.out.keep hgrow6 (fun g e1 e2 => HAP.out g e2 e1))
     have HB6 := Lib.hid (below_appended HB0.out (by rw [← hW0]; exact hz0') HOW0.out hgrow6)
     have hz6 : w.heap.size ≤ w6.heap.size := HB6.out.size
     have HAP6 : Hid (Apart _ v6) := Lib.hid (fun g e1 e2 => by
      rcases hlies6 with h | h
      ·exact HAP.out g e1 (h.symm.trans e2)
      ·have h3 := HOF0.out.block_lt e1
       rw [h] at e2
       simp at e2
       simp at h3
       omega)
     have hs6 : w.heap.size + 1 < w6.heap.size := by have := hgrow6.size; simp at this; omega
     clear hown6 hgrow6 hlies6 hW0
     obtain ⟨a6, c6, rfl, _⟩ := HOW6.out.form
     have E8 : IntKind.i64.wrap ((mw : Int) + 1 - 1) = (mw : Int) := (IntWalk.i64_in _ (by omega)).trans (by omega)
     have cm : (mw : Int) ≥ 0 := by omega
     go_wp2
     refine wp_loop_rounds 1 ?_; rw [rounds_succ]
     go_wp2_with (at_builtin; refine wpList_append_ints rfl _ _ 22 rfl w.heap.size i0 Try.underlying22 hi hz0 hz1 hz2 _ mf f rfl HOF6.out _ _ _ [] rfl (Reads.zero rfl) (by omega) hz6 ?_)
     intro v' w7 hown' hgrow
     have HF7 := Lib.hid hown'
     have HW7 := Lib.hid (HOW6.out.keep5 hgrow HAP6.out)
     have HB7 := Lib.hid (below_appended5 HB6.out hz6 HOF6.out hgrow)
     have hz7 : w.heap.size ≤ w7.heap.size := HB7.out.size
     have hs7 : w.heap.size + 1 < w7.heap.size := by have := hgrow.size; omega
     clear hown' hgrow
     obtain ⟨a7, c7, rfl, ho7⟩ := HF7.out.form
     have HR7 := Lib.hid ho7.reads; clear ho7
     go_wp2_with fail
     refine (l01Free_any a7 _ c7 f _ HR7.out HSM.out (by omega)).mono ?_
     rintro e w8 ⟨a8, c8, rfl, hov, hbv⟩
     have HFN : Hid (free (f) = f) := Lib.hid (HRD.out)
     rw [HFN.out] at hov ⊢
     obtain ⟨m8, hm8⟩ : ∃ m8, m8 = (f).length := ⟨_, rfl⟩
     rw [← hm8] at hov ⊢
     have HM8 := Lib.hid hm8; clear hm8
     have HF8 : Hid (OwnV w.heap.size w8 (.slice a8 m8 c8) m8 (f)) := Lib.hid (Own.mono hov hz7)
     have HW8 := Lib.hid (HW7.out.drawn hbv)
     have HB8 := Lib.hid (below_go HB7.out hbv hz7)
     have HA8 : Hid (Apart (.slice a8 m8 c8) _) := Lib.hid (fun g e1 e2 => by
      have h1 := World.ownsRow.lt hov g e1
      have h2 := HW7.out.block_lt e2
      omega)
     have hs8 : w.heap.size + 1 < w8.heap.size := by have := hbv.size; omega
     clear hov hbv HR7
     have hm400 : m8 ≤ 400 := by rw [HM8.out]; have := HOF.out.len; omega
     go_wp2
     go_roundw
     case rel => exact ⟨k + 1, m8, mw + 1, f, by omega, hm400, by omega, by go_num, by rw [HSP.out], by rw [HSS.out]; exact HST.out, HRD.out, HSM.out, HF8.out, by rw [HSF.out]; exact HW8.out, HA8.out, HB8.out, hs8⟩
     case measure => simp [intOf]; omega
    ·have s1 : ¬ (q ≤ P - 1) := by omega
     by_cases c2 : P + 1 < q
     ·have s2 : q > P + 1 := c2
      have s3 : (q == P) = false := by simp; omega
      have s4 : (q == P + 1) = false := by simp; omega
      rw [if_neg c1, if_pos c2] at HSF
      rw [if_neg (by omega), if_neg (by omega)] at HSP
      clear c1 c2
      have hst : strStep P ws f q = some f := strStep_skip (by omega) (by omega)
      have HST := Lib.hid hst; clear hst
      have HEM := Lib.hid (OwnV.empty wr)
      have HOW0 : Hid (OwnV w.heap.size (wr.alloc (.cells #[] 2)) _ mw ws) := Lib.hid (World.ownsRow.alloc HOW.out _)
      have HOF0 : Hid (OwnV w.heap.size (wr.alloc (.cells #[] 2)) _ mf f) := Lib.hid (World.ownsRow.alloc HOF.out _)
      have HB0 := Lib.hid (HB.out.alloc hz (.cells #[] 2))
      obtain ⟨W0, hW0⟩ : ∃ W0, W0 = wr.alloc (.cells #[] 2) := ⟨_, rfl⟩
      have hz0' : w.heap.size ≤ W0.heap.size := by rw [hW0]; exact HB0.out.size
      go_wp2_with (at_builtin; refine wpList_append_own_at _ rfl _ _ 22 rfl w.heap.size 2 i0 (.int .i64 0) 1 8 Try.underlying22 hi hz0 hz1 hz2 rfl (by decide) _ _ _ rfl (World.ownsRow.alloc HOW0.out _) ⟨wr.heap.size + 1, 0, none⟩ 1 1 [.int .i64 (q - 1)] rfl rfl (one_new1 wr _ (q - 1) _) (one_cell _) (by unfold maxLen; omega) (by omega) (by simp; omega) ?_)
      intro v6 w6 hown6 hgrow6 _ hlies6
      have HOW6 := Lib.hid (OwnV.appended hown6)
      have HOF6 := Lib.hid (HOF0.out.keep hgrow6 (fun g e1 e2 => HAP.out g e2 e1))
      have HB6 := Lib.hid (below_appended HB0.out (by rw [← hW0]; exact hz0') HOW0.out hgrow6)
      have hz6 : w.heap.size ≤ w6.heap.size := HB6.out.size
      have HAP6 : Hid (Apart _ v6) := Lib.hid (fun g e1 e2 => by
       rcases hlies6 with h | h
       ·exact HAP.out g e1 (h.symm.trans e2)
       ·have h3 := HOF0.out.block_lt e1
        rw [h] at e2
        simp at e2
        simp at h3
        omega)
      have hs6 : w.heap.size + 1 < w6.heap.size := by have := hgrow6.size; simp at this; omega
      clear hown6 hgrow6 hlies6 hW0
      obtain ⟨a6, c6, rfl, _⟩ := HOW6.out.form
      have E8 : IntKind.i64.wrap ((mw : Int) + 1 - 1) = (mw : Int) := (IntWalk.i64_in _ (by omega)).trans (by omega)
      have cm : (mw : Int) ≥ 0 := by omega
      go_wp2
      refine wp_loop_rounds 1 ?_; rw [rounds_succ]
      go_wp2_with (at_builtin; refine wpList_append_ints rfl _ _ 22 rfl w.heap.size i0 Try.underlying22 hi hz0 hz1 hz2 _ mf f rfl HOF6.out _ _ _ [] rfl (Reads.zero rfl) (by omega) hz6 ?_)
      intro v' w7 hown' hgrow
      have HF7 := Lib.hid hown'
      have HW7 := Lib.hid (HOW6.out.keep5 hgrow HAP6.out)
      have HB7 := Lib.hid (below_appended5 HB6.out hz6 HOF6.out hgrow)
      have hz7 : w.heap.size ≤ w7.heap.size := HB7.out.size
      have hs7 : w.heap.size + 1 < w7.heap.size := by have := hgrow.size; omega
      clear hown' hgrow
      obtain ⟨a7, c7, rfl, ho7⟩ := HF7.out.form
      have HR7 := Lib.hid ho7.reads; clear ho7
      go_wp2_with fail
      refine (l01Free_any a7 _ c7 f _ HR7.out HSM.out (by omega)).mono ?_
      rintro e w8 ⟨a8, c8, rfl, hov, hbv⟩
      have HFN : Hid (free (f) = f) := Lib.hid (HRD.out)
      rw [HFN.out] at hov ⊢
      obtain ⟨m8, hm8⟩ : ∃ m8, m8 = (f).length := ⟨_, rfl⟩
      rw [← hm8] at hov ⊢
      have HM8 := Lib.hid hm8; clear hm8
      have HF8 : Hid (OwnV w.heap.size w8 (.slice a8 m8 c8) m8 (f)) := Lib.hid (Own.mono hov hz7)
      have HW8 := Lib.hid (HW7.out.drawn hbv)
      have HB8 := Lib.hid (below_go HB7.out hbv hz7)
      have HA8 : Hid (Apart (.slice a8 m8 c8) _) := Lib.hid (fun g e1 e2 => by
       have h1 := World.ownsRow.lt hov g e1
       have h2 := HW7.out.block_lt e2
       omega)
      have hs8 : w.heap.size + 1 < w8.heap.size := by have := hbv.size; omega
      clear hov hbv HR7
      have hm400 : m8 ≤ 400 := by rw [HM8.out]; have := HOF.out.len; omega
      go_wp2
      go_roundw
      case rel => exact ⟨k + 1, m8, mw + 1, f, by omega, hm400, by omega, by go_num, by rw [HSP.out], by rw [HSS.out]; exact HST.out, HRD.out, HSM.out, HF8.out, by rw [HSF.out]; exact HW8.out, HA8.out, HB8.out, hs8⟩
      case measure => simp [intOf]; omega
     ·have s2 : ¬ (q > P + 1) := c2
      rw [if_neg c1, if_neg c2] at HSF
      by_cases c3 : q = P
      ·have s3 : (q == P) = true := by simp [c3]
       have s4 : (q == P + 1) = false := by simp; omega
       rw [if_pos c3] at HSP
       have HC3 := Lib.hid c3
       have hst : strStep P ws f q = some f := strStep_skip (by omega) (by omega)
       have HST := Lib.hid hst; clear hst c1 c2 c3
       have HOW6 : Hid (OwnV w.heap.size (wr.alloc (.cells #[] 2)) _ mw ws) := Lib.hid (World.ownsRow.alloc HOW.out _)
       have HOF6 : Hid (OwnV w.heap.size (wr.alloc (.cells #[] 2)) _ mf f) := Lib.hid (World.ownsRow.alloc HOF.out _)
       have HB6 := Lib.hid (HB.out.alloc hz (.cells #[] 2))
       have hz6 : w.heap.size ≤ (wr.alloc (.cells #[] 2)).heap.size := HB6.out.size
       have hs6 : w.heap.size + 1 < (wr.alloc (.cells #[] 2)).heap.size := by simp; omega
       obtain ⟨a6, c6, rfl, _⟩ := HOW6.out.form
       by_cases cm : (mw : Int) - 1 ≥ 0
       all_goals
        go_wp2
        refine wp_loop_rounds 1 ?_; rw [rounds_succ]
        go_wp2_with (at_builtin; refine wpList_append_ints rfl _ _ 22 rfl w.heap.size i0 Try.underlying22 hi hz0 hz1 hz2 _ mf f rfl HOF6.out _ _ _ [] rfl (Reads.zero rfl) (by omega) hz6 ?_)
        intro v' w7 hown' hgrow
        have HF7 := Lib.hid hown'
        have HW7 := Lib.hid (HOW6.out.keep5 hgrow HAP.out)
        have HB7 := Lib.hid (below_appended5 HB6.out hz6 HOF6.out hgrow)
        have hz7 : w.heap.size ≤ w7.heap.size := HB7.out.size
        have hs7 : w.heap.size + 1 < w7.heap.size := by have := hgrow.size; omega
        clear hown' hgrow
        obtain ⟨a7, c7, rfl, ho7⟩ := HF7.out.form
        have HR7 := Lib.hid ho7.reads; clear ho7
        go_wp2_with fail
        refine (l01Free_any a7 _ c7 f _ HR7.out HSM.out (by omega)).mono ?_
        rintro e w8 ⟨a8, c8, rfl, hov, hbv⟩
        have HFN : Hid (free (f) = f) := Lib.hid (HRD.out)
        rw [HFN.out] at hov ⊢
        obtain ⟨m8, hm8⟩ : ∃ m8, m8 = (f).length := ⟨_, rfl⟩
        rw [← hm8] at hov ⊢
        have HM8 := Lib.hid hm8; clear hm8
        have HF8 : Hid (OwnV w.heap.size w8 (.slice a8 m8 c8) m8 (f)) := Lib.hid (Own.mono hov hz7)
        have HW8 := Lib.hid (HW7.out.drawn hbv)
        have HB8 := Lib.hid (below_go HB7.out hbv hz7)
        have HA8 : Hid (Apart (.slice a8 m8 c8) _) := Lib.hid (fun g e1 e2 => by
         have h1 := World.ownsRow.lt hov g e1
         have h2 := HW7.out.block_lt e2
         omega)
        have hs8 : w.heap.size + 1 < w8.heap.size := by have := hbv.size; omega
        clear hov hbv HR7
        have hm400 : m8 ≤ 400 := by rw [HM8.out]; have := HOF.out.len; omega
        go_wp2
        go_roundw
        case rel => exact ⟨k + 1, m8, mw, f, by omega, hm400, by omega, by go_num, by rw [HSP.out], by rw [HSS.out]; exact HST.out, HRD.out, HSM.out, HF8.out, by rw [HSF.out, List.append_nil]; exact HW8.out, HA8.out, HB8.out, hs8⟩
        case measure => simp [intOf]; omega
      ·have s3 : (q == P) = false := by simp [c3]
       have c4 : q = P + 1 := by omega
       have s4 : (q == P + 1) = true := by simp [c4]
       rw [if_neg c3, if_pos c4] at HSP
       subst c4
       clear c1 c2 c3
       have HEM := Lib.hid (OwnV.empty wr)
       have HOW0 : Hid (OwnV w.heap.size (wr.alloc (.cells #[] 2)) _ mw ws) := Lib.hid (World.ownsRow.alloc HOW.out _)
       have HOF0 : Hid (OwnV w.heap.size (wr.alloc (.cells #[] 2)) _ mf f) := Lib.hid (World.ownsRow.alloc HOF.out _)
       have HB0 := Lib.hid (HB.out.alloc hz (.cells #[] 2))
       go_wp2_with (at_builtin; refine wpList_append_own _ rfl _ _ 22 rfl wr.heap.size 2 i0 (.int .i64 0) 1 8 Try.underlying22 hi hz0 hz1 hz2 rfl (by decide) _ _ _ rfl (World.ownsRow.alloc HEM.out _) ⟨wr.heap.size + 1, 0, none⟩ 1 1 [.int .i64 (P + 1)] rfl rfl (one_new1 wr _ (P + 1) _) (one_cell _) (by unfold maxLen; omega) (by omega) (by simp; omega) ?_)
       intro v6 w6 hown6 hgrow6 _
       have hbw : Below wr.heap.size wr w6 := below_appended ((Below.refl _ wr).alloc (Nat.le_refl _) _) (by simp) HEM.out hgrow6
       have HOW6 := Lib.hid (HOW.out.drawn hbw)
       have HOF6 := Lib.hid (HOF.out.drawn hbw)
       have HB6 := Lib.hid (below_go HB.out hbw hz)
       have hz6 : w.heap.size ≤ w6.heap.size := HB6.out.size
       have hs6 : w.heap.size + 1 < w6.heap.size := by have := hbw.size; omega
       have HV6 := Lib.hid (OwnV.appended hown6)
       clear hown6 hgrow6 hbw HEM HOW0 HOF0 HB0
       obtain ⟨a6, c6, rfl, ho6⟩ := HV6.out.form
       have HR6 := Lib.hid ho6.reads; clear ho6 HV6
       obtain ⟨aw, cw, rfl, how6⟩ := HOW6.out.form
       have HWR := Lib.hid how6.reads
       have HWL := Lib.hid how6.len
       clear how6
       go_wp2
       obtain ⟨wo, hwo⟩ : ∃ wo, wo = wr := ⟨_, rfl⟩
       subst hwo
       go_loopw [14, 15] (fun vo mv wx => ∃ (d mo : Nat) (cur : List Int) (ao : Option Addr) (co : Nat), d ≤ mw ∧ mv = .int .i64 ((mw : Int) - 1 - d) ∧ vo = .slice ao mo co ∧ mo ≤ 400 ∧ Reads wx ao mo cur ∧ Small cur ∧ actFM 400 ((inverse ws).drop d) cur = actFM 400 (inverse ws) [(P + 1)] ∧ Below w6.heap.size w6 wx) (fun _ mv _ => (intOf mv + 1).toNat)
       case atStart => exact ⟨0, 1, [(P + 1)], a6, c6, Nat.zero_le _, by simp, rfl, by omega, by simpa using HR6.out, (by intro z hz; simp at hz; omega), rfl, Below.refl _ _⟩
       case round =>
        obtain ⟨d, mo, cur, ao, co, hd, rfl, rfl, hmo, hro, hsc, hac, hbx⟩ := hrel
        have HRO := Lib.hid hro; have HSC := Lib.hid hsc; have HAC := Lib.hid hac; have HBX := Lib.hid hbx
        have hzx := hbx.size
        clear hro hsc hac hbx
        obtain ⟨wx, hwx⟩ : ∃ wx, wx = wr := ⟨_, rfl⟩
        subst hwx
        by_cases hgo : d < mw ∧ 0 < mo
        ·obtain ⟨hdm, hmo0⟩ := hgo
         have c0 : (mw : Int) - 1 - d ≥ 0 := by omega
         have c1 : (mo : Int) > 0 := by omega
         have HDR := Lib.hid (inverse_drop ws d (by rw [HWL.out]; exact hdm))
         rw [HWL.out] at HDR
         obtain ⟨y, hy⟩ : ∃ y, y = ws.getD (mw - 1 - d) 0 := ⟨_, rfl⟩
         rw [← hy] at HDR
         have hyl := HWS.out.2 y (by rw [hy]; exact getD_mem ws _ (by rw [HWL.out]; omega))
         have hyl2 := (lett_iff j y).1 hyl
         obtain ⟨bw, ow, rfl, hbw, hcw⟩ := HWR.out.cells (by omega)
         have c2 : wx.cell? ⟨bw, ow + (mw - 1 - d), none⟩ = some (.int .i64 y) := by rw [hy]; exact (HBX.out.cell hbw).trans (hcw _ (by omega))
         obtain ⟨e', he'⟩ : ∃ e' : Nat, e' = mw - 1 - d := ⟨_, rfl⟩
         rw [← he'] at c2
         have he2 : (mw : Int) - 1 - d = (e' : Int) := by omega
         have e0 : (0 : Int) ≤ (e' : Int) := by omega
         have e1 : (e' : Int) < (mw : Int) := by omega
         have e3 : IntKind.i64.wrap ((e' : Int) - 1) = (e' : Int) - 1 := IntWalk.i64_in _ (by omega)
         have HE' := Lib.hid he'
         rw [he2]
         clear hy hyl hcw he' c0
         have c0 : (e' : Int) ≥ 0 := e0
         go_wp2_with fail
         refine (l10Led_all y (by omega) (by omega) (by omega) ao mo co cur _ HRO.out HSC.out (by omega)).mono ?_
         rintro e w9 ⟨a9, c9, rfl, hov, hbv⟩
         have HAS := Lib.hid (actFM_cons 400 (-y) ((inverse ws).drop (d + 1)) cur)
         rw [← HDR.out, HAC.out] at HAS
         have HSN := Lib.hid (joinF_small [] _ (fun _ h => by cases h) (actL_small2 (-y) (by omega) (by omega) cur HSC.out))
         obtain ⟨nx, hnx⟩ : ∃ nx, nx = joinF [] (actL (-y) cur) := ⟨_, rfl⟩
         rw [← hnx] at hov HAS HSN ⊢
         obtain ⟨m9, hm9⟩ : ∃ m9, m9 = nx.length := ⟨_, rfl⟩
         rw [← hm9] at hov HAS ⊢
         have HR9 : Hid (Reads w9 a9 m9 nx) := Lib.hid (Own.reads hov)
         have HB9 := Lib.hid (below_go HBX.out hbv hzx)
         clear hnx hm9 hov hbv
         by_cases h400 : m9 ≤ 400
         ·have n4 : ¬ ((m9 : Int) > 400) := by omega
          have HAS2 := Lib.hid (HAS.out.trans (if_neg (by omega)))
          go_wp2
          refine ⟨?_, ?measure⟩
          repeat apply Exists.intro
          refine ⟨?rel, rfl⟩
          case rel => exact ⟨d + 1, m9, nx, a9, c9, by omega, by rw [show (mw : Int) - 1 - (d + 1 : Nat) = (e' : Int) - 1 by omega], rfl, h400, HR9.out, HSN.out, HAS2.out.symm, HB9.out⟩
          case measure => simp [intOf] <;> omega
         ·have n4 : ((m9 : Int) > 400) := by omega
          have HAS2 := Lib.hid (HAS.out.trans (if_pos (by omega)))
          have HSX := Lib.hid (HDE.out (by rw [HSS.out]; exact strStep_none (.inr rfl) HAS2.out))
          go_wp2
          go_ret3
          exact ⟨.inr ⟨HSX.out, rfl⟩, below_go HB6.out HB9.out hz6⟩
        ·have HLD : Hid (actFM 400 (inverse ws) [(P + 1)] = some cur ∧ Small cur) := Lib.hid ⟨by
          rw [← HAC.out]
          by_cases hdm : d < mw
          ·have h0 : cur = [] := List.eq_nil_of_length_eq_zero (by rw [HRO.out.len]; omega)
           rw [h0]
           exact actFM_nil 400 (by omega) _
          ·rw [List.drop_eq_nil_of_le (by rw [inverse_length, HWL.out]; omega)]
           rfl, HSC.out⟩
         have HOF9 := Lib.hid (HOF6.out.drawn HBX.out)
         have HOW9 := Lib.hid (HOW6.out.drawn HBX.out)
         have HB9 := Lib.hid (below_go HB6.out HBX.out hz6)
         have hz9 : w.heap.size ≤ wx.heap.size := HB9.out.size
         have hs9 : w.heap.size + 1 < wx.heap.size := by have := HBX.out.size; omega
         by_cases hdm : d < mw
         ·have hmo0 : mo = 0 := by omega
          have c0 : (mw : Int) - 1 - d ≥ 0 := by omega
          have c1 : ¬ ((mo : Int) > 0) := by omega
          have HM0 := Lib.hid hmo0; clear hmo0 hgo
          go_wp2_with (at_builtin; refine wpList_append_ints rfl _ _ 22 rfl w.heap.size i0 Try.underlying22 hi hz0 hz1 hz2 _ mf f rfl HOF9.out _ _ _ cur rfl HRO.out (by omega) hz9 ?_)
          intro v' w7 hown' hgrow
          have HF7 := Lib.hid hown'
          have HW7 := Lib.hid (HOW9.out.keep5 hgrow HAP.out)
          have HB7 := Lib.hid (below_appended5 HB9.out hz9 HOF9.out hgrow)
          have hz7 : w.heap.size ≤ w7.heap.size := HB7.out.size
          have hs7 : w.heap.size + 1 < w7.heap.size := by have := hgrow.size; omega
          clear hown' hgrow
          obtain ⟨a7, c7, rfl, ho7⟩ := HF7.out.form
          have HR7 := Lib.hid ho7.reads; clear ho7
          go_wp2_with fail
          refine (l01Free_any a7 _ c7 (f ++ cur) _ HR7.out (fun z hz => (List.mem_append.1 hz).elim (HSM.out z) (HLD.out.2 z)) (by omega)).mono ?_
          rintro e w8 ⟨a8, c8, rfl, hov, hbv⟩
          have HFN : Hid (free (f ++ cur) = joinF f cur) := Lib.hid ((free_join HRD.out _))
          rw [HFN.out] at hov ⊢
          obtain ⟨m8, hm8⟩ : ∃ m8, m8 = (joinF f cur).length := ⟨_, rfl⟩
          rw [← hm8] at hov ⊢
          have HM8 := Lib.hid hm8; clear hm8
          have HF8 : Hid (OwnV w.heap.size w8 (.slice a8 m8 c8) m8 (joinF f cur)) := Lib.hid (Own.mono hov hz7)
          have HW8 := Lib.hid (HW7.out.drawn hbv)
          have HB8 := Lib.hid (below_go HB7.out hbv hz7)
          have HA8 : Hid (Apart (.slice a8 m8 c8) _) := Lib.hid (fun g e1 e2 => by
           have h1 := World.ownsRow.lt hov g e1
           have h2 := HW7.out.block_lt e2
           omega)
          have hs8 : w.heap.size + 1 < w8.heap.size := by have := hbv.size; omega
          clear hov hbv HR7
          by_cases hm400 : m8 ≤ 400
          ·have hn4 : ¬ (400 < ((joinF f cur).length : Int)) := by rw [← HM8.out]; omega
           have HSX := Lib.hid (strStep_some (.inr rfl) HLD.out.1 hn4)
           go_wp2
           go_roundw
           case rel => exact ⟨k + 1, m8, mw, joinF f cur, by omega, hm400, by omega, by go_num, by rw [HSP.out], by rw [HSS.out]; exact HSX.out, HRD.out.join _, joinF_small2 _ _ HSM.out HLD.out.2, HF8.out, by rw [HSF.out, List.append_nil]; exact HW8.out, HA8.out, HB8.out, hs8⟩
           case measure => simp [intOf]; omega
          ·have hn4 : 400 < ((joinF f cur).length : Int) := by rw [← HM8.out]; omega
           have HSX := Lib.hid (HDE.out (by rw [HSS.out]; exact strStep_long (.inr rfl) HLD.out.1 hn4))
           go_wp2
           go_ret3
           exact ⟨.inr ⟨HSX.out, rfl⟩, HB8.out⟩
         ·have c0 : ¬ ((mw : Int) - 1 - d ≥ 0) := by omega
          clear hgo
          go_wp2_with (at_builtin; refine wpList_append_ints rfl _ _ 22 rfl w.heap.size i0 Try.underlying22 hi hz0 hz1 hz2 _ mf f rfl HOF9.out _ _ _ cur rfl HRO.out (by omega) hz9 ?_)
          intro v' w7 hown' hgrow
          have HF7 := Lib.hid hown'
          have HW7 := Lib.hid (HOW9.out.keep5 hgrow HAP.out)
          have HB7 := Lib.hid (below_appended5 HB9.out hz9 HOF9.out hgrow)
          have hz7 : w.heap.size ≤ w7.heap.size := HB7.out.size
          have hs7 : w.heap.size + 1 < w7.heap.size := by have := hgrow.size; omega
          clear hown' hgrow
          obtain ⟨a7, c7, rfl, ho7⟩ := HF7.out.form
          have HR7 := Lib.hid ho7.reads; clear ho7
          go_wp2_with fail
          refine (l01Free_any a7 _ c7 (f ++ cur) _ HR7.out (fun z hz => (List.mem_append.1 hz).elim (HSM.out z) (HLD.out.2 z)) (by omega)).mono ?_
          rintro e w8 ⟨a8, c8, rfl, hov, hbv⟩
          have HFN : Hid (free (f ++ cur) = joinF f cur) := Lib.hid ((free_join HRD.out _))
          rw [HFN.out] at hov ⊢
          obtain ⟨m8, hm8⟩ : ∃ m8, m8 = (joinF f cur).length := ⟨_, rfl⟩
          rw [← hm8] at hov ⊢
          have HM8 := Lib.hid hm8; clear hm8
          have HF8 : Hid (OwnV w.heap.size w8 (.slice a8 m8 c8) m8 (joinF f cur)) := Lib.hid (Own.mono hov hz7)
          have HW8 := Lib.hid (HW7.out.drawn hbv)
          have HB8 := Lib.hid (below_go HB7.out hbv hz7)
          have HA8 : Hid (Apart (.slice a8 m8 c8) _) := Lib.hid (fun g e1 e2 => by
           have h1 := World.ownsRow.lt hov g e1
           have h2 := HW7.out.block_lt e2
           omega)
          have hs8 : w.heap.size + 1 < w8.heap.size := by have := hbv.size; omega
          clear hov hbv HR7
          by_cases hm400 : m8 ≤ 400
          ·have hn4 : ¬ (400 < ((joinF f cur).length : Int)) := by rw [← HM8.out]; omega
           have HSX := Lib.hid (strStep_some (.inr rfl) HLD.out.1 hn4)
           go_wp2
           go_roundw
           case rel => exact ⟨k + 1, m8, mw, joinF f cur, by omega, hm400, by omega, by go_num, by rw [HSP.out], by rw [HSS.out]; exact HSX.out, HRD.out.join _, joinF_small2 _ _ HSM.out HLD.out.2, HF8.out, by rw [HSF.out, List.append_nil]; exact HW8.out, HA8.out, HB8.out, hs8⟩
           case measure => simp [intOf]; omega
          ·have hn4 : 400 < ((joinF f cur).length : Int) := by rw [← HM8.out]; omega
           have HSX := Lib.hid (HDE.out (by rw [HSS.out]; exact strStep_long (.inr rfl) HLD.out.1 hn4))
           go_wp2
           go_ret3
           exact ⟨.inr ⟨HSX.out, rfl⟩, HB8.out⟩
  ·have hkn : k = n := by omega
   have HK := Lib.hid hkn
   have HT : Hid (forgetL j (ls.take k) = forgetL j ls) := Lib.hid (by rw [hkn, List.take_of_length_le (by rw [HL.out]; omega)])
   rw [HT.out] at how
   rw [hkn] at hsf
   obtain ⟨a2, c2, rfl, ho2⟩ := hof.form
   obtain ⟨a3, c3, rfl, ho3⟩ := how.form
   have HSF := Lib.hid hsf; have HSM := Lib.hid hsm; have HO2 := Lib.hid ho2; have HO3 := Lib.hid ho3; have HB := Lib.hid hbl
   clear hof how ho2 ho3 hbl hap hred hsf hsm hkn
   go_wp2
   go_ret3
   exact ⟨.inl ⟨f, a2, mf, c2, a3, mw, c3, HSF.out, rfl, hmf, by omega, hzz, HSM.out, HO2.out, HO3.out⟩, HB.out⟩

end Go.Proofs.Ytehcbamfendbaaa

