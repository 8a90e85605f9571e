/- The program: the product of two normal forms. -/
import Derived.Test.YtpkhddndapcpjaaIpITrd
import Derived.Test.YtpkhddndapcpjaaIpIThn
import Derived.Test.YtpkhddndapcpjaaIpPB
namespace Go.Proofs.Ytpkhddndapcpjaa
open Go.RowKit Go.ChangeShapes

theorem nl_two {m : Nat} {l : List (List Int)} (h1 : 1 ≤ m) (h : Nl m l) {j : Nat} (hj : j < l.length) : 1 < m := by
 rcases Nat.lt_or_ge 1 m with h2 | h2
 ·exact h2
 ·exfalso
  obtain rfl : m = 1 := by omega
  have hx := rowAt_getElem hj
  exact h.n1 _ hx (pre_one (h.sims _ hx) fun i j hij hj _ => by omega)

structure AtTms (w wx : World) (m : Nat) (p q : Int) (a b : Option Addr) (n cap nb capb gb c : Nat) (rows : List (List Int)) (len : Nat) : Prop where
 box : At3 wx w.heap.size (.int .i64 m) (.int .i64 p) (.slice a n cap)
 box2 : At3 wx (w.heap.size + 1) (.int .i64 m) (.int .i64 q) (.slice b nb capb)
 res : At3 wx (w.heap.size + 1 + 1) (.int .i64 0) (.int .i64 0) (.slice none 0 0)
 own : OwnA (w.heap.size + 1 + 1 + 1) wx (some ⟨gb, 0, none⟩) len c rows
 bel : Below w.heap.size w wx
 lo : w.heap.size + 1 + 1 + 1 ≤ gb
 hi : gb < wx.heap.size

theorem AtTms.below {w wx W : World} {m : Nat} {p q : Int} {a b : Option Addr} {n cap nb capb gb c len : Nat} {rows : List (List Int)} (h : AtTms w wx m p q a b n cap nb capb gb c rows len) (k : Below wx.heap.size wx W) : AtTms w W m p q a b n cap nb capb gb c rows len :=
 ⟨h.box.below k, h.box2.below k, h.res.below k, h.own.below k, h.bel.trans (k.mono h.bel.size), h.lo, Nat.lt_of_lt_of_le h.hi k.size⟩

theorem AtTms.store {w wx : World} {m : Nat} {p q : Int} {a b : Option Addr} {n cap nb capb gb c len : Nat} {rows : List (List Int)} (h : AtTms w wx m p q a b n cap nb capb gb c rows len) (j : Nat) (hj : j < len) (r : List Int) (hr : r.length = 8) :
  AtTms w ((((((((wx.setCell ⟨gb, j * 8, none⟩ (.int .u8 (at8 r 0))).setCell ⟨gb, j * 8 + 1, none⟩ (.int .u8 (at8 r 1))).setCell ⟨gb, j * 8 + 2, none⟩ (.int .u8 (at8 r 2))).setCell ⟨gb, j * 8 + 3, none⟩ (.int .u8 (at8 r 3))).setCell ⟨gb, j * 8 + 4, none⟩ (.int .u8 (at8 r 4))).setCell ⟨gb, j * 8 + 5, none⟩ (.int .u8 (at8 r 5))).setCell ⟨gb, j * 8 + 6, none⟩ (.int .u8 (at8 r 6))).setCell ⟨gb, j * 8 + 7, none⟩ (.int .u8 (at8 r 7))) m p q a b n cap nb capb gb c (rows.set j r) len :=
 have hlo := h.lo
 ⟨h.box.set8 (by omega) _ _ _ _ _ _ _ _, h.box2.set8 (by omega) _ _ _ _ _ _ _ _, h.res.set8 (by omega) _ _ _ _ _ _ _ _, h.own.store j hj r hr, below_fill8a h.bel gb (by omega) _ _ _ _ _ _ _ _ _, h.lo, by have := h.hi; simpa [World.setCell] using this⟩

/-- The product as it grows. -/
structure AtTm2 (w wx : World) (m : Nat) (q : Int) (b : Option Addr) (nb capb gp : Nat) (k : Int) (ak : Option Addr) (nk ck : Nat) (lk : List (List Int)) : Prop where
 box2 : At3 wx (w.heap.size + 1) (.int .i64 m) (.int .i64 q) (.slice b nb capb)
 res : At3 wx (w.heap.size + 1 + 1) (.int .i64 0) (.int .i64 0) (.slice none 0 0)
 pr : At3 wx gp (.int .i64 m) (.int .i64 k) (.slice ak nk ck)
 own : OwnS (w.heap.size + 1 + 1 + 1) wx ak nk lk
 apart : nk = 0 ∨ ∀ x, ak = some x → x.block ≠ gp
 bel : Below w.heap.size w wx
 lo : w.heap.size + 1 + 1 + 1 ≤ gp

theorem AtTm2.below {w wx W : World} {m : Nat} {q : Int} {b : Option Addr} {nb capb gp : Nat} {k : Int} {ak : Option Addr} {nk ck : Nat} {lk : List (List Int)} (h : AtTm2 w wx m q b nb capb gp k ak nk ck lk) (k2 : Below wx.heap.size wx W) : AtTm2 w W m q b nb capb gp k ak nk ck lk :=
 ⟨h.box2.below k2, h.res.below k2, h.pr.below k2, h.own.below k2, h.apart, h.bel.trans (k2.mono h.bel.size), h.lo⟩

theorem OwnS.past3 {B : Nat} {w : World} {a : Option Addr} {n g : Nat} {rs : List (List Int)} (h : OwnS B w a n rs) (hne : n = 0 ∨ ∀ x, a = some x → x.block ≠ g) (u v x : Value) : OwnS B (((w.setCell ⟨g, 0, none⟩ u).setCell ⟨g, 1, none⟩ v).setCell ⟨g, 2, none⟩ x) a n rs := by
 rcases hne with h0 | hne
 ·subst h0
  exact ⟨h.1, h.2.1, .inl rfl⟩
 ·refine h.heap (by simp [World.setCell]) fun y hy _ _ => ?_
  have h1 := hne y hy
  rw [Below.heap_setCell _ _ _ _ h1, Below.heap_setCell _ _ _ _ h1, Below.heap_setCell _ _ _ _ h1]

/-- What a call made lies apart from what was there. -/
theorem OwnS.apart {B g : Nat} {w : World} {a : Option Addr} {n : Nat} {rs : List (List Int)} (h : OwnS B w a n rs) (hg : g < B) : n = 0 ∨ ∀ x, a = some x → x.block ≠ g := by
 rcases h.2.2 with h0 | ⟨g2, off, rfl, hB, _⟩
 ·exact .inl h0
 ·exact .inr fun x hx => by cases hx; simp; omega

set_option maxRecDepth 100000 in
set_option maxHeartbeats 4000000 in
theorem times_any (m : Nat) (m1 : 1 ≤ m) (m8 : m ≤ 8) (p q : Int) (hp : -100000 ≤ p ∧ p ≤ 100000) (hq : -100000 ≤ q ∧ q ≤ 100000) (a b : Option Addr) (n cap nb capb : Nat) (l lb : List (List Int)) (w : World) (hr : ReadsA w a n l) (hrb : ReadsA w b nb lb) (hl : Nl m l) (hlb : Nl m lb) (hn : n ≤ 40000) (hnb : nb ≤ 40000) (e : Int) (kf : List (List Int)) (hM : mkN m (p + q) (turns m q l ++ lb) = (e, kf)) :
  Calls Try.prog 33 #[.agg #[.int .i64 m, .int .i64 p, .slice a n cap], .agg #[.int .i64 m, .int .i64 q, .slice b nb capb]] w (RetNS w.heap.size w m e kf) := by
 obtain ⟨i0, hi, hz0, hz1, hz2⟩ := info_parts infoSimple
 have HL := Lib.hid hl; clear hl
 have HB := Lib.hid hlb; clear hlb
 have HM := Lib.hid hM; clear hM
 have HN := Lib.hid hr.len
 have HNB := Lib.hid hrb.len
 have Rd := Lib.hid hr
 have Rb := Lib.hid hrb
 clear hr hrb
 go_enter Try.func33, Try.ntmps33
 have A0 := Lib.hid (((At3.place w (.int .i64 m) (.int .i64 p) (.slice a n cap) 28 w.heap.size rfl).alloc (.cells #[.int .i64 m, .int .i64 q, .slice b nb capb] 28)).alloc (.cells #[.int .i64 0, .int .i64 0, .slice none 0 0] 28))
 have X0 := Lib.hid ((At3.place (w.alloc (.cells #[.int .i64 m, .int .i64 p, .slice a n cap] 28)) (.int .i64 m) (.int .i64 q) (.slice b nb capb) 28 (w.heap.size + 1) (by simp)).alloc (.cells #[.int .i64 0, .int .i64 0, .slice none 0 0] 28))
 have Z0 := Lib.hid (At3.place ((w.alloc (.cells #[.int .i64 m, .int .i64 p, .slice a n cap] 28)).alloc (.cells #[.int .i64 m, .int .i64 q, .slice b nb capb] 28)) (.int .i64 0) (.int .i64 0) (.slice none 0 0) 28 (w.heap.size + 1 + 1) (by simp))
 have B0 := Lib.hid (((below1 w (.cells #[.int .i64 m, .int .i64 p, .slice a n cap] 28)).alloc (by simp) (.cells #[.int .i64 m, .int .i64 q, .slice b nb capb] 28)).alloc (by simp; omega) (.cells #[.int .i64 0, .int .i64 0, .slice none 0 0] 28))
 go_wp2_with (at_make; refine wpList_make_full (((w.alloc (.cells #[.int .i64 m, .int .i64 p, .slice a n cap] 28)).alloc (.cells #[.int .i64 m, .int .i64 q, .slice b nb capb] 28)).alloc (.cells #[.int .i64 0, .int .i64 0, .slice none 0 0] 28)) rfl _ _ 26 rfl (w.heap.size + 1 + 1 + 1) 53 i0 _ 8 Try.underlying26 hi hz0 hz1 .i64 .i64 _ _ n rfl rfl (by omega) (by omega) (by rw [hz2]; omega) (by unfold maxLen; omega) (by simp) ?_)
 intro w1 hown hgrow
 have hown1 := own_madeA hown
 have hb := Below.ofGrown hgrow
 have hlt9 : w.heap.size + 1 + 1 + 1 < w1.heap.size := (World.ownsRow.lt hown _ rfl).2
 have F := Lib.hid (AtTms.mk (A0.out.below hb) (X0.out.below hb) (Z0.out.below hb) hown1 (below_go B0.out hb (by simp; omega)) (Nat.le_refl _) hlt9)
 clear hown hgrow hown1 hb A0 X0 Z0 B0 hlt9
 obtain ⟨q1, q2, q3⟩ := F.out.box.all
 go_wp2
 clear q1 q2 q3
 go_loopg [18] n (fun g i wx => ∃ k rows, k ≤ n ∧ g + k = n ∧ i = .int .i64 (k : Nat) ∧ AtTms w wx m p q a b n cap nb capb (w.heap.size + 1 + 1 + 1) n rows n ∧ ∀ t, t < k → rowAt rows t = turnK m q (rowAt l t))
 case atStart => exact ⟨0, _, Nat.zero_le _, by omega, rfl, F.out, fun t ht => by omega⟩
 case round =>
  obtain ⟨k, rows, hk, hgk, rfl, hF, hrows⟩ := hrel
  clear F
  have F := Lib.hid hF
  have HRW := Lib.hid hrows
  clear hF hrows
  by_cases hlt : k < n
  ·obtain ⟨ba, off, rfl, hbl, hcl⟩ := Rd.out.cells (Nat.lt_of_le_of_lt (Nat.zero_le _) hlt)
   obtain ⟨row, hrow⟩ : ∃ row, row = rowAt l k := ⟨_, rfl⟩
   have HROW := Lib.hid hrow
   have hC : Cells8 wr ba (off + k * 8) row := by rw [hrow]; exact fun i hi => (F.out.bel.cell (by exact hbl)).trans (hcl k hlt i hi)
   have SR : Hid (Sim m row) := Lib.hid (by rw [hrow]; exact HL.out.sims _ (rowAt_getElem (by rw [HN.out]; omega)))
   clear hbl hcl hrow
   obtain ⟨c0, c1, c2, c3, c4, c5, c6, c7⟩ := hC.flat
   clear hC
   have RI := Lib.hid (Row8.place wr .u8 row 53 wr.heap.size rfl SR.out.len)
   have rl := F.out.own.len
   have zx : w.heap.size < wr.heap.size := F.out.box.1
   replace F := Lib.hid (F.out.below ((Below.refl _ _).alloc (Nat.le_refl _) (.cells #[.int .u8 (at8 row 0), .int .u8 (at8 row 1), .int .u8 (at8 row 2), .int .u8 (at8 row 3), .int .u8 (at8 row 4), .int .u8 (at8 row 5), .int .u8 (at8 row 6), .int .u8 (at8 row 7)] 53)))
   have zz2 : Hid ((wr.alloc (.cells #[.int .u8 (at8 row 0), .int .u8 (at8 row 1), .int .u8 (at8 row 2), .int .u8 (at8 row 3), .int .u8 (at8 row 4), .int .u8 (at8 row 5), .int .u8 (at8 row 6), .int .u8 (at8 row 7)] 53)).heap.size = wr.heap.size + 1) := Lib.hid (by simp)
   obtain ⟨q1, q2, q3⟩ := F.out.box.all
   obtain ⟨r1, r2, r3⟩ := F.out.box2.all
   obtain ⟨s0, s1, s2, s3, s4, s5, s6, s7⟩ := RI.out.flat
   go_wp2_with fail
   refine (turned_any m q row SR.out _).mono ?_
   rintro e4 w4 ⟨rfl, gg⟩
   replace F := Lib.hid (F.out.below gg)
   clear gg q1 q2 q3 r1 r2 r3 s0 s1 s2 s3 s4 s5 s6 s7 c0 c1 c2 c3 c4 c5 c6 c7
   have HT8 := Lib.hid (turnK_sim q SR.out).len
   have hi1 : (k : Int) < (n : Int) := by omega
   have hi2 : (0 : Int) ≤ (k : Int) := by omega
   have hwj : ((k : Int)).toNat = k := by omega
   obtain ⟨d0, d1, d2, d3, d4, d5, d6, d7⟩ := (F.out.own.cellAt k (by omega)).flat
   have f0 := F.out.own.frozenAt (k * 8)
   have f1 := F.out.own.frozenAt (k * 8 + 1)
   have f2 := F.out.own.frozenAt (k * 8 + 2)
   have f3 := F.out.own.frozenAt (k * 8 + 3)
   have f4 := F.out.own.frozenAt (k * 8 + 4)
   have f5 := F.out.own.frozenAt (k * 8 + 5)
   have f6 := F.out.own.frozenAt (k * 8 + 6)
   have f7 := F.out.own.frozenAt (k * 8 + 7)
   have F2 := Lib.hid (F.out.store k (by omega) _ HT8.out)
   go_wp2
   go_roundg (gk - 1)
   case measure => omega
   case rel =>
    refine ⟨k + 1, _, by omega, by omega, by go_num, F2.out, fun t ht => ?_⟩
    rw [rowAt_set _ _ _ _ (by rw [rl]; omega)]
    by_cases e : t = k
    ·subst e; rw [if_pos (by omega), HROW.out]
    ·rw [if_neg (by omega)]; exact HRW.out t (by omega)
  ·have hkn : k = n := by omega
   subst hkn
   have hw5 : IntKind.i64.wrap (p + q) = p + q := IntWalk.i64_in _ (by omega)
   have hrr : rows = turns m q l := by
    have h1 := F.out.own.len
    refine rows_ext2 (by rw [h1, turns_len, HN.out]) fun i hi => ?_
    rw [h1] at hi
    rw [HRW.out i hi]
    exact (rowAt_map _ (by rw [HN.out]; exact hi)).symm
   subst hrr
   obtain ⟨gp, hgp⟩ : ∃ gp, gp = wr.heap.size := ⟨_, rfl⟩
   have hhi := F.out.hi
   have hbsz := F.out.bel.size
   have G : Hid (AtTm2 w (wr.alloc (.cells #[.int .i64 m, .int .i64 (p + q), .slice (some ⟨w.heap.size + 1 + 1 + 1, 0, none⟩) k k] 28)) m q b nb capb gp (p + q) (some ⟨w.heap.size + 1 + 1 + 1, 0, none⟩) k k (turns m q l)) :=
    Lib.hid ⟨F.out.box2.alloc _, F.out.res.alloc _, At3.place wr _ _ _ _ gp hgp.symm, F.out.own.toS.alloc _, .inr fun x hx => by cases hx; simp; omega, F.out.bel.alloc hbsz _, by omega⟩
   have hi0 : Hid (mkN m (p + q) (turns m q l ++ lb.take 0) = (p + q, turns m q l)) := Lib.hid (by rw [List.take_zero, List.append_nil]; exact mkN_id _ (HL.out.turns q))
   obtain ⟨q1, q2, q3⟩ := F.out.box.all
   obtain ⟨r1, r2, r3⟩ := F.out.box2.all
   obtain ⟨s1, s2, s3⟩ := G.out.box2.all
   go_wp2
   rw [← hgp]
   clear q1 q2 q3 r1 r2 r3 s1 s2 s3 F hgp hhi hbsz
   go_loopg [45] nb (fun g i wx => ∃ j e2 ak nk ck lk, j ≤ nb ∧ g + j = nb ∧ i = .int .i64 (j : Nat) ∧ AtTm2 w wx m q b nb capb gp e2 ak nk ck lk ∧ nk ≤ ck ∧ Nl m lk ∧ mkN m (p + q) (turns m q l ++ lb.take j) = (e2, lk))
   case atStart => exact ⟨0, _, _, _, _, _, Nat.zero_le _, by omega, rfl, G.out, Nat.le_refl _, HL.out.turns q, hi0.out⟩
   case round =>
    obtain ⟨j, e2, ak, nk, ck, lk, hj, hgj, rfl, hG, hck, hlk, hmk⟩ := hrel
    clear G hi0
    have G := Lib.hid hG
    have HLK := Lib.hid hlk
    have HMK := Lib.hid hmk
    clear hG hlk hmk
    have hlen := mkN_len m (p + q) (turns m q l ++ lb.take j)
    rw [HMK.out] at hlen
    simp only [List.length_append, turns_len, List.length_take] at hlen
    rw [HN.out, HNB.out] at hlen
    have hnk := G.out.own.len
    by_cases hlt : j < nb
    ·have m2 := nl_two m1 HB.out (j := j) (by rw [HNB.out]; exact hlt)
     obtain ⟨bb, off, rfl, hbl, hcl⟩ := Rb.out.cells (Nat.lt_of_le_of_lt (Nat.zero_le _) hlt)
     obtain ⟨row, hrow⟩ : ∃ row, row = rowAt lb j := ⟨_, rfl⟩
     have HROW := Lib.hid hrow
     have hC : Cells8 wr bb (off + j * 8) row := by rw [hrow]; exact fun i hi => (G.out.bel.cell (by exact hbl)).trans (hcl j hlt i hi)
     have SR : Hid (Sim m row) := Lib.hid (by rw [hrow]; exact HB.out.sims _ (rowAt_getElem (by rw [HNB.out]; exact hlt)))
     clear hbl hcl hrow
     obtain ⟨c0, c1, c2, c3, c4, c5, c6, c7⟩ := hC.flat
     clear hC
     have RI := Lib.hid (Row8.place wr .u8 row 53 wr.heap.size rfl SR.out.len)
     have hgp1 := G.out.pr.1
     have hglo := G.out.lo
     have zx : w.heap.size < wr.heap.size := by omega
     replace G := Lib.hid (G.out.below ((Below.refl _ _).alloc (Nat.le_refl _) (.cells #[.int .u8 (at8 row 0), .int .u8 (at8 row 1), .int .u8 (at8 row 2), .int .u8 (at8 row 3), .int .u8 (at8 row 4), .int .u8 (at8 row 5), .int .u8 (at8 row 6), .int .u8 (at8 row 7)] 53)))
     have zz2 : Hid ((wr.alloc (.cells #[.int .u8 (at8 row 0), .int .u8 (at8 row 1), .int .u8 (at8 row 2), .int .u8 (at8 row 3), .int .u8 (at8 row 4), .int .u8 (at8 row 5), .int .u8 (at8 row 6), .int .u8 (at8 row 7)] 53)).heap.size = wr.heap.size + 1) := Lib.hid (by simp)
     obtain ⟨q1, q2, q3⟩ := G.out.pr.all
     obtain ⟨s0, s1, s2, s3, s4, s5, s6, s7⟩ := RI.out.flat
     go_wp2_with fail
     obtain ⟨e3, l3, h3⟩ : ∃ e3 l3, mkN m e2 (lk ++ [row]) = (e3, l3) := ⟨_, _, rfl⟩
     refine (thenSimple_any m m2 m8 e2 (by omega) ak nk ck lk row _ G.out.own.reads hck HLK.out SR.out (by omega) e3 l3 h3).mono ?_
     clear q1 q2 q3 s0 s1 s2 s3 s4 s5 s6 s7 c0 c1 c2 c3 c4 c5 c6 c7
     rintro e5 w5 ⟨a5, n5, c5, rfl, hc5, ho5, gg⟩
     have hlt5 : gp < (wr.alloc (.cells #[.int .u8 (at8 row 0), .int .u8 (at8 row 1), .int .u8 (at8 row 2), .int .u8 (at8 row 3), .int .u8 (at8 row 4), .int .u8 (at8 row 5), .int .u8 (at8 row 6), .int .u8 (at8 row 7)] 53)).heap.size := by rw [zz2.out]; omega
     replace G := Lib.hid (G.out.below gg)
     have hap := ho5.apart hlt5
     have O5 := Lib.hid ((ho5.past3 hap (.int .i64 m) (.int .i64 e3) (.slice a5 n5 c5)).mono (B' := w.heap.size + 1 + 1 + 1) (by rw [zz2.out]; omega))
     have G2 := Lib.hid (AtTm2.mk (G.out.box2.set3 (g2 := gp) (by omega) (.int .i64 m) (.int .i64 e3) (.slice a5 n5 c5)) (G.out.res.set3 (g2 := gp) (by omega) (.int .i64 m) (.int .i64 e3) (.slice a5 n5 c5)) (G.out.pr.fill (.int .i64 m) (.int .i64 e3) (.slice a5 n5 c5)) O5.out hap (below_set3 G.out.bel (g2 := gp) (by omega) (.int .i64 m) (.int .i64 e3) (.slice a5 n5 c5)) hglo)
     clear gg ho5
     obtain ⟨x0, ⟨x1, x2, x3⟩, y1, y2, y3⟩ := G.out.pr
     go_wp2
     go_roundg (gk - 1)
     case measure => omega
     case rel =>
      refine ⟨j + 1, e3, a5, n5, _, l3, by omega, by omega, by go_num, G2.out, hc5, ?_, ?_⟩
      ·have := mkN_nl (n := m) (p := e2) (l := lk ++ [row]) (Sims.app HLK.out.sims (Sims.cons SR.out Sims.nil))
       rw [h3] at this
       exact this
      ·rw [← h3]
       have h4 := mkN_app m2 m8 (p + q) (l := turns m q l ++ lb.take j) (m := [row]) (Sims.app (HL.out.turns q).sims (fun y hy => HB.out.sims y (List.mem_of_mem_take hy))) (Sims.cons SR.out Sims.nil)
       rw [HMK.out] at h4
       rw [h4, List.take_succ_eq_append_getElem (by rw [HNB.out]; exact hlt), List.append_assoc, HROW.out, rowAt_lt (by rw [HNB.out]; exact hlt)]
    ·have hjn : j = nb := by omega
     subst hjn
     have h5 := HMK.out
     rw [List.take_of_length_le (by rw [HNB.out]; exact Nat.le_refl _), HM.out] at h5
     simp only [Prod.mk.injEq] at h5
     obtain ⟨rfl, rfl⟩ := h5
     have hglo := G.out.lo
     obtain ⟨q1, q2, q3⟩ := G.out.pr.all
     obtain ⟨x0, ⟨x1, x2, x3⟩, y1, y2, y3⟩ := G.out.res
     have O6 := Lib.hid ((G.out.own.set3 (g2 := w.heap.size + 1 + 1) (by omega) (.int .i64 m) (.int .i64 e) (.slice ak nk ck)).mono (B' := w.heap.size) (by omega))
     have B6 := Lib.hid (below_set3 G.out.bel (g2 := w.heap.size + 1 + 1) (by omega) (.int .i64 m) (.int .i64 e) (.slice ak nk ck))
     obtain ⟨_, ⟨z1, z2, z3⟩, _⟩ := G.out.res.fill (.int .i64 m) (.int .i64 e) (.slice ak nk ck)
     go_wp2
     try rw [Exit.noGoto_ret]
     exact bodyPost_ret (v := .agg #[.int .i64 m, .int .i64 e, .slice ak nk ck]) (by simp [results, Try.results33, go_sem, z1, z2, z3]) rfl ⟨ak, nk, ck, rfl, hck, O6.out, B6.out⟩

end Go.Proofs.Ytpkhddndapcpjaa

