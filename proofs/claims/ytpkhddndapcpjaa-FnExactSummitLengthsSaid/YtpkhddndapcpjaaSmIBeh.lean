/- The program: a normal form with one simple braid ahead of it. -/
import Derived.Test.YtpkhddndapcpjaaSmSCyc
namespace Go.Proofs.Ytpkhddndapcpjaa
open Go.RowKit Go.ChangeShapes

theorem drop_succ_eq {l : List (List Int)} {k : Nat} (h : k < l.length) : l.drop k = rowAt l k :: l.drop (k + 1) := by
 rw [List.drop_eq_getElem_cons h, rowAt_lt h]

theorem pour_step {m : Nat} {r : List Int} {l P : List (List Int)} {k : Nat} (h : pour m r (l.drop k) = P.drop k) (hk : k < l.length) (hP : P.length = l.length + 1) :
  rowAt P k = (both m r (rowAt l k)).1 ∧ pour m (both m r (rowAt l k)).2 (l.drop (k + 1)) = P.drop (k + 1) := by
 rw [drop_succ_eq hk, pour, drop_succ_eq (l := P) (by omega)] at h
 simp only [List.cons.injEq] at h
 exact ⟨h.1.symm, h.2⟩

structure AtBeh (w wx : World) (m : Nat) (p : Int) (a : Option Addr) (n cap gb gr : Nat) (rows : List (List Int)) (len : Nat) (r : List Int) : Prop where
 box : At3 wx w.heap.size (.int .i64 m) (.int .i64 p) (.slice a n cap)
 res : At3 wx (w.heap.size + 1 + 1) (.int .i64 0) (.int .i64 0) (.slice none 0 0)
 own : OwnA (w.heap.size + 1 + 1 + 1) wx (some ⟨gb, 0, none⟩) len len rows
 rst : Row8 wx gr .u8 r
 bel : Below w.heap.size w wx
 lo : w.heap.size + 1 + 1 + 1 ≤ gb
 hi : gb < wx.heap.size
 rlo : w.heap.size + 1 + 1 + 1 ≤ gr
 ne : gr ≠ gb

theorem AtBeh.below {w wx W : World} {m : Nat} {p : Int} {a : Option Addr} {n cap gb gr len : Nat} {rows : List (List Int)} {r : List Int} (h : AtBeh w wx m p a n cap gb gr rows len r) (k : Below wx.heap.size wx W) : AtBeh w W m p a n cap gb gr rows len r :=
 ⟨h.box.below k, h.res.below k, h.own.below k, h.rst.below k, h.bel.trans (k.mono h.bel.size), h.lo, Nat.lt_of_lt_of_le h.hi k.size, h.rlo, h.ne⟩

theorem AtBeh.store {w wx : World} {m : Nat} {p : Int} {a : Option Addr} {n cap gb gr len : Nat} {rows : List (List Int)} {r : List Int} (h : AtBeh w wx m p a n cap gb gr rows len r) (j : Nat) (hj : j < len) (x : List Int) (hx : x.length = 8) :
  AtBeh w ((((((((wx.setCell ⟨gb, j * 8, none⟩ (.int .u8 (at8 x 0))).setCell ⟨gb, j * 8 + 1, none⟩ (.int .u8 (at8 x 1))).setCell ⟨gb, j * 8 + 2, none⟩ (.int .u8 (at8 x 2))).setCell ⟨gb, j * 8 + 3, none⟩ (.int .u8 (at8 x 3))).setCell ⟨gb, j * 8 + 4, none⟩ (.int .u8 (at8 x 4))).setCell ⟨gb, j * 8 + 5, none⟩ (.int .u8 (at8 x 5))).setCell ⟨gb, j * 8 + 6, none⟩ (.int .u8 (at8 x 6))).setCell ⟨gb, j * 8 + 7, none⟩ (.int .u8 (at8 x 7))) m p a n cap gb gr (rows.set j x) len r :=
 have hlo := h.lo
 ⟨h.box.set8 (by omega) _ _ _ _ _ _ _ _, h.res.set8 (by omega) _ _ _ _ _ _ _ _, h.own.store j hj x hx, h.rst.pastAt gb (j * 8) h.ne.symm _ _ _ _ _ _ _ _, below_fill8a h.bel gb (by omega) _ _ _ _ _ _ _ _ _, h.lo, by have := h.hi; simpa [World.setCell] using this, h.rlo, h.ne⟩

theorem OwnA.setCell_ne {B : Nat} {w : World} {gb n cap g : Nat} {rs : List (List Int)} (h : OwnA B w (some ⟨gb, 0, none⟩) n cap rs) (hne : g ≠ gb) (o : Nat) (v : Value) : OwnA B (w.setCell ⟨g, o, none⟩ v) (some ⟨gb, 0, none⟩) n cap rs :=
 ⟨h.1, World.ownsRow.kept h.2 (grown_set w g o v) (.inr (by simpa [Value.ownBlock] using fun e => hne e.symm))⟩

theorem OwnA.past8 {B : Nat} {w : World} {gb n cap g : Nat} {rs : List (List Int)} (h : OwnA B w (some ⟨gb, 0, none⟩) n cap rs) (hne : g ≠ gb) (v0 v1 v2 v3 v4 v5 v6 v7 : Value) :
  OwnA B ((((((((w.setCell ⟨g, 0, none⟩ v0).setCell ⟨g, 1, none⟩ v1).setCell ⟨g, 2, none⟩ v2).setCell ⟨g, 3, none⟩ v3).setCell ⟨g, 4, none⟩ v4).setCell ⟨g, 5, none⟩ v5).setCell ⟨g, 6, none⟩ v6).setCell ⟨g, 7, none⟩ v7) (some ⟨gb, 0, none⟩) n cap rs :=
 (((((((h.setCell_ne hne 0 v0).setCell_ne hne 1 v1).setCell_ne hne 2 v2).setCell_ne hne 3 v3).setCell_ne hne 4 v4).setCell_ne hne 5 v5).setCell_ne hne 6 v6).setCell_ne hne 7 v7

/-- What is left is stored anew. -/
theorem AtBeh.rest {w wx : World} {m : Nat} {p : Int} {a : Option Addr} {n cap gb gr len : Nat} {rows : List (List Int)} {r : List Int} (h : AtBeh w wx m p a n cap gb gr rows len r) (x : List Int) (hx : x.length = 8) :
  AtBeh w ((((((((wx.setCell ⟨gr, 0, none⟩ (.int .u8 (at8 x 0))).setCell ⟨gr, 1, none⟩ (.int .u8 (at8 x 1))).setCell ⟨gr, 2, none⟩ (.int .u8 (at8 x 2))).setCell ⟨gr, 3, none⟩ (.int .u8 (at8 x 3))).setCell ⟨gr, 4, none⟩ (.int .u8 (at8 x 4))).setCell ⟨gr, 5, none⟩ (.int .u8 (at8 x 5))).setCell ⟨gr, 6, none⟩ (.int .u8 (at8 x 6))).setCell ⟨gr, 7, none⟩ (.int .u8 (at8 x 7))) m p a n cap gb gr rows len x :=
 have hlo := h.rlo
 ⟨h.box.set8 (by omega) _ _ _ _ _ _ _ _, h.res.set8 (by omega) _ _ _ _ _ _ _ _, h.own.past8 h.ne _ _ _ _ _ _ _ _, h.rst.fill x hx, below_fill8 h.bel gr (by omega) _ _ _ _ _ _ _ _, h.lo, by have := h.hi; simpa [World.setCell] using this, h.rlo, h.ne⟩

set_option maxRecDepth 100000 in
set_option maxHeartbeats 1000000 in
theorem behindSimple_any (m : Nat) (m2 : 1 < m) (m8 : m ≤ 8) (p : Int) (hp : -1000000 ≤ p ∧ p ≤ 1000000) (a : Option Addr) (n cap : Nat) (l : List (List Int)) (s : List Int) (w : World) (hr : ReadsA w a n l) (hl : Nl m l) (hss : Sim m s) (hn : n ≤ 100000)
  (q : Int) (kf : List (List Int)) (hM : mkN m p (turnK m p s :: l) = (q, kf)) :
  Calls Try.prog 72 #[.agg #[.int .i64 m, .int .i64 p, .slice a n cap], arr8 .u8 s] w (RetNS w.heap.size w m q kf) := by
 obtain ⟨i0, hi, hz0, hz1, hz2⟩ := info_parts infoSimple
 have HN := Lib.hid hr.len
 have Rd := Lib.hid hr
 have HL := Lib.hid hl
 have SS := Lib.hid hss
 clear hr hl hss
 have S8 := Lib.hid SS.out.len
 obtain ⟨s0, hs0⟩ : ∃ s0, s0 = turnK m p s := ⟨_, rfl⟩
 have ST : Hid (Sim m s0) := Lib.hid (by rw [hs0]; exact turnK_sim p SS.out)
 have HS0 := Lib.hid hs0
 rw [← hs0] at hM
 clear hs0
 have T8 := Lib.hid ST.out.len
 obtain ⟨P, hP⟩ : ∃ P, P = pour m s0 l := ⟨_, rfl⟩
 have HQ : Hid (trimR m p P = (q, kf)) := Lib.hid (by rw [hP, behind_simple m2 m8 p HL.out ST.out]; exact hM)
 have PL : Hid (P.length = n + 1) := Lib.hid (by rw [hP, pour_len, HN.out])
 have PS : Hid (Sims m P) := Lib.hid (by rw [hP]; exact pour_sims ST.out HL.out.sims)
 have HP := Lib.hid hP
 clear hP hM
 have hwn : IntKind.i64.wrap ((n : Int) + 1) = ((n + 1 : Nat) : Int) := by rw [show (n : Int) + 1 = ((n + 1 : Nat) : Int) by omega]; exact IntWalk.i64_in _ (by omega)
 go_enter Try.func72, Try.ntmps72
 have A0 := Lib.hid (((At3.place w (.int .i64 m) (.int .i64 p) (.slice a n cap) 28 w.heap.size rfl).alloc (.cells #[.int .u8 (at8 s 0), .int .u8 (at8 s 1), .int .u8 (at8 s 2), .int .u8 (at8 s 3), .int .u8 (at8 s 4), .int .u8 (at8 s 5), .int .u8 (at8 s 6), .int .u8 (at8 s 7)] 53)).alloc (.cells #[.int .i64 0, .int .i64 0, .slice none 0 0] 28))
 have X0 := Lib.hid ((Row8.place (w.alloc (.cells #[.int .i64 m, .int .i64 p, .slice a n cap] 28)) .u8 s 53 (w.heap.size + 1) (by simp) S8.out).alloc (.cells #[.int .i64 0, .int .i64 0, .slice none 0 0] 28))
 have Z0 := Lib.hid (At3.place ((w.alloc (.cells #[.int .i64 m, .int .i64 p, .slice a n cap] 28)).alloc (.cells #[.int .u8 (at8 s 0), .int .u8 (at8 s 1), .int .u8 (at8 s 2), .int .u8 (at8 s 3), .int .u8 (at8 s 4), .int .u8 (at8 s 5), .int .u8 (at8 s 6), .int .u8 (at8 s 7)] 53)) (.int .i64 0) (.int .i64 0) (.slice none 0 0) 28 (w.heap.size + 1 + 1) (by simp))
 have B0 := Lib.hid (((below1 w (.cells #[.int .i64 m, .int .i64 p, .slice a n cap] 28)).alloc (by simp) (.cells #[.int .u8 (at8 s 0), .int .u8 (at8 s 1), .int .u8 (at8 s 2), .int .u8 (at8 s 3), .int .u8 (at8 s 4), .int .u8 (at8 s 5), .int .u8 (at8 s 6), .int .u8 (at8 s 7)] 53)).alloc (by simp; omega) (.cells #[.int .i64 0, .int .i64 0, .slice none 0 0] 28))
 obtain ⟨q1, q2, q3⟩ := A0.out.all
 go_wp2_with (at_make; refine wpList_make_full (((w.alloc (.cells #[.int .i64 m, .int .i64 p, .slice a n cap] 28)).alloc (.cells #[.int .u8 (at8 s 0), .int .u8 (at8 s 1), .int .u8 (at8 s 2), .int .u8 (at8 s 3), .int .u8 (at8 s 4), .int .u8 (at8 s 5), .int .u8 (at8 s 6), .int .u8 (at8 s 7)] 53)).alloc (.cells #[.int .i64 0, .int .i64 0, .slice none 0 0] 28)) rfl _ _ 26 rfl (w.heap.size + 1 + 1 + 1) 53 i0 _ 8 Try.underlying26 hi hz0 hz1 .i64 .i64 _ _ (n + 1) rfl rfl (by omega) (by omega) (by rw [hz2]; omega) (by unfold maxLen; omega) (by simp) ?_)
 intro w1 hown hgrow
 have hown1 := own_madeA hown
 have hb := Below.ofGrown hgrow
 have hlt9 : w.heap.size + 1 + 1 + 1 < w1.heap.size := (World.ownsRow.lt hown _ rfl).2
 have A := Lib.hid (A0.out.below hb)
 have X := Lib.hid (X0.out.below hb)
 have Z := Lib.hid (Z0.out.below hb)
 have B := Lib.hid (below_go B0.out hb (by simp; omega))
 have O := Lib.hid hown1
 clear hown hgrow hown1 hb A0 X0 Z0 B0 q1 q2 q3
 obtain ⟨q1, q2, q3⟩ := A.out.all
 obtain ⟨c0, c1, c2, c3, c4, c5, c6, c7⟩ := X.out.flat
 go_wp2_with fail
 refine (turned_any m p s SS.out _).mono ?_
 rw [← HS0.out]
 rintro e w2 ⟨rfl, gg⟩
 have hz2 : w1.heap.size ≤ w2.heap.size := gg.size
 replace A := Lib.hid (A.out.below gg)
 replace Z := Lib.hid (Z.out.below gg)
 replace O := Lib.hid (O.out.below gg)
 replace B := Lib.hid (below_go B.out gg B.out.size)
 clear gg q1 q2 q3 c0 c1 c2 c3 c4 c5 c6 c7 X
 obtain ⟨gr, hgr⟩ : ∃ gr, gr = w2.heap.size := ⟨_, rfl⟩
 have F : Hid (AtBeh w (w2.alloc (.cells #[.int .u8 (at8 s0 0), .int .u8 (at8 s0 1), .int .u8 (at8 s0 2), .int .u8 (at8 s0 3), .int .u8 (at8 s0 4), .int .u8 (at8 s0 5), .int .u8 (at8 s0 6), .int .u8 (at8 s0 7)] 53)) m p a n cap (w.heap.size + 1 + 1 + 1) gr (List.replicate (n + 1) [0, 0, 0, 0, 0, 0, 0, 0]) (n + 1) s0) :=
  Lib.hid ⟨A.out.alloc _, Z.out.alloc _, O.out.alloc _, Row8.place w2 .u8 s0 53 gr hgr.symm T8.out, B.out.alloc B.out.size _, Nat.le_refl _, by simp; omega, by omega, by omega⟩
 obtain ⟨q1, q2, q3⟩ := F.out.box.all
 go_wp2
 rw [← hgr]
 clear q1 q2 q3 hgr A Z B O
 go_loopg [23] n (fun g i wx => ∃ k rows r, k ≤ n ∧ g + k = n ∧ i = .int .i64 (k : Nat) ∧ AtBeh w wx m p a n cap (w.heap.size + 1 + 1 + 1) gr rows (n + 1) r ∧ Sim m r ∧ (∀ t, t < k → rowAt rows t = rowAt P t) ∧ pour m r (l.drop k) = P.drop k)
 case atStart => exact ⟨0, _, s0, Nat.zero_le _, by omega, rfl, F.out, ST.out, fun t ht => by omega, by rw [List.drop_zero, List.drop_zero]; exact HP.out.symm⟩
 case round =>
  obtain ⟨k, rows, r, hk, hgk, rfl, hF, hSr, hrows, hpo⟩ := hrel
  clear F
  have F := Lib.hid hF
  have SR := Lib.hid hSr
  have HRW := Lib.hid hrows
  have HPO := Lib.hid hpo
  clear hF hSr hrows hpo
  have rl := F.out.own.len
  have hrlo := F.out.rlo
  by_cases hlt : k < n
  ·obtain ⟨ba, off, rfl, hbl, hcl⟩ := Rd.out.cells (Nat.lt_of_le_of_lt (Nat.zero_le _) hlt)
   obtain ⟨row, hrow⟩ : ∃ row, row = rowAt l k := ⟨_, rfl⟩
   have HROW := Lib.hid hrow
   have hC : Cells8 wr ba (off + k * 8) row := by rw [hrow]; exact fun i hi => (F.out.bel.cell (by exact hbl)).trans (hcl k hlt i hi)
   have SW : Hid (Sim m row) := Lib.hid (by rw [hrow]; exact HL.out.sims _ (rowAt_getElem (by rw [HN.out]; exact hlt)))
   clear hbl hcl hrow
   obtain ⟨c0, c1, c2, c3, c4, c5, c6, c7⟩ := hC.flat
   clear hC
   have RI := Lib.hid (Row8.place wr .u8 row 53 wr.heap.size rfl SW.out.len)
   have zx : w.heap.size < wr.heap.size := F.out.box.1
   replace F := Lib.hid (F.out.below ((Below.refl _ _).alloc (Nat.le_refl _) (.cells #[.int .u8 (at8 row 0), .int .u8 (at8 row 1), .int .u8 (at8 row 2), .int .u8 (at8 row 3), .int .u8 (at8 row 4), .int .u8 (at8 row 5), .int .u8 (at8 row 6), .int .u8 (at8 row 7)] 53)))
   obtain ⟨q1, q2, q3⟩ := F.out.box.all
   obtain ⟨s0', s1, s2, s3, s4, s5, s6, s7⟩ := RI.out.flat
   obtain ⟨u0, u1, u2, u3, u4, u5, u6, u7⟩ := F.out.rst.flat
   go_wp2_with fail
   obtain ⟨xa, xb, hx⟩ : ∃ xa xb, both m r row = (xa, xb) := ⟨_, _, rfl⟩
   have HX := Lib.hid hx
   clear hx
   have LA : Hid (Sim m xa ∧ Sim m xb) := Lib.hid (by have h := both_sim SR.out SW.out; rw [HX.out] at h; exact h)
   have LA1 := Lib.hid LA.out.1.len
   have LA2 := Lib.hid LA.out.2.len
   refine (weigh_both m r row SR.out SW.out _).mono ?_
   rw [HX.out]
   rintro e w5 ⟨rfl, gg⟩
   replace F := Lib.hid (F.out.below gg)
   clear gg q1 q2 q3 s0' s1 s2 s3 s4 s5 s6 s7 u0 u1 u2 u3 u4 u5 u6 u7 c0 c1 c2 c3 c4 c5 c6 c7
   have hi1 : (k : Int) < ((n + 1 : Nat) : Int) := by omega
   have hi1' : (k : Int) < (n : Int) + 1 := by omega
   have hi2 : (0 : Int) ≤ (k : Int) := by omega
   have hwj : ((k : Int)).toNat = k := by omega
   obtain ⟨d0, d1, d2, d3, d4, d5, d6, d7⟩ := (F.out.own.cellAt k (by omega)).flat
   have f0 := F.out.own.frozenAt (k * 8)
   have f1 := F.out.own.frozenAt (k * 8 + 1)
   have f2 := F.out.own.frozenAt (k * 8 + 2)
   have f3 := F.out.own.frozenAt (k * 8 + 3)
   have f4 := F.out.own.frozenAt (k * 8 + 4)
   have f5 := F.out.own.frozenAt (k * 8 + 5)
   have f6 := F.out.own.frozenAt (k * 8 + 6)
   have f7 := F.out.own.frozenAt (k * 8 + 7)
   have F1 := Lib.hid (F.out.store k (by omega) xa LA1.out)
   have F2 := Lib.hid (F1.out.rest xb LA2.out)
   obtain ⟨⟨g0, g1, g2, g3⟩, g4, g5, g6, g7⟩ := F1.out.rst.all
   obtain ⟨⟨k0, k1, k2, k3⟩, k4, k5, k6, k7⟩ := F.out.rst.frees
   have hne := F.out.ne
   go_wp2
   go_roundg (gk - 1)
   case measure => omega
   case rel =>
    have hps := pour_step HPO.out (by rw [HN.out]; exact hlt) (by rw [PL.out, HN.out])
    rw [← HROW.out, HX.out] at hps
    refine ⟨k + 1, _, xb, by omega, by omega, by go_num, F2.out, LA.out.2, fun t ht => ?_, hps.2⟩
    rw [rowAt_set _ _ _ _ (by rw [rl]; omega)]
    by_cases e : t = k
    ·subst e; rw [if_pos (by omega), hps.1]
    ·rw [if_neg (by omega)]; exact HRW.out t (by omega)
  ·have hkn : k = n := by omega
   subst hkn
   have hPk : rowAt P k = r ∧ True := by
    have h := HPO.out
    rw [List.drop_of_length_le (by rw [HN.out]; exact Nat.le_refl _), pour, drop_succ_eq (l := P) (by rw [PL.out]; omega)] at h
    simp only [List.cons.injEq] at h
    exact ⟨h.1.symm, trivial⟩
   have hrr : rows.set k r = P := by
    refine rows_ext2 (by rw [List.length_set, rl, PL.out]) fun i hi => ?_
    rw [List.length_set, rl] at hi
    rw [rowAt_set _ _ _ _ (by rw [rl]; omega)]
    by_cases e : i = k
    ·subst e; rw [if_pos rfl, hPk.1]
    ·rw [if_neg (by omega)]; exact HRW.out i (by omega)
   have HRR := Lib.hid hrr
   clear hrr hPk
   have hi1 : (k : Int) < ((k + 1 : Nat) : Int) := by omega
   have hi1' : (k : Int) < (k : Int) + 1 := by omega
   have hi2 : (0 : Int) ≤ (k : Int) := by omega
   have hwj : ((k : Int)).toNat = k := by omega
   have R8 := Lib.hid SR.out.len
   obtain ⟨d0, d1, d2, d3, d4, d5, d6, d7⟩ := (F.out.own.cellAt k (by omega)).flat
   have f0 := F.out.own.frozenAt (k * 8)
   have f1 := F.out.own.frozenAt (k * 8 + 1)
   have f2 := F.out.own.frozenAt (k * 8 + 2)
   have f3 := F.out.own.frozenAt (k * 8 + 3)
   have f4 := F.out.own.frozenAt (k * 8 + 4)
   have f5 := F.out.own.frozenAt (k * 8 + 5)
   have f6 := F.out.own.frozenAt (k * 8 + 6)
   have f7 := F.out.own.frozenAt (k * 8 + 7)
   obtain ⟨q1, q2, q3⟩ := F.out.box.all
   obtain ⟨u0, u1, u2, u3, u4, u5, u6, u7⟩ := F.out.rst.flat
   have F1 := Lib.hid (F.out.store k (by omega) r R8.out)
   rw [HRR.out] at F1
   go_upto_region 9 with fail
   obtain ⟨V, hV⟩ : ∃ V, V = ((((((((wr.setCell ⟨w.heap.size + 1 + 1 + 1, k * 8, none⟩ (.int .u8 (at8 r 0))).setCell ⟨w.heap.size + 1 + 1 + 1, k * 8 + 1, none⟩ (.int .u8 (at8 r 1))).setCell ⟨w.heap.size + 1 + 1 + 1, k * 8 + 2, none⟩ (.int .u8 (at8 r 2))).setCell ⟨w.heap.size + 1 + 1 + 1, k * 8 + 3, none⟩ (.int .u8 (at8 r 3))).setCell ⟨w.heap.size + 1 + 1 + 1, k * 8 + 4, none⟩ (.int .u8 (at8 r 4))).setCell ⟨w.heap.size + 1 + 1 + 1, k * 8 + 5, none⟩ (.int .u8 (at8 r 5))).setCell ⟨w.heap.size + 1 + 1 + 1, k * 8 + 6, none⟩ (.int .u8 (at8 r 6))).setCell ⟨w.heap.size + 1 + 1 + 1, k * 8 + 7, none⟩ (.int .u8 (at8 r 7))) := ⟨_, rfl⟩
   rw [← hV] at F1 ⊢
   clear hV q1 q2 q3 u0 u1 u2 u3 u4 u5 u6 u7 d0 d1 d2 d3 d4 d5 d6 d7 f0 f1 f2 f3 f4 f5 f6 f7 F
   obtain ⟨q1, q2, q3⟩ := F1.out.box.all
   go_wp2_with fail
   refine (trimmed_any m m2 m8 p hp (w.heap.size + 1 + 1 + 1) (w.heap.size + 1 + 1 + 1) (k + 1) (k + 1) P _ F1.out.own (by omega) PS.out (by omega) q kf HQ.out).mono ?_
   rintro e w9 ⟨a9, n9, c9, rfl, hc9, ho9, gg⟩
   clear q1 q2 q3
   replace F1 := Lib.hid (F1.out.below gg)
   have O9 := Lib.hid ho9
   clear gg ho9
   have OX := Lib.hid ((O9.out.set3 (g2 := w.heap.size + 1 + 1) (by omega) (.int .i64 m) (.int .i64 q) (.slice a9 n9 c9)).mono (B' := w.heap.size) (by omega))
   have BL := Lib.hid (below_set3 F1.out.bel (g2 := w.heap.size + 1 + 1) (by omega) (.int .i64 m) (.int .i64 q) (.slice a9 n9 c9))
   obtain ⟨x0, ⟨x1, x2, x3⟩, y1, y2, y3⟩ := F1.out.res
   obtain ⟨_, ⟨e1, e2, e3⟩, _⟩ := F1.out.res.fill (.int .i64 m) (.int .i64 q) (.slice a9 n9 c9)
   go_wp2
   try rw [Exit.noGoto_ret]
   exact bodyPost_ret (v := .agg #[.int .i64 m, .int .i64 q, .slice a9 n9 c9]) (by simp [results, Try.results72, go_sem, e1, e2, e3]) rfl ⟨a9, n9, c9, rfl, hc9, OX.out, BL.out⟩

end Go.Proofs.Ytpkhddndapcpjaa

