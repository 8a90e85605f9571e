/- The model: summits. -/
import Derived.Test.YtpkhddndapcpjaaSmSumP
import Derived.Test.YtpkhddndapcpjaaSmISum
namespace Go.Proofs.Ytpkhddndapcpjaa
open Go.RowKit Go.ChangeShapes

theorem steps_int {m : Nat} (h8 : m ≤ 8) : 0 ≤ (m : Int) * ((m : Int) - 1) ∧ (m : Int) * ((m : Int) - 1) ≤ 56 ∧ ((m : Int) * ((m : Int) - 1)).tdiv 2 = (stepsN m : Int) := by
 rcases (show m = 0 ∨ m = 1 ∨ m = 2 ∨ m = 3 ∨ m = 4 ∨ m = 5 ∨ m = 6 ∨ m = 7 ∨ m = 8 by omega) with rfl | rfl | rfl | rfl | rfl | rfl | rfl | rfl | rfl <;> decide

theorem ReadsA.past3 {w : World} {a : Option Addr} {n g : Nat} {rs : List (List Int)} (h : ReadsA w a n rs) (hne : n = 0 ∨ ∀ x, a = some x → x.block ≠ g) (u v x : Value) : ReadsA (((w.setCell ⟨g, 0, none⟩ u).setCell ⟨g, 1, none⟩ v).setCell ⟨g, 2, none⟩ x) a n rs := by
 obtain ⟨h1, h2, h3⟩ := h
 refine ⟨h1, h2, ?_⟩
 rcases h3 with h3 | ⟨b, off, rfl, hc⟩
 ·exact .inl h3
 ·rcases hne with h0 | hne
  ·exact .inl h0
  ·refine .inr ⟨b, off, rfl, fun j hj i hi => ?_⟩
   have hb : b ≠ g := hne _ rfl
   rw [World.cell?_of_block (w := w) (by
    rw [Below.heap_setCell _ _ _ _ hb, Below.heap_setCell _ _ _ _ hb, Below.heap_setCell _ _ _ _ hb])]
   exact hc j hj i hi

theorem ReadsA.apartHi {w : World} {a : Option Addr} {n g : Nat} {rs : List (List Int)} (h : ReadsA w a n rs) (hg : w.heap.size ≤ g) : n = 0 ∨ ∀ x, a = some x → x.block ≠ g := by
 rcases Nat.eq_zero_or_pos n with h0 | h0
 ·exact .inl h0
 ·obtain ⟨b, off, rfl, hb, _⟩ := h.cells h0
  exact .inr fun x hx => by cases hx; simp at hb ⊢; omega

set_option maxRecDepth 100000 in
set_option maxHeartbeats 1000000 in
theorem l04Summit_any (m : Nat) (m1 : 1 ≤ m) (m8 : m ≤ 8) (p : Int) (hp : -1000 ≤ p ∧ p ≤ 1000) (a : Option Addr) (n cap : Nat) (hcap : n ≤ cap) (l : List (List Int)) (w : World) (hr : ReadsA w a n l) (hl : Nl m l) (hn : n ≤ 1000) (e : Int) (kf : List (List Int)) (hM : summitN m (stepsN m) n (p, l) = (e, kf)) :
  Calls Try.prog 22 #[.agg #[.int .i64 m, .int .i64 p, .slice a n cap]] w fun r w' => ∃ a2 n2 c2, r = .returned (.agg #[.int .i64 m, .int .i64 e, .slice a2 n2 c2]) ∧ n2 ≤ c2 ∧ ReadsA w' a2 n2 kf ∧ Below w.heap.size w w' := by
 have HN := Lib.hid hr.len
 have HRR := Lib.hid hr
 have HL := Lib.hid hl
 have HM := Lib.hid hM
 clear hr hl hM
 obtain ⟨c, hc⟩ : ∃ c, c = stepsN m := ⟨_, rfl⟩
 have hst := stepsN_le m8
 obtain ⟨hs1, hs2, hs3⟩ := steps_int m8
 rw [← hc] at HM hst hs3
 have hwm1 : IntKind.i64.wrap ((m : Int) - 1) = (m : Int) - 1 := IntWalk.i64_in _ (by omega)
 have hwm2 : IntKind.i64.wrap ((m : Int) * ((m : Int) - 1)) = (m : Int) * ((m : Int) - 1) := IntWalk.i64_in _ (by omega)
 have hwm3 : IntKind.i64.wrap (((m : Int) * ((m : Int) - 1)).tdiv 2) = (c : Int) := by rw [hs3]; exact IntWalk.i64_in _ (by omega)
 have HC := Lib.hid hc
 clear hc
 go_enter Try.func22, Try.ntmps22
 have A := Lib.hid ((At3.place w (.int .i64 m) (.int .i64 p) (.slice a n cap) 28 w.heap.size rfl).alloc (.cells #[.int .i64 0, .int .i64 0, .slice none 0 0] 28))
 have Z := Lib.hid (At3.place (w.alloc (.cells #[.int .i64 m, .int .i64 p, .slice a n cap] 28)) (.int .i64 0) (.int .i64 0) (.slice none 0 0) 28 (w.heap.size + 1) (by simp))
 have B := Lib.hid ((below1 w (.cells #[.int .i64 m, .int .i64 p, .slice a n cap] 28)).alloc (by simp) (.cells #[.int .i64 0, .int .i64 0, .slice none 0 0] 28))
 obtain ⟨q1, q2, q3⟩ := A.out.all
 have RX := Lib.hid (HRR.out.below B.out)
 have AX : Hid (n = 0 ∨ ∀ y, a = some y → y.block ≠ w.heap.size ∧ y.block ≠ w.heap.size + 1) := Lib.hid (by
  rcases HRR.out.apartHi (g := w.heap.size) (Nat.le_refl _) with h | h
  ·exact .inl h
  ·rcases HRR.out.apartHi (g := w.heap.size + 1) (by omega) with h2 | h2
   ·exact .inl h2
   ·exact .inr fun y hy => ⟨h y hy, h2 y hy⟩)
 go_wp2
 clear q1 q2 q3
 go_loopg [] n (fun g wx => ∃ x ak nk ck, x.2.length ≤ g ∧ At3 wx w.heap.size (.int .i64 m) (.int .i64 x.1) (.slice ak nk ck) ∧ ReadsA wx ak nk x.2 ∧ (nk = 0 ∨ ∀ y, ak = some y → y.block ≠ w.heap.size ∧ y.block ≠ w.heap.size + 1) ∧ nk ≤ ck ∧ Got m (p, l) x ∧ summitN m c g x = (e, kf) ∧ At3 wx (w.heap.size + 1) (.int .i64 0) (.int .i64 0) (.slice none 0 0) ∧ Below w.heap.size w wx)
 case atStart => exact ⟨(p, l), a, n, cap, by dsimp only; rw [HN.out]; exact Nat.le_refl _, A.out, RX.out, AX.out, hcap, Got.refl HL.out, HM.out, Z.out, B.out⟩
 case round =>
  obtain ⟨⟨xp, xl⟩, ax, nx, cx, hlen, hA, hRx, hAx, hcx, hgot, hsum, hZ, hB⟩ := hrel
  clear A RX AX Z B
  have A := Lib.hid hA
  have RX := Lib.hid hRx
  have AX := Lib.hid hAx
  have GX := Lib.hid hgot
  have SM := Lib.hid hsum
  have Z := Lib.hid hZ
  have B := Lib.hid hB
  clear hA hRx hAx hgot hsum hZ hB
  dsimp only at A RX hlen
  have hnx := RX.out.len
  have HG := Lib.hid (And.intro GX.out.len (And.intro GX.out.low GX.out.top))
  obtain ⟨go, hgo⟩ : ∃ go, go = gk := ⟨_, rfl⟩
  have hz0 : w.heap.size + 1 < wr.heap.size := Z.out.1
  obtain ⟨g4, hg4⟩ : ∃ g4, g4 = wr.heap.size := ⟨_, rfl⟩
  have OW := Lib.hid (At3.place wr (.int .i64 m) (.int .i64 xp) (.slice ax nx cx) 28 g4 hg4.symm)
  have AX4 := Lib.hid (RX.out.apartHi (g := g4) (by omega))
  have hlt4 : w.heap.size + 1 < g4 := by omega
  obtain ⟨q1, q2, q3⟩ := A.out.all
  replace A := Lib.hid (A.out.alloc (.cells #[.int .i64 m, .int .i64 xp, .slice ax nx cx] 28))
  replace Z := Lib.hid (Z.out.alloc (.cells #[.int .i64 m, .int .i64 xp, .slice ax nx cx] 28))
  replace RX := Lib.hid (RX.out.alloc (.cells #[.int .i64 m, .int .i64 xp, .slice ax nx cx] 28))
  replace B := Lib.hid (B.out.alloc B.out.size (.cells #[.int .i64 m, .int .i64 xp, .slice ax nx cx] 28))
  obtain ⟨r1, hr1⟩ : ∃ r1, upN m c (xp, xl) = r1 := ⟨_, rfl⟩
  have HR1 := Lib.hid hr1
  clear hr1
  go_wp2
  rw [← hg4]
  clear hg4 q1 q2 q3
  have RD := RX
  go_loopg [5, 6] c (fun g v5 v6 wx => ∃ y ak nk ck b, v5 = .bool b ∧ v6 = .int .i64 (g : Nat) ∧ g ≤ c ∧ At3 wx g4 (.int .i64 m) (.int .i64 y.1) (.slice ak nk ck) ∧ ReadsA wx ak nk y.2 ∧ (nk = 0 ∨ ∀ z, ak = some z → z.block ≠ w.heap.size ∧ z.block ≠ w.heap.size + 1) ∧ nk ≤ ck ∧ Got m (xp, xl) y ∧ (b = true → r1 = some y) ∧ (b = false → riseN (cycS m) (upG (xp, xl)) g y = r1) ∧ At3 wx w.heap.size (.int .i64 m) (.int .i64 xp) (.slice ax nx cx) ∧ ReadsA wx ax nx xl ∧ At3 wx (w.heap.size + 1) (.int .i64 0) (.int .i64 0) (.slice none 0 0) ∧ Below w.heap.size w wx)
  case atStart => exact ⟨(xp, xl), ax, nx, cx, false, rfl, rfl, Nat.le_refl _, OW.out, RX.out, AX.out, hcx, Got.refl GX.out.nl, fun h => (by cases h), fun _ => HR1.out, A.out, RX.out, Z.out, B.out⟩
  case round =>
   obtain ⟨⟨yp, yl⟩, ak, nk, ck, b, rfl, rfl, hgc, hO, hRd, hAp, hck, hgot, hbt, hbf, hA, hRx, hZ, hB⟩ := hrel
   clear OW A RX Z B
   have OW := Lib.hid hO
   have RD := Lib.hid hRd
   have AY := Lib.hid hAp
   have GY := Lib.hid hgot
   have BT := Lib.hid hbt
   have BF := Lib.hid hbf
   have A := Lib.hid hA
   have RX := Lib.hid hRx
   have Z := Lib.hid hZ
   have B := Lib.hid hB
   clear hO hRd hAp hgot hbt hbf hA hRx hZ hB
   dsimp only at OW RD
   cases b with
   | true =>
    have HT := Lib.hid (BT.out rfl)
    clear BT BF
    by_cases hk0 : gk = 0
    ·subst hk0
     obtain ⟨r2, hr2'⟩ : ∃ r2, downN m c (xp, xl) = r2 := ⟨_, rfl⟩
     have HR2D := Lib.hid hr2'
     clear hr2'
     go_wp2
     go_loopg [5, 7] c (fun g v5 v6 wx => ∃ y ak nk ck b, v5 = .bool b ∧ v6 = .int .i64 (g : Nat) ∧ g ≤ c ∧ At3 wx g4 (.int .i64 m) (.int .i64 y.1) (.slice ak nk ck) ∧ ReadsA wx ak nk y.2 ∧ (nk = 0 ∨ ∀ z, ak = some z → z.block ≠ w.heap.size ∧ z.block ≠ w.heap.size + 1) ∧ nk ≤ ck ∧ Got m (xp, xl) y ∧ (b = true → (r1 = some y ∨ r1 = none ∧ r2 = some y)) ∧ (b = false → (r1 = none ∧ riseN (decS m) (downG (xp, xl)) g y = r2)) ∧ At3 wx w.heap.size (.int .i64 m) (.int .i64 xp) (.slice ax nx cx) ∧ ReadsA wx ax nx xl ∧ At3 wx (w.heap.size + 1) (.int .i64 0) (.int .i64 0) (.slice none 0 0) ∧ Below w.heap.size w wx)
     case atStart => exact ⟨(yp, yl), ak, nk, ck, true, rfl, rfl, Nat.le_refl _, OW.out, RD.out, AY.out, hck, GY.out, fun _ => .inl HT.out, fun h => (by cases h), A.out, RX.out, Z.out, B.out⟩
     case round =>
      obtain ⟨⟨yp, yl⟩, ak, nk, ck, b, rfl, rfl, hgc, hO, hRd, hAp, hck, hgot, hbt, hbf, hA, hRx, hZ, hB⟩ := hrel
      clear OW A RX Z B
      have OW := Lib.hid hO
      have RD := Lib.hid hRd
      have AY := Lib.hid hAp
      have GY := Lib.hid hgot
      have BT := Lib.hid hbt
      have BF := Lib.hid hbf
      have A := Lib.hid hA
      have RX := Lib.hid hRx
      have Z := Lib.hid hZ
      have B := Lib.hid hB
      clear hO hRd hAp hgot hbt hbf hA hRx hZ hB
      dsimp only at OW RD
      cases b with
      | true =>
       have HT := Lib.hid (BT.out rfl)
       clear BT BF
       by_cases hk0 : gk = 0
       ·subst hk0
        obtain ⟨q1, q2, q3⟩ := OW.out.all
        obtain ⟨x0, ⟨x1, x2, x3⟩, y1, y2, y3⟩ := A.out
        have hok : yl.length < xl.length ∧ ∀ f, summitN m c (f + 1) (xp, xl) = summitN m c f (yp, yl) := by
         rcases HT.out with h | ⟨h, h'⟩
         ·exact ⟨(upN_some GX.out.nl (HR1.out.trans h)).2, fun f => summitN_up (HR1.out.trans h)⟩
         ·exact ⟨(downN_some GX.out.nl (HR2D.out.trans h')).2, fun f => summitN_down (HR1.out.trans h) (HR2D.out.trans h')⟩
        have hgo1 : go = (go - 1) + 1 := by omega
        have SM2 : Hid (summitN m c (go - 1) (yp, yl) = (e, kf)) := Lib.hid (by have h := SM.out; rw [← hgo, hgo1, hok.2] at h; exact h)
        have hlen2 : yl.length ≤ go - 1 := by omega
        clear hgo1
        have hlt5 := hlt4
        have hay1 : nk = 0 ∨ ∀ z, ak = some z → z.block ≠ w.heap.size := AY.out.imp id fun h z hz => (h z hz).1
        go_wp2
        go_roundg (go - 1)
        case measure => omega
        case rel => exact ⟨(yp, yl), ak, nk, ck, hlen2, A.out.fill _ _ _, RD.out.past3 hay1 _ _ _, AY.out, hck, GX.out.trans GY.out, SM2.out, Z.out.set3 (g2 := w.heap.size) (by omega) _ _ _, below_set3 B.out (g2 := w.heap.size) (Nat.le_refl _) _ _ _⟩
       ·have hg0 : (0 : Int) < (gk : Int) := by omega
        obtain ⟨q1, q2, q3⟩ := OW.out.all
        obtain ⟨x0, ⟨x1, x2, x3⟩, y1, y2, y3⟩ := A.out
        have hok : yl.length < xl.length ∧ ∀ f, summitN m c (f + 1) (xp, xl) = summitN m c f (yp, yl) := by
         rcases HT.out with h | ⟨h, h'⟩
         ·exact ⟨(upN_some GX.out.nl (HR1.out.trans h)).2, fun f => summitN_up (HR1.out.trans h)⟩
         ·exact ⟨(downN_some GX.out.nl (HR2D.out.trans h')).2, fun f => summitN_down (HR1.out.trans h) (HR2D.out.trans h')⟩
        have hgo1 : go = (go - 1) + 1 := by omega
        have SM2 : Hid (summitN m c (go - 1) (yp, yl) = (e, kf)) := Lib.hid (by have h := SM.out; rw [← hgo, hgo1, hok.2] at h; exact h)
        have hlen2 : yl.length ≤ go - 1 := by omega
        clear hgo1
        have hlt5 := hlt4
        have hay1 : nk = 0 ∨ ∀ z, ak = some z → z.block ≠ w.heap.size := AY.out.imp id fun h z hz => (h z hz).1
        go_wp2
        go_roundg (go - 1)
        case measure => omega
        case rel => exact ⟨(yp, yl), ak, nk, ck, hlen2, A.out.fill _ _ _, RD.out.past3 hay1 _ _ _, AY.out, hck, GX.out.trans GY.out, SM2.out, Z.out.set3 (g2 := w.heap.size) (by omega) _ _ _, below_set3 B.out (g2 := w.heap.size) (Nat.le_refl _) _ _ _⟩
      | false =>
       by_cases hk0 : gk = 0
       ·subst hk0
        have HF := Lib.hid (BF.out rfl)
        clear BT BF
        have hend := SM.out
        rw [summitN_end (HR1.out.trans HF.out.1) (HR2D.out.trans (HF.out.2.symm.trans rfl))] at hend
        simp only [Prod.mk.injEq] at hend
        obtain ⟨rfl, rfl⟩ := hend
        have hax1 : nx = 0 ∨ ∀ z, ax = some z → z.block ≠ w.heap.size + 1 := AX.out.imp id fun h z hz => (h z hz).2
        obtain ⟨q1, q2, q3⟩ := A.out.all
        obtain ⟨x0, ⟨x1, x2, x3⟩, y1, y2, y3⟩ := Z.out
        obtain ⟨_, ⟨z1, z2, z3⟩, _⟩ := Z.out.fill (.int .i64 m) (.int .i64 xp) (.slice ax nx cx)
        go_wp2
        try rw [Exit.noGoto_ret]
        exact bodyPost_ret (v := .agg #[.int .i64 m, .int .i64 xp, .slice ax nx cx]) (by simp [results, Try.results22, go_sem, z1, z2, z3]) rfl ⟨ax, nx, cx, rfl, hcx, RX.out.past3 hax1 _ _ _, below_set3 B.out (by omega) _ _ _⟩
       ·have hg0 : (0 : Int) < (gk : Int) := by omega
        have HF := Lib.hid (BF.out rfl)
        clear BT BF
        have hny := RD.out.len
        have hy1 := GY.out.len
        have hy2 := GY.out.low
        have hy3 := GY.out.top
        have hx1 := HG.out.1
        have hx2 := HG.out.2.1
        have hx3 := HG.out.2.2
        dsimp only at hy1 hy2 hy3 hx1 hx2 hx3
        rw [HN.out] at hx1 hx3
        obtain ⟨e3, l3, h3⟩ : ∃ e3 l3, decN m yp yl = (e3, l3) := ⟨_, _, rfl⟩
        have H3 := Lib.hid h3
        have G3 : Hid (Got m (xp, xl) (e3, l3)) := Lib.hid (by have := GY.out.dec; unfold decS at this; rw [h3] at this; exact this)
        have hk1 : gk = (gk - 1) + 1 := by omega
        have RI : Hid ((if downG (xp, xl) (e3, l3) = true then some (e3, l3) else riseN (decS m) (downG (xp, xl)) (gk - 1) (e3, l3)) = r2) := Lib.hid (by have h := HF.out.2; rw [hk1, riseN, show decS m (yp, yl) = (e3, l3) from h3] at h; exact h)
        have RN := Lib.hid HF.out.1
        clear h3 hk1 HF
        have hh1 := G3.out.len
        have hh2 := G3.out.low
        have hh3 := G3.out.top
        dsimp only at hh1 hh2 hh3
        obtain ⟨q1, q2, q3⟩ := OW.out.all
        go_wp2_with fail
        refine (l04Decycle_own m m1 m8 yp (by omega) ak nk ck hck yl wr RD.out GY.out.nl.sims (by omega) e3 l3 H3.out).mono ?_
        rintro e w5 ⟨a5, n5, c5, rfl, hc5, ho, gg⟩
        have hzw : g4 < wr.heap.size := OW.out.1
        have hz5 : wr.heap.size ≤ w5.heap.size := gg.size
        have hn5 := ho.len
        have hap := ho.apart (g := g4) hzw
        have hap2 : n5 = 0 ∨ ∀ z, a5 = some z → z.block ≠ w.heap.size ∧ z.block ≠ w.heap.size + 1 := by
         rcases ho.apart (g := w.heap.size) (by omega) with h | h
         ·exact .inl h
         ·rcases ho.apart (g := w.heap.size + 1) (by omega) with h2 | h2
          ·exact .inl h2
          ·exact .inr fun z hz => ⟨h z hz, h2 z hz⟩
        replace A := Lib.hid ((A.out.below gg).set3 (g2 := g4) (by omega) (.int .i64 m) (.int .i64 e3) (.slice a5 n5 c5))
        replace Z := Lib.hid ((Z.out.below gg).set3 (g2 := g4) (by omega) (.int .i64 m) (.int .i64 e3) (.slice a5 n5 c5))
        replace RX := Lib.hid ((RX.out.below gg).past3 AX4.out (.int .i64 m) (.int .i64 e3) (.slice a5 n5 c5))
        replace B := Lib.hid (below_set3 (below_go B.out gg B.out.size) (g2 := g4) (by omega) (.int .i64 m) (.int .i64 e3) (.slice a5 n5 c5))
        have RN5 := Lib.hid (ho.past3 hap (.int .i64 m) (.int .i64 e3) (.slice a5 n5 c5)).reads
        have OW2 := Lib.hid ((OW.out.below gg).fill (.int .i64 m) (.int .i64 e3) (.slice a5 n5 c5))
        obtain ⟨x0, ⟨x1, x2, x3⟩, y1, y2, y3⟩ := OW.out.below gg
        clear q1 q2 q3 ho
        go_upto_region 14 with fail
        obtain ⟨V, hV⟩ : ∃ Vx, Vx = (((w5.setCell ⟨g4, 0, none⟩ (.int .i64 m)).setCell ⟨g4, 1, none⟩ (.int .i64 e3)).setCell ⟨g4, 2, none⟩ (.slice a5 n5 c5)) := ⟨_, rfl⟩
        rw [← hV] at A Z RX B RN5 OW2 ⊢
        clear hV x0 x1 x2 x3 y1 y2 y3 OW gg RD
        obtain ⟨q1, q2, q3⟩ := OW2.out.all
        obtain ⟨s1, s2, s3⟩ := A.out.all
        have hww1 : IntKind.i64.wrap (e3 + (n5 : Int)) = e3 + (n5 : Int) := IntWalk.i64_in _ (by omega)
        have hww2 : IntKind.i64.wrap (xp + (nx : Int)) = xp + (nx : Int) := IntWalk.i64_in _ (by omega)
        have hww3 : IntKind.i64.wrap (n5 : Int) = (n5 : Int) := IntWalk.i64_in _ (by omega)
        have hww4 : IntKind.i64.wrap (nx : Int) = (nx : Int) := IntWalk.i64_in _ (by omega)
        have hdg : downG (xp, xl) (e3, l3) = decide (e3 + (n5 : Int) < xp + (nx : Int)) := by unfold downG; dsimp only; rw [hn5, hnx]
        by_cases hg : e3 + (n5 : Int) < xp + (nx : Int)
        ·have hr2 := RI.out
         rw [if_pos (by rw [hdg]; exact decide_eq_true hg)] at hr2
         have HR2 := Lib.hid hr2
         clear hr2 hdg
         go_wp2
         go_roundg (gk - 1)
         case measure => omega
         case rel => exact ⟨(e3, l3), a5, n5, c5, true, rfl, by go_num, by omega, OW2.out, RN5.out, hap2, hc5, G3.out, fun _ => .inr ⟨RN.out, HR2.out.symm⟩, fun h => (by cases h), A.out, RX.out, Z.out, B.out⟩
        ·have hr2 := RI.out
         rw [if_neg (by rw [hdg]; simpa using hg)] at hr2
         have HR2 := Lib.hid hr2
         clear hr2 hdg
         go_wp2
         go_roundg (gk - 1)
         case measure => omega
         case rel => exact ⟨(e3, l3), a5, n5, c5, false, rfl, by go_num, by omega, OW2.out, RN5.out, hap2, hc5, G3.out, fun h => (by cases h), fun _ => ⟨RN.out, HR2.out⟩, A.out, RX.out, Z.out, B.out⟩
    ·have hg0 : (0 : Int) < (gk : Int) := by omega
     obtain ⟨r2, hr2'⟩ : ∃ r2, downN m c (xp, xl) = r2 := ⟨_, rfl⟩
     have HR2D := Lib.hid hr2'
     clear hr2'
     go_wp2
     go_loopg [5, 7] c (fun g v5 v6 wx => ∃ y ak nk ck b, v5 = .bool b ∧ v6 = .int .i64 (g : Nat) ∧ g ≤ c ∧ At3 wx g4 (.int .i64 m) (.int .i64 y.1) (.slice ak nk ck) ∧ ReadsA wx ak nk y.2 ∧ (nk = 0 ∨ ∀ z, ak = some z → z.block ≠ w.heap.size ∧ z.block ≠ w.heap.size + 1) ∧ nk ≤ ck ∧ Got m (xp, xl) y ∧ (b = true → (r1 = some y ∨ r1 = none ∧ r2 = some y)) ∧ (b = false → (r1 = none ∧ riseN (decS m) (downG (xp, xl)) g y = r2)) ∧ At3 wx w.heap.size (.int .i64 m) (.int .i64 xp) (.slice ax nx cx) ∧ ReadsA wx ax nx xl ∧ At3 wx (w.heap.size + 1) (.int .i64 0) (.int .i64 0) (.slice none 0 0) ∧ Below w.heap.size w wx)
     case atStart => exact ⟨(yp, yl), ak, nk, ck, true, rfl, rfl, Nat.le_refl _, OW.out, RD.out, AY.out, hck, GY.out, fun _ => .inl HT.out, fun h => (by cases h), A.out, RX.out, Z.out, B.out⟩
     case round =>
      obtain ⟨⟨yp, yl⟩, ak, nk, ck, b, rfl, rfl, hgc, hO, hRd, hAp, hck, hgot, hbt, hbf, hA, hRx, hZ, hB⟩ := hrel
      clear OW A RX Z B
      have OW := Lib.hid hO
      have RD := Lib.hid hRd
      have AY := Lib.hid hAp
      have GY := Lib.hid hgot
      have BT := Lib.hid hbt
      have BF := Lib.hid hbf
      have A := Lib.hid hA
      have RX := Lib.hid hRx
      have Z := Lib.hid hZ
      have B := Lib.hid hB
      clear hO hRd hAp hgot hbt hbf hA hRx hZ hB
      dsimp only at OW RD
      cases b with
      | true =>
       have HT := Lib.hid (BT.out rfl)
       clear BT BF
       by_cases hk0 : gk = 0
       ·subst hk0
        obtain ⟨q1, q2, q3⟩ := OW.out.all
        obtain ⟨x0, ⟨x1, x2, x3⟩, y1, y2, y3⟩ := A.out
        have hok : yl.length < xl.length ∧ ∀ f, summitN m c (f + 1) (xp, xl) = summitN m c f (yp, yl) := by
         rcases HT.out with h | ⟨h, h'⟩
         ·exact ⟨(upN_some GX.out.nl (HR1.out.trans h)).2, fun f => summitN_up (HR1.out.trans h)⟩
         ·exact ⟨(downN_some GX.out.nl (HR2D.out.trans h')).2, fun f => summitN_down (HR1.out.trans h) (HR2D.out.trans h')⟩
        have hgo1 : go = (go - 1) + 1 := by omega
        have SM2 : Hid (summitN m c (go - 1) (yp, yl) = (e, kf)) := Lib.hid (by have h := SM.out; rw [← hgo, hgo1, hok.2] at h; exact h)
        have hlen2 : yl.length ≤ go - 1 := by omega
        clear hgo1
        have hlt5 := hlt4
        have hay1 : nk = 0 ∨ ∀ z, ak = some z → z.block ≠ w.heap.size := AY.out.imp id fun h z hz => (h z hz).1
        go_wp2
        go_roundg (go - 1)
        case measure => omega
        case rel => exact ⟨(yp, yl), ak, nk, ck, hlen2, A.out.fill _ _ _, RD.out.past3 hay1 _ _ _, AY.out, hck, GX.out.trans GY.out, SM2.out, Z.out.set3 (g2 := w.heap.size) (by omega) _ _ _, below_set3 B.out (g2 := w.heap.size) (Nat.le_refl _) _ _ _⟩
       ·have hg0 : (0 : Int) < (gk : Int) := by omega
        obtain ⟨q1, q2, q3⟩ := OW.out.all
        obtain ⟨x0, ⟨x1, x2, x3⟩, y1, y2, y3⟩ := A.out
        have hok : yl.length < xl.length ∧ ∀ f, summitN m c (f + 1) (xp, xl) = summitN m c f (yp, yl) := by
         rcases HT.out with h | ⟨h, h'⟩
         ·exact ⟨(upN_some GX.out.nl (HR1.out.trans h)).2, fun f => summitN_up (HR1.out.trans h)⟩
         ·exact ⟨(downN_some GX.out.nl (HR2D.out.trans h')).2, fun f => summitN_down (HR1.out.trans h) (HR2D.out.trans h')⟩
        have hgo1 : go = (go - 1) + 1 := by omega
        have SM2 : Hid (summitN m c (go - 1) (yp, yl) = (e, kf)) := Lib.hid (by have h := SM.out; rw [← hgo, hgo1, hok.2] at h; exact h)
        have hlen2 : yl.length ≤ go - 1 := by omega
        clear hgo1
        have hlt5 := hlt4
        have hay1 : nk = 0 ∨ ∀ z, ak = some z → z.block ≠ w.heap.size := AY.out.imp id fun h z hz => (h z hz).1
        go_wp2
        go_roundg (go - 1)
        case measure => omega
        case rel => exact ⟨(yp, yl), ak, nk, ck, hlen2, A.out.fill _ _ _, RD.out.past3 hay1 _ _ _, AY.out, hck, GX.out.trans GY.out, SM2.out, Z.out.set3 (g2 := w.heap.size) (by omega) _ _ _, below_set3 B.out (g2 := w.heap.size) (Nat.le_refl _) _ _ _⟩
      | false =>
       by_cases hk0 : gk = 0
       ·subst hk0
        have HF := Lib.hid (BF.out rfl)
        clear BT BF
        have hend := SM.out
        rw [summitN_end (HR1.out.trans HF.out.1) (HR2D.out.trans (HF.out.2.symm.trans rfl))] at hend
        simp only [Prod.mk.injEq] at hend
        obtain ⟨rfl, rfl⟩ := hend
        have hax1 : nx = 0 ∨ ∀ z, ax = some z → z.block ≠ w.heap.size + 1 := AX.out.imp id fun h z hz => (h z hz).2
        obtain ⟨q1, q2, q3⟩ := A.out.all
        obtain ⟨x0, ⟨x1, x2, x3⟩, y1, y2, y3⟩ := Z.out
        obtain ⟨_, ⟨z1, z2, z3⟩, _⟩ := Z.out.fill (.int .i64 m) (.int .i64 xp) (.slice ax nx cx)
        go_wp2
        try rw [Exit.noGoto_ret]
        exact bodyPost_ret (v := .agg #[.int .i64 m, .int .i64 xp, .slice ax nx cx]) (by simp [results, Try.results22, go_sem, z1, z2, z3]) rfl ⟨ax, nx, cx, rfl, hcx, RX.out.past3 hax1 _ _ _, below_set3 B.out (by omega) _ _ _⟩
       ·have hg0 : (0 : Int) < (gk : Int) := by omega
        have HF := Lib.hid (BF.out rfl)
        clear BT BF
        have hny := RD.out.len
        have hy1 := GY.out.len
        have hy2 := GY.out.low
        have hy3 := GY.out.top
        have hx1 := HG.out.1
        have hx2 := HG.out.2.1
        have hx3 := HG.out.2.2
        dsimp only at hy1 hy2 hy3 hx1 hx2 hx3
        rw [HN.out] at hx1 hx3
        obtain ⟨e3, l3, h3⟩ : ∃ e3 l3, decN m yp yl = (e3, l3) := ⟨_, _, rfl⟩
        have H3 := Lib.hid h3
        have G3 : Hid (Got m (xp, xl) (e3, l3)) := Lib.hid (by have := GY.out.dec; unfold decS at this; rw [h3] at this; exact this)
        have hk1 : gk = (gk - 1) + 1 := by omega
        have RI : Hid ((if downG (xp, xl) (e3, l3) = true then some (e3, l3) else riseN (decS m) (downG (xp, xl)) (gk - 1) (e3, l3)) = r2) := Lib.hid (by have h := HF.out.2; rw [hk1, riseN, show decS m (yp, yl) = (e3, l3) from h3] at h; exact h)
        have RN := Lib.hid HF.out.1
        clear h3 hk1 HF
        have hh1 := G3.out.len
        have hh2 := G3.out.low
        have hh3 := G3.out.top
        dsimp only at hh1 hh2 hh3
        obtain ⟨q1, q2, q3⟩ := OW.out.all
        go_wp2_with fail
        refine (l04Decycle_own m m1 m8 yp (by omega) ak nk ck hck yl wr RD.out GY.out.nl.sims (by omega) e3 l3 H3.out).mono ?_
        rintro e w5 ⟨a5, n5, c5, rfl, hc5, ho, gg⟩
        have hzw : g4 < wr.heap.size := OW.out.1
        have hz5 : wr.heap.size ≤ w5.heap.size := gg.size
        have hn5 := ho.len
        have hap := ho.apart (g := g4) hzw
        have hap2 : n5 = 0 ∨ ∀ z, a5 = some z → z.block ≠ w.heap.size ∧ z.block ≠ w.heap.size + 1 := by
         rcases ho.apart (g := w.heap.size) (by omega) with h | h
         ·exact .inl h
         ·rcases ho.apart (g := w.heap.size + 1) (by omega) with h2 | h2
          ·exact .inl h2
          ·exact .inr fun z hz => ⟨h z hz, h2 z hz⟩
        replace A := Lib.hid ((A.out.below gg).set3 (g2 := g4) (by omega) (.int .i64 m) (.int .i64 e3) (.slice a5 n5 c5))
        replace Z := Lib.hid ((Z.out.below gg).set3 (g2 := g4) (by omega) (.int .i64 m) (.int .i64 e3) (.slice a5 n5 c5))
        replace RX := Lib.hid ((RX.out.below gg).past3 AX4.out (.int .i64 m) (.int .i64 e3) (.slice a5 n5 c5))
        replace B := Lib.hid (below_set3 (below_go B.out gg B.out.size) (g2 := g4) (by omega) (.int .i64 m) (.int .i64 e3) (.slice a5 n5 c5))
        have RN5 := Lib.hid (ho.past3 hap (.int .i64 m) (.int .i64 e3) (.slice a5 n5 c5)).reads
        have OW2 := Lib.hid ((OW.out.below gg).fill (.int .i64 m) (.int .i64 e3) (.slice a5 n5 c5))
        obtain ⟨x0, ⟨x1, x2, x3⟩, y1, y2, y3⟩ := OW.out.below gg
        clear q1 q2 q3 ho
        go_upto_region 14 with fail
        obtain ⟨V, hV⟩ : ∃ Vx, Vx = (((w5.setCell ⟨g4, 0, none⟩ (.int .i64 m)).setCell ⟨g4, 1, none⟩ (.int .i64 e3)).setCell ⟨g4, 2, none⟩ (.slice a5 n5 c5)) := ⟨_, rfl⟩
        rw [← hV] at A Z RX B RN5 OW2 ⊢
        clear hV x0 x1 x2 x3 y1 y2 y3 OW gg RD
        obtain ⟨q1, q2, q3⟩ := OW2.out.all
        obtain ⟨s1, s2, s3⟩ := A.out.all
        have hww1 : IntKind.i64.wrap (e3 + (n5 : Int)) = e3 + (n5 : Int) := IntWalk.i64_in _ (by omega)
        have hww2 : IntKind.i64.wrap (xp + (nx : Int)) = xp + (nx : Int) := IntWalk.i64_in _ (by omega)
        have hww3 : IntKind.i64.wrap (n5 : Int) = (n5 : Int) := IntWalk.i64_in _ (by omega)
        have hww4 : IntKind.i64.wrap (nx : Int) = (nx : Int) := IntWalk.i64_in _ (by omega)
        have hdg : downG (xp, xl) (e3, l3) = decide (e3 + (n5 : Int) < xp + (nx : Int)) := by unfold downG; dsimp only; rw [hn5, hnx]
        by_cases hg : e3 + (n5 : Int) < xp + (nx : Int)
        ·have hr2 := RI.out
         rw [if_pos (by rw [hdg]; exact decide_eq_true hg)] at hr2
         have HR2 := Lib.hid hr2
         clear hr2 hdg
         go_wp2
         go_roundg (gk - 1)
         case measure => omega
         case rel => exact ⟨(e3, l3), a5, n5, c5, true, rfl, by go_num, by omega, OW2.out, RN5.out, hap2, hc5, G3.out, fun _ => .inr ⟨RN.out, HR2.out.symm⟩, fun h => (by cases h), A.out, RX.out, Z.out, B.out⟩
        ·have hr2 := RI.out
         rw [if_neg (by rw [hdg]; simpa using hg)] at hr2
         have HR2 := Lib.hid hr2
         clear hr2 hdg
         go_wp2
         go_roundg (gk - 1)
         case measure => omega
         case rel => exact ⟨(e3, l3), a5, n5, c5, false, rfl, by go_num, by omega, OW2.out, RN5.out, hap2, hc5, G3.out, fun h => (by cases h), fun _ => ⟨RN.out, HR2.out⟩, A.out, RX.out, Z.out, B.out⟩
   | false =>
    by_cases hk0 : gk = 0
    ·subst hk0
     have HF := Lib.hid (BF.out rfl)
     clear BT BF
     obtain ⟨r2, hr2'⟩ : ∃ r2, downN m c (xp, xl) = r2 := ⟨_, rfl⟩
     have HR2D := Lib.hid hr2'
     clear hr2'
     have HRN : Hid (r1 = none) := Lib.hid HF.out.symm
     obtain ⟨q1, q2, q3⟩ := A.out.all
     obtain ⟨x0, ⟨x1, x2, x3⟩, y1, y2, y3⟩ := OW.out
     have OW2 := Lib.hid (OW.out.fill (.int .i64 m) (.int .i64 xp) (.slice ax nx cx))
     replace A := Lib.hid (A.out.set3 (g2 := g4) (by omega) (.int .i64 m) (.int .i64 xp) (.slice ax nx cx))
     replace Z := Lib.hid (Z.out.set3 (g2 := g4) (by omega) (.int .i64 m) (.int .i64 xp) (.slice ax nx cx))
     replace RX := Lib.hid (RX.out.past3 AX4.out (.int .i64 m) (.int .i64 xp) (.slice ax nx cx))
     replace B := Lib.hid (below_set3 B.out (g2 := g4) (by omega) (.int .i64 m) (.int .i64 xp) (.slice ax nx cx))
     go_upto_region 10 with fail
     obtain ⟨V0, hV0⟩ : ∃ Vx, Vx = (((wr.setCell ⟨g4, 0, none⟩ (.int .i64 m)).setCell ⟨g4, 1, none⟩ (.int .i64 xp)).setCell ⟨g4, 2, none⟩ (.slice ax nx cx)) := ⟨_, rfl⟩
     rw [← hV0] at A Z RX B OW2 ⊢
     clear hV0 q1 q2 q3 x0 x1 x2 x3 y1 y2 y3 OW RD
     have OW := OW2
     have RD := RX
     go_wp2
     go_loopg [5, 7] c (fun g v5 v6 wx => ∃ y ak nk ck b, v5 = .bool b ∧ v6 = .int .i64 (g : Nat) ∧ g ≤ c ∧ At3 wx g4 (.int .i64 m) (.int .i64 y.1) (.slice ak nk ck) ∧ ReadsA wx ak nk y.2 ∧ (nk = 0 ∨ ∀ z, ak = some z → z.block ≠ w.heap.size ∧ z.block ≠ w.heap.size + 1) ∧ nk ≤ ck ∧ Got m (xp, xl) y ∧ (b = true → (r1 = some y ∨ r1 = none ∧ r2 = some y)) ∧ (b = false → (r1 = none ∧ riseN (decS m) (downG (xp, xl)) g y = r2)) ∧ At3 wx w.heap.size (.int .i64 m) (.int .i64 xp) (.slice ax nx cx) ∧ ReadsA wx ax nx xl ∧ At3 wx (w.heap.size + 1) (.int .i64 0) (.int .i64 0) (.slice none 0 0) ∧ Below w.heap.size w wx)
     case atStart => exact ⟨(xp, xl), ax, nx, cx, false, rfl, rfl, Nat.le_refl _, OW.out, RX.out, AX.out, hcx, Got.refl GX.out.nl, fun h => (by cases h), fun _ => ⟨HRN.out, HR2D.out⟩, A.out, RX.out, Z.out, B.out⟩
     case round =>
      obtain ⟨⟨yp, yl⟩, ak, nk, ck, b, rfl, rfl, hgc, hO, hRd, hAp, hck, hgot, hbt, hbf, hA, hRx, hZ, hB⟩ := hrel
      clear OW A RX Z B
      have OW := Lib.hid hO
      have RD := Lib.hid hRd
      have AY := Lib.hid hAp
      have GY := Lib.hid hgot
      have BT := Lib.hid hbt
      have BF := Lib.hid hbf
      have A := Lib.hid hA
      have RX := Lib.hid hRx
      have Z := Lib.hid hZ
      have B := Lib.hid hB
      clear hO hRd hAp hgot hbt hbf hA hRx hZ hB
      dsimp only at OW RD
      cases b with
      | true =>
       have HT := Lib.hid (BT.out rfl)
       clear BT BF
       by_cases hk0 : gk = 0
       ·subst hk0
        obtain ⟨q1, q2, q3⟩ := OW.out.all
        obtain ⟨x0, ⟨x1, x2, x3⟩, y1, y2, y3⟩ := A.out
        have hok : yl.length < xl.length ∧ ∀ f, summitN m c (f + 1) (xp, xl) = summitN m c f (yp, yl) := by
         rcases HT.out with h | ⟨h, h'⟩
         ·exact ⟨(upN_some GX.out.nl (HR1.out.trans h)).2, fun f => summitN_up (HR1.out.trans h)⟩
         ·exact ⟨(downN_some GX.out.nl (HR2D.out.trans h')).2, fun f => summitN_down (HR1.out.trans h) (HR2D.out.trans h')⟩
        have hgo1 : go = (go - 1) + 1 := by omega
        have SM2 : Hid (summitN m c (go - 1) (yp, yl) = (e, kf)) := Lib.hid (by have h := SM.out; rw [← hgo, hgo1, hok.2] at h; exact h)
        have hlen2 : yl.length ≤ go - 1 := by omega
        clear hgo1
        have hlt5 := hlt4
        have hay1 : nk = 0 ∨ ∀ z, ak = some z → z.block ≠ w.heap.size := AY.out.imp id fun h z hz => (h z hz).1
        go_wp2
        go_roundg (go - 1)
        case measure => omega
        case rel => exact ⟨(yp, yl), ak, nk, ck, hlen2, A.out.fill _ _ _, RD.out.past3 hay1 _ _ _, AY.out, hck, GX.out.trans GY.out, SM2.out, Z.out.set3 (g2 := w.heap.size) (by omega) _ _ _, below_set3 B.out (g2 := w.heap.size) (Nat.le_refl _) _ _ _⟩
       ·have hg0 : (0 : Int) < (gk : Int) := by omega
        obtain ⟨q1, q2, q3⟩ := OW.out.all
        obtain ⟨x0, ⟨x1, x2, x3⟩, y1, y2, y3⟩ := A.out
        have hok : yl.length < xl.length ∧ ∀ f, summitN m c (f + 1) (xp, xl) = summitN m c f (yp, yl) := by
         rcases HT.out with h | ⟨h, h'⟩
         ·exact ⟨(upN_some GX.out.nl (HR1.out.trans h)).2, fun f => summitN_up (HR1.out.trans h)⟩
         ·exact ⟨(downN_some GX.out.nl (HR2D.out.trans h')).2, fun f => summitN_down (HR1.out.trans h) (HR2D.out.trans h')⟩
        have hgo1 : go = (go - 1) + 1 := by omega
        have SM2 : Hid (summitN m c (go - 1) (yp, yl) = (e, kf)) := Lib.hid (by have h := SM.out; rw [← hgo, hgo1, hok.2] at h; exact h)
        have hlen2 : yl.length ≤ go - 1 := by omega
        clear hgo1
        have hlt5 := hlt4
        have hay1 : nk = 0 ∨ ∀ z, ak = some z → z.block ≠ w.heap.size := AY.out.imp id fun h z hz => (h z hz).1
        go_wp2
        go_roundg (go - 1)
        case measure => omega
        case rel => exact ⟨(yp, yl), ak, nk, ck, hlen2, A.out.fill _ _ _, RD.out.past3 hay1 _ _ _, AY.out, hck, GX.out.trans GY.out, SM2.out, Z.out.set3 (g2 := w.heap.size) (by omega) _ _ _, below_set3 B.out (g2 := w.heap.size) (Nat.le_refl _) _ _ _⟩
      | false =>
       by_cases hk0 : gk = 0
       ·subst hk0
        have HF := Lib.hid (BF.out rfl)
        clear BT BF
        have hend := SM.out
        rw [summitN_end (HR1.out.trans HF.out.1) (HR2D.out.trans (HF.out.2.symm.trans rfl))] at hend
        simp only [Prod.mk.injEq] at hend
        obtain ⟨rfl, rfl⟩ := hend
        have hax1 : nx = 0 ∨ ∀ z, ax = some z → z.block ≠ w.heap.size + 1 := AX.out.imp id fun h z hz => (h z hz).2
        obtain ⟨q1, q2, q3⟩ := A.out.all
        obtain ⟨x0, ⟨x1, x2, x3⟩, y1, y2, y3⟩ := Z.out
        obtain ⟨_, ⟨z1, z2, z3⟩, _⟩ := Z.out.fill (.int .i64 m) (.int .i64 xp) (.slice ax nx cx)
        go_wp2
        try rw [Exit.noGoto_ret]
        exact bodyPost_ret (v := .agg #[.int .i64 m, .int .i64 xp, .slice ax nx cx]) (by simp [results, Try.results22, go_sem, z1, z2, z3]) rfl ⟨ax, nx, cx, rfl, hcx, RX.out.past3 hax1 _ _ _, below_set3 B.out (by omega) _ _ _⟩
       ·have hg0 : (0 : Int) < (gk : Int) := by omega
        have HF := Lib.hid (BF.out rfl)
        clear BT BF
        have hny := RD.out.len
        have hy1 := GY.out.len
        have hy2 := GY.out.low
        have hy3 := GY.out.top
        have hx1 := HG.out.1
        have hx2 := HG.out.2.1
        have hx3 := HG.out.2.2
        dsimp only at hy1 hy2 hy3 hx1 hx2 hx3
        rw [HN.out] at hx1 hx3
        obtain ⟨e3, l3, h3⟩ : ∃ e3 l3, decN m yp yl = (e3, l3) := ⟨_, _, rfl⟩
        have H3 := Lib.hid h3
        have G3 : Hid (Got m (xp, xl) (e3, l3)) := Lib.hid (by have := GY.out.dec; unfold decS at this; rw [h3] at this; exact this)
        have hk1 : gk = (gk - 1) + 1 := by omega
        have RI : Hid ((if downG (xp, xl) (e3, l3) = true then some (e3, l3) else riseN (decS m) (downG (xp, xl)) (gk - 1) (e3, l3)) = r2) := Lib.hid (by have h := HF.out.2; rw [hk1, riseN, show decS m (yp, yl) = (e3, l3) from h3] at h; exact h)
        have RN := Lib.hid HF.out.1
        clear h3 hk1 HF
        have hh1 := G3.out.len
        have hh2 := G3.out.low
        have hh3 := G3.out.top
        dsimp only at hh1 hh2 hh3
        obtain ⟨q1, q2, q3⟩ := OW.out.all
        go_wp2_with fail
        refine (l04Decycle_own m m1 m8 yp (by omega) ak nk ck hck yl wr RD.out GY.out.nl.sims (by omega) e3 l3 H3.out).mono ?_
        rintro e w5 ⟨a5, n5, c5, rfl, hc5, ho, gg⟩
        have hzw : g4 < wr.heap.size := OW.out.1
        have hz5 : wr.heap.size ≤ w5.heap.size := gg.size
        have hn5 := ho.len
        have hap := ho.apart (g := g4) hzw
        have hap2 : n5 = 0 ∨ ∀ z, a5 = some z → z.block ≠ w.heap.size ∧ z.block ≠ w.heap.size + 1 := by
         rcases ho.apart (g := w.heap.size) (by omega) with h | h
         ·exact .inl h
         ·rcases ho.apart (g := w.heap.size + 1) (by omega) with h2 | h2
          ·exact .inl h2
          ·exact .inr fun z hz => ⟨h z hz, h2 z hz⟩
        replace A := Lib.hid ((A.out.below gg).set3 (g2 := g4) (by omega) (.int .i64 m) (.int .i64 e3) (.slice a5 n5 c5))
        replace Z := Lib.hid ((Z.out.below gg).set3 (g2 := g4) (by omega) (.int .i64 m) (.int .i64 e3) (.slice a5 n5 c5))
        replace RX := Lib.hid ((RX.out.below gg).past3 AX4.out (.int .i64 m) (.int .i64 e3) (.slice a5 n5 c5))
        replace B := Lib.hid (below_set3 (below_go B.out gg B.out.size) (g2 := g4) (by omega) (.int .i64 m) (.int .i64 e3) (.slice a5 n5 c5))
        have RN5 := Lib.hid (ho.past3 hap (.int .i64 m) (.int .i64 e3) (.slice a5 n5 c5)).reads
        have OW2 := Lib.hid ((OW.out.below gg).fill (.int .i64 m) (.int .i64 e3) (.slice a5 n5 c5))
        obtain ⟨x0, ⟨x1, x2, x3⟩, y1, y2, y3⟩ := OW.out.below gg
        clear q1 q2 q3 ho
        go_upto_region 14 with fail
        obtain ⟨V, hV⟩ : ∃ Vx, Vx = (((w5.setCell ⟨g4, 0, none⟩ (.int .i64 m)).setCell ⟨g4, 1, none⟩ (.int .i64 e3)).setCell ⟨g4, 2, none⟩ (.slice a5 n5 c5)) := ⟨_, rfl⟩
        rw [← hV] at A Z RX B RN5 OW2 ⊢
        clear hV x0 x1 x2 x3 y1 y2 y3 OW gg RD
        obtain ⟨q1, q2, q3⟩ := OW2.out.all
        obtain ⟨s1, s2, s3⟩ := A.out.all
        have hww1 : IntKind.i64.wrap (e3 + (n5 : Int)) = e3 + (n5 : Int) := IntWalk.i64_in _ (by omega)
        have hww2 : IntKind.i64.wrap (xp + (nx : Int)) = xp + (nx : Int) := IntWalk.i64_in _ (by omega)
        have hww3 : IntKind.i64.wrap (n5 : Int) = (n5 : Int) := IntWalk.i64_in _ (by omega)
        have hww4 : IntKind.i64.wrap (nx : Int) = (nx : Int) := IntWalk.i64_in _ (by omega)
        have hdg : downG (xp, xl) (e3, l3) = decide (e3 + (n5 : Int) < xp + (nx : Int)) := by unfold downG; dsimp only; rw [hn5, hnx]
        by_cases hg : e3 + (n5 : Int) < xp + (nx : Int)
        ·have hr2 := RI.out
         rw [if_pos (by rw [hdg]; exact decide_eq_true hg)] at hr2
         have HR2 := Lib.hid hr2
         clear hr2 hdg
         go_wp2
         go_roundg (gk - 1)
         case measure => omega
         case rel => exact ⟨(e3, l3), a5, n5, c5, true, rfl, by go_num, by omega, OW2.out, RN5.out, hap2, hc5, G3.out, fun _ => .inr ⟨RN.out, HR2.out.symm⟩, fun h => (by cases h), A.out, RX.out, Z.out, B.out⟩
        ·have hr2 := RI.out
         rw [if_neg (by rw [hdg]; simpa using hg)] at hr2
         have HR2 := Lib.hid hr2
         clear hr2 hdg
         go_wp2
         go_roundg (gk - 1)
         case measure => omega
         case rel => exact ⟨(e3, l3), a5, n5, c5, false, rfl, by go_num, by omega, OW2.out, RN5.out, hap2, hc5, G3.out, fun h => (by cases h), fun _ => ⟨RN.out, HR2.out⟩, A.out, RX.out, Z.out, B.out⟩
    ·have hg0 : (0 : Int) < (gk : Int) := by omega
     have HF := Lib.hid (BF.out rfl)
     clear BT BF
     have hny := RD.out.len
     have hy1 := GY.out.len
     have hy2 := GY.out.low
     have hy3 := GY.out.top
     have hx1 := HG.out.1
     have hx2 := HG.out.2.1
     have hx3 := HG.out.2.2
     dsimp only at hy1 hy2 hy3 hx1 hx2 hx3
     rw [HN.out] at hx1 hx3
     obtain ⟨e3, l3, h3⟩ : ∃ e3 l3, cycN m yp yl = (e3, l3) := ⟨_, _, rfl⟩
     have H3 := Lib.hid h3
     have G3 : Hid (Got m (xp, xl) (e3, l3)) := Lib.hid (by have := GY.out.cyc; unfold cycS at this; rw [h3] at this; exact this)
     have hk1 : gk = (gk - 1) + 1 := by omega
     have RI : Hid ((if upG (xp, xl) (e3, l3) = true then some (e3, l3) else riseN (cycS m) (upG (xp, xl)) (gk - 1) (e3, l3)) = r1) := Lib.hid (by have h := HF.out; rw [hk1, riseN, show cycS m (yp, yl) = (e3, l3) from h3] at h; exact h)
     clear h3 hk1 HF
     have hh1 := G3.out.len
     have hh2 := G3.out.low
     have hh3 := G3.out.top
     dsimp only at hh1 hh2 hh3
     obtain ⟨q1, q2, q3⟩ := OW.out.all
     go_wp2_with fail
     refine (l04Cycle_own m m1 m8 yp (by omega) ak nk ck hck yl wr RD.out GY.out.nl.sims (by omega) e3 l3 H3.out).mono ?_
     rintro e w5 ⟨a5, n5, c5, rfl, hc5, ho, gg⟩
     have hzw : g4 < wr.heap.size := OW.out.1
     have hz5 : wr.heap.size ≤ w5.heap.size := gg.size
     have hn5 := ho.len
     have hap := ho.apart (g := g4) hzw
     have hap2 : n5 = 0 ∨ ∀ z, a5 = some z → z.block ≠ w.heap.size ∧ z.block ≠ w.heap.size + 1 := by
      rcases ho.apart (g := w.heap.size) (by omega) with h | h
      ·exact .inl h
      ·rcases ho.apart (g := w.heap.size + 1) (by omega) with h2 | h2
       ·exact .inl h2
       ·exact .inr fun z hz => ⟨h z hz, h2 z hz⟩
     replace A := Lib.hid ((A.out.below gg).set3 (g2 := g4) (by omega) (.int .i64 m) (.int .i64 e3) (.slice a5 n5 c5))
     replace Z := Lib.hid ((Z.out.below gg).set3 (g2 := g4) (by omega) (.int .i64 m) (.int .i64 e3) (.slice a5 n5 c5))
     replace RX := Lib.hid ((RX.out.below gg).past3 AX4.out (.int .i64 m) (.int .i64 e3) (.slice a5 n5 c5))
     replace B := Lib.hid (below_set3 (below_go B.out gg B.out.size) (g2 := g4) (by omega) (.int .i64 m) (.int .i64 e3) (.slice a5 n5 c5))
     have RN5 := Lib.hid (ho.past3 hap (.int .i64 m) (.int .i64 e3) (.slice a5 n5 c5)).reads
     have OW2 := Lib.hid ((OW.out.below gg).fill (.int .i64 m) (.int .i64 e3) (.slice a5 n5 c5))
     obtain ⟨x0, ⟨x1, x2, x3⟩, y1, y2, y3⟩ := OW.out.below gg
     clear q1 q2 q3 ho
     go_upto_region 7 with fail
     obtain ⟨V, hV⟩ : ∃ Vx, Vx = (((w5.setCell ⟨g4, 0, none⟩ (.int .i64 m)).setCell ⟨g4, 1, none⟩ (.int .i64 e3)).setCell ⟨g4, 2, none⟩ (.slice a5 n5 c5)) := ⟨_, rfl⟩
     rw [← hV] at A Z RX B RN5 OW2 ⊢
     clear hV x0 x1 x2 x3 y1 y2 y3 OW gg RD
     obtain ⟨q1, q2, q3⟩ := OW2.out.all
     obtain ⟨s1, s2, s3⟩ := A.out.all
     have hdg : upG (xp, xl) (e3, l3) = decide (xp < e3) := by unfold upG; rfl
     by_cases hg : xp < e3
     ·have hr2 := RI.out
      rw [if_pos (by rw [hdg]; exact decide_eq_true hg)] at hr2
      have HR2 := Lib.hid hr2
      clear hr2 hdg
      go_wp2
      go_roundg (gk - 1)
      case measure => omega
      case rel => exact ⟨(e3, l3), a5, n5, c5, true, rfl, by go_num, by omega, OW2.out, RN5.out, hap2, hc5, G3.out, fun _ => HR2.out.symm, fun h => (by cases h), A.out, RX.out, Z.out, B.out⟩
     ·have hr2 := RI.out
      rw [if_neg (by rw [hdg]; simpa using hg)] at hr2
      have HR2 := Lib.hid hr2
      clear hr2 hdg
      go_wp2
      go_roundg (gk - 1)
      case measure => omega
      case rel => exact ⟨(e3, l3), a5, n5, c5, false, rfl, by go_num, by omega, OW2.out, RN5.out, hap2, hc5, G3.out, fun h => (by cases h), fun _ => HR2.out, A.out, RX.out, Z.out, B.out⟩

end Go.Proofs.Ytpkhddndapcpjaa

