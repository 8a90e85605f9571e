/- The program's product of matrices. -/
import Derived.Test.YtelmdfkcclhhjaaDia
import Derived.Deep.RegionHeld3
namespace Go.Proofs.Ytelmdfkcclhhjaa
open Go.RowKit Go.ChangeShapes

theorem dot_rem (f h : Nat → Nat → Int) (i j n : Nat) : 0 ≤ dotF f h i j n % 10007 ∧ dotF f h i j n % 10007 < 10007 := mod_rem _

theorem dot_step (f h : Nat → Nat → Int) (i j n : Nat) : (dotF f h i j n % 10007 + f i n * h n j % 10007) % 10007 = dotF f h i j (n + 1) % 10007 := by rw [step_mod2, dotF_succ]

theorem dot_zero {f h : Nat → Nat → Int} {n j : Nat} (e : h n j = 0) (i : Nat) : dotF f h i j (n + 1) = dotF f h i j n := by rw [dotF_succ, e, Int.mul_zero, Int.add_zero]

/-- What the product holds while it is made: the columns before y have k + 1 summands, of column y the rows before x. -/
def prodF (f h : Nat → Nat → Int) (k y x : Nat) : Nat → Nat → Int := fun i j => dotF f h i j (if j < y ∨ (j = y ∧ i < x) then k + 1 else k) % 10007

theorem prodF_at (f h : Nat → Nat → Int) (k y x : Nat) : prodF f h k y x x y = dotF f h x y k % 10007 := by unfold prodF; rw [if_neg (by omega)]

theorem prodF_upd (f h : Nat → Nat → Int) (k y x i j : Nat) : updF (prodF f h k y x) x y (dotF f h x y (k + 1) % 10007) i j = prodF f h k y (x + 1) i j := by
  unfold updF prodF
  by_cases e : i = x ∧ j = y
  · rw [if_pos e, if_pos (by omega), e.1, e.2]
  · rw [if_neg e]
    by_cases e2 : j < y ∨ (j = y ∧ i < x)
    · rw [if_pos e2, if_pos (by omega)]
    · rw [if_neg e2, if_neg (by omega)]

theorem prodF_col {f h : Nat → Nat → Int} {k y m i j : Nat} (hi : i < m) : prodF f h k y m i j = prodF f h k (y + 1) 0 i j := by
  unfold prodF
  by_cases e2 : j < y ∨ (j = y ∧ i < m)
  · rw [if_pos e2, if_pos (by omega)]
  · rw [if_neg e2, if_neg (by omega)]

theorem prodF_skip {f h : Nat → Nat → Int} {k y i j : Nat} (e : h k y = 0) : prodF f h k y 0 i j = prodF f h k (y + 1) 0 i j := by
  unfold prodF
  by_cases e1 : j < y
  · rw [if_pos (.inl e1), if_pos (by omega)]
  · by_cases e2 : j = y
    · subst e2
      rw [if_neg (by omega), if_pos (by omega), dot_zero e]
    · rw [if_neg (by omega), if_neg (by omega)]

theorem prodF_row {f h : Nat → Nat → Int} {k m i j : Nat} (hj : j < m) : prodF f h k m 0 i j = prodF f h (k + 1) 0 0 i j := by
  unfold prodF
  rw [if_pos (.inl hj), if_neg (by omega)]

set_option maxRecDepth 100000 in
set_option maxHeartbeats 2000000 in
theorem mxTimes_any (ga gb m ca cb : Nat) (ba sa ka bb sb kb : Nat → Nat) (f h : Nat → Nat → Int) (w : World) (ha : RMx w ga m (fun _ => m) ba sa ka f) (hh : RMx w gb m (fun _ => m) bb sb kb h) (hm : m ≤ 28) (hf : Rem m m f) (hg : Rem m m h) :
    Calls Try.prog 58 #[.slice (some ⟨ga, 0, none⟩) m ca, .slice (some ⟨gb, 0, none⟩) m cb] w (RetMx w m m (mulF m f h)) := by
  have HA := Lib.hid ha; have HB := Lib.hid hh; have HF := Lib.hid hf; have HG := Lib.hid hg
  clear ha hh hf hg
  go_enter Try.func58, Try.ntmps58
  go_wp2_with fail
  refine (diagonalMatrix_any m 0 _ hm).mono ?_
  rintro e w1 ⟨gp, b, s, c, cp, rfl, hO, hb⟩
  have O1 := Lib.hid (hO.congr (f' := prodF f h 0 0 0) fun i j _ _ => by simp [diaF, prodF, dotF, sumT])
  have BB := Lib.hid hb
  clear hO hb
  go_wp2
  go_loopw [16] (fun kv wr => ∃ k : Nat, k ≤ m ∧ kv = .int .i64 k ∧ OMx w.heap.size wr gp m (fun _ => m) b s c (prodF f h k 0 0) ∧ Below w.heap.size w wr) (fun kv _ => m - (intOf kv).toNat)
  case atStart => exact ⟨0, Nat.zero_le _, rfl, O1.out, BB.out⟩
  case round =>
    obtain ⟨k, hk, rfl, hO, hb⟩ := hrel
    clear O1 BB
    have O1 := Lib.hid hO; have BB := Lib.hid hb; clear hO hb
    obtain ⟨W1, hW1⟩ : ∃ x, x = wr := ⟨_, rfl⟩
    subst hW1
    by_cases hlt : k < m
    · have hdb : W1.cell? ⟨gb, k, none⟩ = some (.slice (some ⟨bb k, sb k, none⟩) m (kb k)) := (HB.out.below BB.out).hd k hlt
      obtain ⟨bk, hbk⟩ : ∃ x, x = bb k := ⟨_, rfl⟩
      obtain ⟨sk, hsk⟩ : ∃ x, x = sb k := ⟨_, rfl⟩
      obtain ⟨kk, hkk⟩ : ∃ x, x = kb k := ⟨_, rfl⟩
      rw [← hbk, ← hsk, ← hkk] at hdb
      have HE : Hid (∀ W, Below w.heap.size w W → ∀ y, y < m → W.cell? ⟨bk, sk + y, none⟩ = some (.int .i64 (h k y))) := Lib.hid fun W hW y hy => by rw [hbk, hsk]; exact (HB.out.below hW).el k y hlt hy
      clear hbk hsk hkk
      have k1' : (k : Int) < (m : Int) := by omega
      go_wp2
      go_loopw [23] (fun yv wr => ∃ y : Nat, y ≤ m ∧ yv = .int .i64 y ∧ OMx w.heap.size wr gp m (fun _ => m) b s c (prodF f h k y 0) ∧ Below w.heap.size w wr) (fun yv _ => m - (intOf yv).toNat)
      case atStart => exact ⟨0, Nat.zero_le _, rfl, O1.out, BB.out⟩
      case round =>
        obtain ⟨y, hy, rfl, hO, hb⟩ := hrel
        clear O1 BB hdb
        have O1 := Lib.hid hO; have BB := Lib.hid hb; clear hO hb
        obtain ⟨W2, hW2⟩ : ∃ x, x = wr := ⟨_, rfl⟩
        subst hW2
        by_cases hly : y < m
        · have ce := HE.out _ BB.out y hly
          have HV : Hid (∀ v, v = h k y → 0 ≤ v ∧ v < 10007) := Lib.hid fun v hv => by rw [hv]; exact HG.out k y hlt hly
          obtain ⟨v, hv⟩ : ∃ v, v = h k y := ⟨_, rfl⟩
          rw [← hv] at ce
          have bv := HV.out v hv
          have HVE := Lib.hid hv
          clear hv HV
          by_cases hv0 : v = 0
          · subst hv0
            go_wp2
            go_roundw
            case rel => exact ⟨y + 1, by omega, by go_num, O1.out.congr fun i j _ _ => prodF_skip HVE.out.symm, BB.out⟩
            case measure => simp [intOf]; omega
          · have t0 : (v == 0) = false := by simpa using hv0
            have y1' : (y : Int) < (m : Int) := by omega
            go_wp2
            go_loopw [32] (fun xv wr => ∃ x : Nat, x ≤ m ∧ xv = .int .i64 x ∧ OMx w.heap.size wr gp m (fun _ => m) b s c (prodF f h k y x) ∧ Below w.heap.size w wr) (fun xv _ => m - (intOf xv).toNat)
            case atStart => exact ⟨0, Nat.zero_le _, rfl, O1.out, BB.out⟩
            case round =>
              obtain ⟨x, hx, rfl, hO, hb⟩ := hrel
              clear O1 BB ce t0
              have O1 := Lib.hid hO; have BB := Lib.hid hb; clear hO hb
              obtain ⟨W3, hW3⟩ : ∃ x, x = wr := ⟨_, rfl⟩
              subst hW3
              by_cases hlx : x < m
              · have hda : W3.cell? ⟨ga, x, none⟩ = some (.slice (some ⟨ba x, sa x, none⟩) m (ka x)) := (HA.out.below BB.out).hd x hlx
                have hea := (HA.out.below BB.out).el x k hlx hlt
                have hdp := O1.out.cell hlx
                have hep := O1.out.el x y hlx hly
                have fep := O1.out.fr x (s x + y) hlx
                have bp := dot_rem f h x y k
                have bf := HF.out x k hlx hlt
                rw [prodF_at] at hep
                have HST := Lib.hid (dot_step f h x y k)
                have O2 := Lib.hid (O1.out.set (i := x) (j := y) hlx hly (dotF f h x y (k + 1) % 10007))
                have hfar := O1.out.lb x hlx
                have x1' : (x : Int) < (m : Int) := by omega
                have hbax : ba x < w.heap.size := World.block_lt_of_cell? _ _ (HA.out.el x k hlx hlt)
                have hgax : ga < w.heap.size := World.block_lt_of_cell? _ _ (HA.out.hd x hlx)
                have hgp := O1.out.lg.1
                obtain ⟨bx, hbx⟩ : ∃ z, z = b x := ⟨_, rfl⟩
                obtain ⟨sx, hsx⟩ : ∃ z, z = s x := ⟨_, rfl⟩
                obtain ⟨cx, hcx⟩ : ∃ z, z = c x := ⟨_, rfl⟩
                obtain ⟨bax, hbx2⟩ : ∃ z, z = ba x := ⟨_, rfl⟩
                obtain ⟨sax, hsx2⟩ : ∃ z, z = sa x := ⟨_, rfl⟩
                obtain ⟨kax, hcx2⟩ : ∃ z, z = ka x := ⟨_, rfl⟩
                obtain ⟨p, hp⟩ : ∃ z, z = dotF f h x y k % 10007 := ⟨_, rfl⟩
                obtain ⟨z, hz⟩ : ∃ z, z = dotF f h x y (k + 1) % 10007 := ⟨_, rfl⟩
                obtain ⟨u, hu⟩ : ∃ z, z = f x k := ⟨_, rfl⟩
                rw [← hbx, ← hsx] at hdp hep fep O2
                rw [← hbx] at hfar
                rw [← hcx] at hdp
                rw [← hbx2, ← hsx2] at hda hea
                rw [← hbx2] at hbax
                rw [← hcx2] at hda
                rw [← hp] at hep bp HST
                rw [← hz] at O2 HST
                rw [← hu] at hea bf HST
                rw [← HVE.out] at HST
                have HZ := Lib.hid hz
                clear hbx hsx hcx hbx2 hsx2 hcx2 hp hu hz
                have m1 := rem_mul bf bv
                obtain ⟨t, ht⟩ : ∃ t, t = u * v % 10007 := ⟨_, rfl⟩
                have bt : 0 ≤ t ∧ t < 10007 := by rw [ht]; exact mod_rem _
                have hst := HST.out
                rw [← ht] at hst
                have a1 : 0 ≤ u * v := m1.1
                have a2 : u * v < 1000000000 := by omega
                have a3 : 0 ≤ p + t := by omega
                have a4 : p + t < 1000000000 := by omega
                have xda : (W3.setCell ⟨bx, sx + y, none⟩ (.int .i64 z)).drew.cell? ⟨ga, x, none⟩ = some (.slice (some ⟨bax, sax, none⟩) m kax) := (World.cell?_setCell_far _ _ _ _ (by show bx ≠ ga; omega)).trans hda
                have xea : (W3.setCell ⟨bx, sx + y, none⟩ (.int .i64 z)).drew.cell? ⟨bax, sax + k, none⟩ = some (.int .i64 u) := (World.cell?_setCell_far _ _ _ _ (by show bx ≠ bax; omega)).trans hea
                have xdp : (W3.setCell ⟨bx, sx + y, none⟩ (.int .i64 z)).drew.cell? ⟨gp, x, none⟩ = some (.slice (some ⟨bx, sx, none⟩) m cx) := (World.cell?_setCell_far _ _ _ _ (by show bx ≠ gp; omega)).trans hdp
                have B2 := Lib.hid (BB.out.setCell (p := ⟨bx, sx + y, none⟩) (by show w.heap.size ≤ bx; omega) (.int .i64 z)).drew
                have O3 : Hid (OMx w.heap.size (W3.setCell ⟨bx, sx + y, none⟩ (.int .i64 z)).drew gp m (fun _ => m) b s c (prodF f h k y (x + 1))) := Lib.hid (OMx.congr (O2.out.below (Below.refl _ _).drew) fun i j _ _ => by rw [HZ.out]; exact prodF_upd f h k y x i j)
                clear m1 bp bf bt O2 O1 HZ
                have HTT := Lib.hid ht
                have HTS := Lib.hid hst
                clear ht hst HST
                go_upto_region 12 with fail
                have dda : W3.drew.cell? ⟨ga, x, none⟩ = some (.slice (some ⟨bax, sax, none⟩) m kax) := hda
                have dea : W3.drew.cell? ⟨bax, sax + k, none⟩ = some (.int .i64 u) := hea
                have ddp : W3.drew.cell? ⟨gp, x, none⟩ = some (.slice (some ⟨bx, sx, none⟩) m cx) := hdp
                refine wp_region_held_drew (S := (fun w' => w'.cell? ⟨ga, x, none⟩ = some (.slice (some ⟨bax, sax, none⟩) m kax) ∧ w'.cell? ⟨bax, sax + k, none⟩ = some (.int .i64 u) ∧ w'.cell? ⟨gp, x, none⟩ = some (.slice (some ⟨bx, sx, none⟩) m cx))) (by kernel_rfl) ?_ (fun hHeld => ?_)
                · first | with_reducible exact ⟨dda, dea, ddp⟩ | with_reducible exact ⟨xda, xea, xdp⟩
                refine wpAnyH_take (i := 0) (oi := { dst := some 35, op := Op.move (Operand.tmp 5), type := 59, pos := "l09_krammer.go:90", after := #[], guard := none }) (v := ?_) rfl (by kernel_rfl) (by kernel_rfl) (by kernel_rfl) (fun _ _ _ h => h) (Or.inl ⟨by rfl, ?_⟩) (by assumption) ?_
                rotate_left
                · intro w hSw
                  (try dsimp only at hSw)
                  go_simp
                  try with_reducible rfl
                try simp only [Act.put, List.setIfInBounds_toArray, List.set_cons_zero, List.set_cons_succ]
                refine wpAnyH_take (i := 1) (oi := { dst := some 36, op := Op.move (Operand.tmp 10), type := 3, pos := "l09_krammer.go:90", after := #[], guard := none }) (v := ?_) rfl (by kernel_rfl) (by kernel_rfl) (by kernel_rfl) (fun _ _ _ h => h) (Or.inl ⟨by rfl, ?_⟩) (by assumption) ?_
                rotate_left
                · intro w hSw
                  (try dsimp only at hSw)
                  go_simp
                  try with_reducible rfl
                try simp only [Act.put, List.setIfInBounds_toArray, List.set_cons_zero, List.set_cons_succ]
                refine wpAnyH_take (i := 2) (oi := { dst := some 37, op := Op.indexAddr 59 (Operand.tmp 35) (Operand.tmp 36), type := 0, pos := "l09_krammer.go:90", after := #[{ on := 0, ground := Ground.data }, { on := 1, ground := Ground.data }], guard := none }) (v := ?_) rfl (by kernel_rfl) (by kernel_rfl) (by kernel_rfl) (fun _ _ _ h => h) (Or.inl ⟨by rfl, ?_⟩) (by assumption) ?_
                rotate_left
                · intro w hSw
                  (try dsimp only at hSw)
                  go_simp
                  try with_reducible rfl
                try simp only [Act.put, List.setIfInBounds_toArray, List.set_cons_zero, List.set_cons_succ]
                refine wpAnyH_take (i := 3) (oi := { dst := some 38, op := Op.load 72 (Operand.tmp 37), type := 72, pos := "l09_krammer.go:90", after := #[{ on := 2, ground := Ground.data }], guard := none }) (v := ?_) rfl (by kernel_rfl) (by kernel_rfl) (by kernel_rfl) (fun _ _ _ h => h) (Or.inl ⟨by rfl, ?_⟩) (by assumption) ?_
                rotate_left
                · intro w hSw
                  (try dsimp only at hSw)
                  go_simp
                  try with_reducible rfl
                try simp only [Act.put, List.setIfInBounds_toArray, List.set_cons_zero, List.set_cons_succ]
                refine wpAnyH_take (i := 4) (oi := { dst := some 39, op := Op.move (Operand.tmp 8), type := 3, pos := "l09_krammer.go:90", after := #[], guard := none }) (v := ?_) rfl (by kernel_rfl) (by kernel_rfl) (by kernel_rfl) (fun _ _ _ h => h) (Or.inl ⟨by rfl, ?_⟩) (by assumption) ?_
                rotate_left
                · intro w hSw
                  (try dsimp only at hSw)
                  go_simp
                  try with_reducible rfl
                try simp only [Act.put, List.setIfInBounds_toArray, List.set_cons_zero, List.set_cons_succ]
                refine wpAnyH_take (i := 5) (oi := { dst := some 40, op := Op.move (Operand.tmp 5), type := 59, pos := "l09_krammer.go:90", after := #[], guard := none }) (v := ?_) rfl (by kernel_rfl) (by kernel_rfl) (by kernel_rfl) (fun _ _ _ h => h) (Or.inl ⟨by rfl, ?_⟩) (by assumption) ?_
                rotate_left
                · intro w hSw
                  (try dsimp only at hSw)
                  go_simp
                  try with_reducible rfl
                try simp only [Act.put, List.setIfInBounds_toArray, List.set_cons_zero, List.set_cons_succ]
                refine wpAnyH_take (i := 6) (oi := { dst := some 41, op := Op.move (Operand.tmp 10), type := 3, pos := "l09_krammer.go:90", after := #[], guard := none }) (v := ?_) rfl (by kernel_rfl) (by kernel_rfl) (by kernel_rfl) (fun _ _ _ h => h) (Or.inl ⟨by rfl, ?_⟩) (by assumption) ?_
                rotate_left
                · intro w hSw
                  (try dsimp only at hSw)
                  go_simp
                  try with_reducible rfl
                try simp only [Act.put, List.setIfInBounds_toArray, List.set_cons_zero, List.set_cons_succ]
                refine wpAnyH_take (i := 7) (oi := { dst := some 42, op := Op.indexAddr 59 (Operand.tmp 40) (Operand.tmp 41), type := 0, pos := "l09_krammer.go:90", after := #[{ on := 5, ground := Ground.data }, { on := 6, ground := Ground.data }], guard := none }) (v := ?_) rfl (by kernel_rfl) (by kernel_rfl) (by kernel_rfl) (fun _ _ _ h => h) (Or.inl ⟨by rfl, ?_⟩) (by assumption) ?_
                rotate_left
                · intro w hSw
                  (try dsimp only at hSw)
                  go_simp
                  try with_reducible rfl
                try simp only [Act.put, List.setIfInBounds_toArray, List.set_cons_zero, List.set_cons_succ]
                refine wpAnyH_take (i := 8) (oi := { dst := some 43, op := Op.load 72 (Operand.tmp 42), type := 72, pos := "l09_krammer.go:90", after := #[{ on := 7, ground := Ground.data }], guard := none }) (v := ?_) rfl (by kernel_rfl) (by kernel_rfl) (by kernel_rfl) (fun _ _ _ h => h) (Or.inl ⟨by rfl, ?_⟩) (by assumption) ?_
                rotate_left
                · intro w hSw
                  (try dsimp only at hSw)
                  go_simp
                  try with_reducible rfl
                try simp only [Act.put, List.setIfInBounds_toArray, List.set_cons_zero, List.set_cons_succ]
                refine wpAnyH_take (i := 9) (oi := { dst := some 44, op := Op.move (Operand.tmp 8), type := 3, pos := "l09_krammer.go:90", after := #[], guard := none }) (v := ?_) rfl (by kernel_rfl) (by kernel_rfl) (by kernel_rfl) (fun _ _ _ h => h) (Or.inl ⟨by rfl, ?_⟩) (by assumption) ?_
                rotate_left
                · intro w hSw
                  (try dsimp only at hSw)
                  go_simp
                  try with_reducible rfl
                try simp only [Act.put, List.setIfInBounds_toArray, List.set_cons_zero, List.set_cons_succ]
                refine wpAnyH_take (i := 10) (oi := { dst := some 45, op := Op.indexAddr 72 (Operand.tmp 43) (Operand.tmp 44), type := 0, pos := "l09_krammer.go:90", after := #[{ on := 8, ground := Ground.data }, { on := 9, ground := Ground.data }], guard := none }) (v := ?_) rfl (by kernel_rfl) (by kernel_rfl) (by kernel_rfl) (fun _ _ _ h => h) (Or.inl ⟨by rfl, ?_⟩) (by assumption) ?_
                rotate_left
                · intro w hSw
                  (try dsimp only at hSw)
                  go_simp
                  try with_reducible rfl
                try simp only [Act.put, List.setIfInBounds_toArray, List.set_cons_zero, List.set_cons_succ]
                refine wpAnyH_take (i := 12) (oi := { dst := some 47, op := Op.move (Operand.tmp 0), type := 59, pos := "l09_krammer.go:90", after := #[], guard := none }) (v := ?_) rfl (by kernel_rfl) (by kernel_rfl) (by kernel_rfl) (fun _ _ _ h => h) (Or.inl ⟨by rfl, ?_⟩) (by assumption) ?_
                rotate_left
                · intro w hSw
                  (try dsimp only at hSw)
                  go_simp
                  try with_reducible rfl
                try simp only [Act.put, List.setIfInBounds_toArray, List.set_cons_zero, List.set_cons_succ]
                refine wpAnyH_take (i := 13) (oi := { dst := some 48, op := Op.move (Operand.tmp 10), type := 3, pos := "l09_krammer.go:90", after := #[], guard := none }) (v := ?_) rfl (by kernel_rfl) (by kernel_rfl) (by kernel_rfl) (fun _ _ _ h => h) (Or.inl ⟨by rfl, ?_⟩) (by assumption) ?_
                rotate_left
                · intro w hSw
                  (try dsimp only at hSw)
                  go_simp
                  try with_reducible rfl
                try simp only [Act.put, List.setIfInBounds_toArray, List.set_cons_zero, List.set_cons_succ]
                refine wpAnyH_take (i := 14) (oi := { dst := some 49, op := Op.indexAddr 59 (Operand.tmp 47) (Operand.tmp 48), type := 0, pos := "l09_krammer.go:90", after := #[{ on := 12, ground := Ground.data }, { on := 13, ground := Ground.data }], guard := none }) (v := ?_) rfl (by kernel_rfl) (by kernel_rfl) (by kernel_rfl) (fun _ _ _ h => h) (Or.inl ⟨by rfl, ?_⟩) (by assumption) ?_
                rotate_left
                · intro w hSw
                  (try dsimp only at hSw)
                  go_simp
                  try with_reducible rfl
                try simp only [Act.put, List.setIfInBounds_toArray, List.set_cons_zero, List.set_cons_succ]
                refine wpAnyH_take (i := 15) (oi := { dst := some 50, op := Op.load 72 (Operand.tmp 49), type := 72, pos := "l09_krammer.go:90", after := #[{ on := 14, ground := Ground.data }], guard := none }) (v := ?_) rfl (by kernel_rfl) (by kernel_rfl) (by kernel_rfl) (fun _ _ _ h => h) (Or.inl ⟨by rfl, ?_⟩) (by assumption) ?_
                rotate_left
                · intro w hSw
                  (try dsimp only at hSw)
                  go_simp
                  try with_reducible rfl
                try simp only [Act.put, List.setIfInBounds_toArray, List.set_cons_zero, List.set_cons_succ]
                refine wpAnyH_take (i := 16) (oi := { dst := some 51, op := Op.move (Operand.tmp 6), type := 3, pos := "l09_krammer.go:90", after := #[], guard := none }) (v := ?_) rfl (by kernel_rfl) (by kernel_rfl) (by kernel_rfl) (fun _ _ _ h => h) (Or.inl ⟨by rfl, ?_⟩) (by assumption) ?_
                rotate_left
                · intro w hSw
                  (try dsimp only at hSw)
                  go_simp
                  try with_reducible rfl
                try simp only [Act.put, List.setIfInBounds_toArray, List.set_cons_zero, List.set_cons_succ]
                refine wpAnyH_take (i := 17) (oi := { dst := some 52, op := Op.indexAddr 72 (Operand.tmp 50) (Operand.tmp 51), type := 0, pos := "l09_krammer.go:90", after := #[{ on := 15, ground := Ground.data }, { on := 16, ground := Ground.data }], guard := none }) (v := ?_) rfl (by kernel_rfl) (by kernel_rfl) (by kernel_rfl) (fun _ _ _ h => h) (Or.inl ⟨by rfl, ?_⟩) (by assumption) ?_
                rotate_left
                · intro w hSw
                  (try dsimp only at hSw)
                  go_simp
                  try with_reducible rfl
                try simp only [Act.put, List.setIfInBounds_toArray, List.set_cons_zero, List.set_cons_succ]
                refine wpAnyH_take (i := 18) (oi := { dst := some 53, op := Op.load 67 (Operand.tmp 52), type := 67, pos := "l09_krammer.go:90", after := #[{ on := 17, ground := Ground.data }], guard := none }) (v := ?_) rfl (by kernel_rfl) (by kernel_rfl) (by kernel_rfl) (fun _ _ _ h => h) (Or.inl ⟨by rfl, ?_⟩) (by assumption) ?_
                rotate_left
                · intro w hSw
                  (try dsimp only at hSw)
                  go_simp
                  try with_reducible rfl
                try simp only [Act.put, List.setIfInBounds_toArray, List.set_cons_zero, List.set_cons_succ]
                refine wpAnyH_take (i := 19) (oi := { dst := some 54, op := Op.move (Operand.tmp 9), type := 67, pos := "l09_krammer.go:90", after := #[], guard := none }) (v := ?_) rfl (by kernel_rfl) (by kernel_rfl) (by kernel_rfl) (fun _ _ _ h => h) (Or.inl ⟨by rfl, ?_⟩) (by assumption) ?_
                rotate_left
                · intro w hSw
                  (try dsimp only at hSw)
                  go_simp
                  try with_reducible rfl
                try simp only [Act.put, List.setIfInBounds_toArray, List.set_cons_zero, List.set_cons_succ]
                refine wpAnyH_ready (rs := [11, 20]) (by kernel_rfl) (by simp) ?_
                refine AllReadyH.cons (o := { dst := some 46, op := Op.load 67 (Operand.tmp 45), type := 67, pos := "l09_krammer.go:90", after := #[{ on := 10, ground := Ground.data }], guard := none }) rfl (fun K hK => ?_) ?_
                · go_simp
                  refine hK.out _ _ ?_ (fun hHeld => ?_)
                  · first | with_reducible exact ⟨dda, dea, ddp⟩ | with_reducible exact ⟨xda, xea, xdp⟩
                  clear hK K
                  try simp only [Act.put, List.setIfInBounds_toArray, List.set_cons_zero, List.set_cons_succ]
                  refine wpAnyH_ready (rs := [20]) (by kernel_rfl) (by simp) ?_
                  refine AllReadyH.cons (o := { dst := some 55, op := Op.call { callee := Callee.value (Operand.func 87), args := #[Operand.tmp 53, Operand.tmp 54], argTypes := #[67, 67] }, type := 67, pos := "l09_krammer.go:90", after := #[{ on := 18, ground := Ground.data }, { on := 19, ground := Ground.data }], guard := none }) rfl (fun K hK => ?_) ?_
                  · go_simp
                    refine (times_any u v _ a1 a2).mono ?_
                    rw [← HTT.out]
                    rintro e w1 ⟨rfl, rfl⟩
                    go_wp2_with fail
                    refine hK.out _ _ ?_ (fun hHeld => ?_)
                    · first | with_reducible exact ⟨dda, dea, ddp⟩ | with_reducible exact ⟨xda, xea, xdp⟩
                    clear hK K
                    try simp only [Act.put, List.setIfInBounds_toArray, List.set_cons_zero, List.set_cons_succ]
                    refine wpAnyH_ready (rs := [21]) (by kernel_rfl) (by simp) ?_
                    refine AllReadyH.cons (o := { dst := some 56, op := Op.call { callee := Callee.value (Operand.func 86), args := #[Operand.tmp 46, Operand.tmp 55], argTypes := #[67, 67] }, type := 67, pos := "l09_krammer.go:90", after := #[{ on := 11, ground := Ground.data }, { on := 20, ground := Ground.data }, { on := 20, ground := Ground.chain }], guard := none }) rfl (fun K hK => ?_) ?_
                    · go_simp
                      refine (plus_any p t _ a3 a4).mono ?_
                      rw [HTS.out]
                      rintro e w1 ⟨rfl, rfl⟩
                      go_wp2_with fail
                      refine hK.out _ _ ?_ (fun hHeld => ?_)
                      · first | with_reducible exact ⟨dda, dea, ddp⟩ | with_reducible exact ⟨xda, xea, xdp⟩
                      clear hK K
                      try simp only [Act.put, List.setIfInBounds_toArray, List.set_cons_zero, List.set_cons_succ]
                      refine wpAnyH_ready (rs := [22]) (by kernel_rfl) (by simp) ?_
                      refine AllReadyH.cons (o := { dst := some 57, op := Op.indexAddr 72 (Operand.tmp 38) (Operand.tmp 39), type := 0, pos := "l09_krammer.go:90", after := #[{ on := 3, ground := Ground.data }, { on := 4, ground := Ground.data }, { on := 0, ground := Ground.phase }, { on := 1, ground := Ground.phase }, { on := 2, ground := Ground.phase }, { on := 3, ground := Ground.phase }, { on := 4, ground := Ground.phase }, { on := 5, ground := Ground.phase }, { on := 6, ground := Ground.phase }, { on := 7, ground := Ground.phase }, { on := 8, ground := Ground.phase }, { on := 9, ground := Ground.phase }, { on := 10, ground := Ground.phase }, { on := 11, ground := Ground.phase }, { on := 12, ground := Ground.phase }, { on := 13, ground := Ground.phase }, { on := 14, ground := Ground.phase }, { on := 15, ground := Ground.phase }, { on := 16, ground := Ground.phase }, { on := 17, ground := Ground.phase }, { on := 18, ground := Ground.phase }, { on := 19, ground := Ground.phase }, { on := 20, ground := Ground.phase }, { on := 21, ground := Ground.phase }], guard := none }) rfl (fun K hK => ?_) ?_
                      · go_simp
                        refine hK.out _ _ ?_ (fun hHeld => ?_)
                        · first | with_reducible exact ⟨dda, dea, ddp⟩ | with_reducible exact ⟨xda, xea, xdp⟩
                        clear hK K
                        try simp only [Act.put, List.setIfInBounds_toArray, List.set_cons_zero, List.set_cons_succ]
                        refine wpAnyH_ready (rs := [23]) (by kernel_rfl) (by simp) ?_
                        refine AllReadyH.cons (o := { dst := none, op := Op.store 67 (Operand.tmp 57) (Operand.tmp 56), type := 0, pos := "l09_krammer.go:90", after := #[{ on := 22, ground := Ground.data }, { on := 21, ground := Ground.data }, { on := 21, ground := Ground.chain }, { on := 0, ground := Ground.phase }, { on := 1, ground := Ground.phase }, { on := 2, ground := Ground.phase }, { on := 3, ground := Ground.phase }, { on := 4, ground := Ground.phase }, { on := 5, ground := Ground.phase }, { on := 6, ground := Ground.phase }, { on := 7, ground := Ground.phase }, { on := 8, ground := Ground.phase }, { on := 9, ground := Ground.phase }, { on := 10, ground := Ground.phase }, { on := 11, ground := Ground.phase }, { on := 12, ground := Ground.phase }, { on := 13, ground := Ground.phase }, { on := 14, ground := Ground.phase }, { on := 15, ground := Ground.phase }, { on := 16, ground := Ground.phase }, { on := 17, ground := Ground.phase }, { on := 18, ground := Ground.phase }, { on := 19, ground := Ground.phase }, { on := 20, ground := Ground.phase }, { on := 21, ground := Ground.phase }], guard := none }) rfl (fun K hK => ?_) ?_
                        · go_simp
                          refine hK.out _ _ ?_ (fun hHeld => ?_)
                          · first | with_reducible exact ⟨dda, dea, ddp⟩ | with_reducible exact ⟨xda, xea, xdp⟩
                          clear hK K
                          try simp only [Act.put, List.setIfInBounds_toArray, List.set_cons_zero, List.set_cons_succ]
                          refine wpAnyH_done (by kernel_rfl) ?_ _
                          go_wp2
                          go_roundw
                          case rel => exact ⟨x + 1, by omega, by go_num, O3.out, B2.out⟩
                          case measure => simp [intOf]; omega
                        exact AllReadyH.nil
                      exact AllReadyH.nil
                    exact AllReadyH.nil
                  exact AllReadyH.nil
                refine AllReadyH.cons (o := { dst := some 55, op := Op.call { callee := Callee.value (Operand.func 87), args := #[Operand.tmp 53, Operand.tmp 54], argTypes := #[67, 67] }, type := 67, pos := "l09_krammer.go:90", after := #[{ on := 18, ground := Ground.data }, { on := 19, ground := Ground.data }], guard := none }) rfl (fun K hK => ?_) ?_
                · go_simp
                  refine (times_any u v _ a1 a2).mono ?_
                  rw [← HTT.out]
                  rintro e w1 ⟨rfl, rfl⟩
                  go_wp2_with fail
                  refine hK.out _ _ ?_ (fun hHeld => ?_)
                  · first | with_reducible exact ⟨dda, dea, ddp⟩ | with_reducible exact ⟨xda, xea, xdp⟩
                  clear hK K
                  try simp only [Act.put, List.setIfInBounds_toArray, List.set_cons_zero, List.set_cons_succ]
                  refine wpAnyH_ready (rs := [11]) (by kernel_rfl) (by simp) ?_
                  refine AllReadyH.cons (o := { dst := some 46, op := Op.load 67 (Operand.tmp 45), type := 67, pos := "l09_krammer.go:90", after := #[{ on := 10, ground := Ground.data }], guard := none }) rfl (fun K hK => ?_) ?_
                  · go_simp
                    refine hK.out _ _ ?_ (fun hHeld => ?_)
                    · first | with_reducible exact ⟨dda, dea, ddp⟩ | with_reducible exact ⟨xda, xea, xdp⟩
                    clear hK K
                    try simp only [Act.put, List.setIfInBounds_toArray, List.set_cons_zero, List.set_cons_succ]
                    refine wpAnyH_ready (rs := [21]) (by kernel_rfl) (by simp) ?_
                    refine AllReadyH.cons (o := { dst := some 56, op := Op.call { callee := Callee.value (Operand.func 86), args := #[Operand.tmp 46, Operand.tmp 55], argTypes := #[67, 67] }, type := 67, pos := "l09_krammer.go:90", after := #[{ on := 11, ground := Ground.data }, { on := 20, ground := Ground.data }, { on := 20, ground := Ground.chain }], guard := none }) rfl (fun K hK => ?_) ?_
                    · go_simp
                      refine (plus_any p t _ a3 a4).mono ?_
                      rw [HTS.out]
                      rintro e w1 ⟨rfl, rfl⟩
                      go_wp2_with fail
                      refine hK.out _ _ ?_ (fun hHeld => ?_)
                      · first | with_reducible exact ⟨dda, dea, ddp⟩ | with_reducible exact ⟨xda, xea, xdp⟩
                      clear hK K
                      try simp only [Act.put, List.setIfInBounds_toArray, List.set_cons_zero, List.set_cons_succ]
                      refine wpAnyH_ready (rs := [22]) (by kernel_rfl) (by simp) ?_
                      refine AllReadyH.cons (o := { dst := some 57, op := Op.indexAddr 72 (Operand.tmp 38) (Operand.tmp 39), type := 0, pos := "l09_krammer.go:90", after := #[{ on := 3, ground := Ground.data }, { on := 4, ground := Ground.data }, { on := 0, ground := Ground.phase }, { on := 1, ground := Ground.phase }, { on := 2, ground := Ground.phase }, { on := 3, ground := Ground.phase }, { on := 4, ground := Ground.phase }, { on := 5, ground := Ground.phase }, { on := 6, ground := Ground.phase }, { on := 7, ground := Ground.phase }, { on := 8, ground := Ground.phase }, { on := 9, ground := Ground.phase }, { on := 10, ground := Ground.phase }, { on := 11, ground := Ground.phase }, { on := 12, ground := Ground.phase }, { on := 13, ground := Ground.phase }, { on := 14, ground := Ground.phase }, { on := 15, ground := Ground.phase }, { on := 16, ground := Ground.phase }, { on := 17, ground := Ground.phase }, { on := 18, ground := Ground.phase }, { on := 19, ground := Ground.phase }, { on := 20, ground := Ground.phase }, { on := 21, ground := Ground.phase }], guard := none }) rfl (fun K hK => ?_) ?_
                      · go_simp
                        refine hK.out _ _ ?_ (fun hHeld => ?_)
                        · first | with_reducible exact ⟨dda, dea, ddp⟩ | with_reducible exact ⟨xda, xea, xdp⟩
                        clear hK K
                        try simp only [Act.put, List.setIfInBounds_toArray, List.set_cons_zero, List.set_cons_succ]
                        refine wpAnyH_ready (rs := [23]) (by kernel_rfl) (by simp) ?_
                        refine AllReadyH.cons (o := { dst := none, op := Op.store 67 (Operand.tmp 57) (Operand.tmp 56), type := 0, pos := "l09_krammer.go:90", after := #[{ on := 22, ground := Ground.data }, { on := 21, ground := Ground.data }, { on := 21, ground := Ground.chain }, { on := 0, ground := Ground.phase }, { on := 1, ground := Ground.phase }, { on := 2, ground := Ground.phase }, { on := 3, ground := Ground.phase }, { on := 4, ground := Ground.phase }, { on := 5, ground := Ground.phase }, { on := 6, ground := Ground.phase }, { on := 7, ground := Ground.phase }, { on := 8, ground := Ground.phase }, { on := 9, ground := Ground.phase }, { on := 10, ground := Ground.phase }, { on := 11, ground := Ground.phase }, { on := 12, ground := Ground.phase }, { on := 13, ground := Ground.phase }, { on := 14, ground := Ground.phase }, { on := 15, ground := Ground.phase }, { on := 16, ground := Ground.phase }, { on := 17, ground := Ground.phase }, { on := 18, ground := Ground.phase }, { on := 19, ground := Ground.phase }, { on := 20, ground := Ground.phase }, { on := 21, ground := Ground.phase }], guard := none }) rfl (fun K hK => ?_) ?_
                        · go_simp
                          refine hK.out _ _ ?_ (fun hHeld => ?_)
                          · first | with_reducible exact ⟨dda, dea, ddp⟩ | with_reducible exact ⟨xda, xea, xdp⟩
                          clear hK K
                          try simp only [Act.put, List.setIfInBounds_toArray, List.set_cons_zero, List.set_cons_succ]
                          refine wpAnyH_done (by kernel_rfl) ?_ _
                          go_wp2
                          go_roundw
                          case rel => exact ⟨x + 1, by omega, by go_num, O3.out, B2.out⟩
                          case measure => simp [intOf]; omega
                        exact AllReadyH.nil
                      exact AllReadyH.nil
                    exact AllReadyH.nil
                  exact AllReadyH.nil
                exact AllReadyH.nil
              · have hxm : x = m := by omega
                subst hxm
                go_wp2
                go_roundw
                case rel => exact ⟨y + 1, by omega, by go_num, O1.out.congr fun i j hi _ => prodF_col hi, BB.out⟩
                case measure => simp [intOf]; omega
        · have hym : y = m := by omega
          subst hym
          go_wp2
          go_roundw
          case rel => exact ⟨k + 1, by omega, by go_num, O1.out.congr fun i j _ hj => prodF_row hj, BB.out⟩
          case measure => simp [intOf]; omega
    · have hkm : k = m := by omega
      subst hkm
      go_wp2
      go_ret
      exact ⟨gp, b, s, c, _, rfl, O1.out.congr fun i j _ _ => by simp [prodF, mulF], BB.out⟩

end Go.Proofs.Ytelmdfkcclhhjaa
