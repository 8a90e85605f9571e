/- The program's inverses of matrices. -/
import Derived.Test.YtelmdfkcclhhjaaZCct
import Derived.Test.YtelmdfkcclhhjaaMSo1
namespace Go.Proofs.Ytelmdfkcclhhjaa
open Go.RowKit Go.ChangeShapes

/-- What the program's inverse gives. -/
def RetInvP (w : World) (m : Nat) (A : Nat → Nat → Int) (e : Ending) (w' : World) : Prop :=
  Below w.heap.size w w' ∧ ((e = .returned (.tuple #[.slice none 0 0, .bool false]) ∧ Stuck m (2 * m) (augF m A)) ∨
    ∃ d h g b s c cap, e = .returned (.tuple #[.slice (some ⟨g, 0, none⟩) m cap, .bool true]) ∧ GJ m (2 * m) (augF m A) m h d ∧ RMx w' g m (fun _ => m) b s c (fun i t => h i (m + t)))

/-- Both halves of the rows before x. -/
def bothF (m : Nat) (A : Nat → Nat → Int) (x : Nat) (i j : Nat) : Int := if i < x then augF m A i j else diaF 1 i j
def bothK (m x : Nat) (i : Nat) : Nat := if i < x then 2 * m else m

theorem bothF_zero (m : Nat) (A : Nat → Nat → Int) (i j : Nat) : diaF 1 i j = bothF m A 0 i j := by unfold bothF; rw [if_neg (by omega)]

/-- Rows whose first halves are left out. -/
def halfF (m : Nat) (h : Nat → Nat → Int) (x : Nat) (i j : Nat) : Int := if i < x then h i (m + j) else h i j

theorem rowV_both {m : Nat} {A : Nat → Nat → Int} {x j : Nat} (hj : j < m + m) : (rowV (A x) m ++ rowV (diaF 1 x) m)[j]? = some (.int .i64 (augF m A x j)) := by
  by_cases e : j < m
  · rw [List.getElem?_append_left (by simpa [rowV] using e), rowV_at _ _ _ e]
    unfold augF
    rw [if_pos e]
  · rw [List.getElem?_append_right (by simp [rowV]; omega)]
    rw [show (rowV (A x) m).length = m by simp [rowV], rowV_at _ _ _ (by omega)]
    unfold augF diaF
    rw [if_neg e]
    by_cases e2 : x = j - m
    · rw [if_pos e2, if_pos (by omega)]
    · rw [if_neg e2, if_neg (by omega)]

theorem ownsRow_cap {B : Nat} {T : TypeId} {w : World} {a : Option Addr} {n cap : Nat} {xs : List Value} (h : w.ownsRow B T 1 (.slice a n cap) n xs) : n ≤ cap := by
  rcases h.2 with ⟨_, h0⟩ | ⟨g, c, cur, hv, _, _, hc, _⟩
  · omega
  · simp only [Value.slice.injEq, true_and] at hv
    omega

theorem RMx.low0 {w : World} {g m : Nat} {K b s c : Nat → Nat} {f : Nat → Nat → Int} (h : RMx w g m K b s c f) : ∀ i, i < m → w.cell? ⟨g, i, none⟩ = some (.slice (some ⟨b i, s i, none⟩) (K i) (c i)) := h.hd

set_option maxRecDepth 100000 in
set_option maxHeartbeats 4000000 in
theorem mxInv_any (ga m ca : Nat) (ba sa ka : Nat → Nat) (A : Nat → Nat → Int) (w : World) (ha : RMx w ga m (fun _ => m) ba sa ka A) (h1 : 1 ≤ m) (hm : m ≤ 28) (hA : Rem m m A) :
    Calls Try.prog 61 #[.slice (some ⟨ga, 0, none⟩) m ca] w (RetInvP w m A) := by
  have HA := Lib.hid ha; have HR := Lib.hid (augF_rem hA)
  clear ha hA
  go_enter Try.func61, Try.ntmps61
  go_wp2_with fail
  refine (diagonalMatrix_cap m 1 _ hm).mono ?_
  rintro e w1 ⟨g, b0, s0, c0, cp, rfl, hcp, hO, hb⟩
  have O0 : Hid (OMx w.heap.size w1 g m (bothK m 0) b0 s0 c0 (bothF m A 0)) := Lib.hid ((hO.congr fun i j _ _ => bothF_zero m A i j).congrK fun i _ => by unfold bothK; rw [if_neg (by omega)])
  have B0 := Lib.hid hb
  have hlg := hO.lg
  clear hO hb
  go_wp2
  go_loopw [16] (fun xv wr => ∃ x : Nat, x ≤ m ∧ xv = .int .i64 x ∧ (∃ b s c, OMx w.heap.size wr g m (bothK m x) b s c (bothF m A x) ∧ ∀ y, y < x → 2 * m ≤ c y) ∧ w1.heap.size ≤ wr.heap.size ∧ Below w.heap.size w wr) (fun xv _ => m - (intOf xv).toNat)
  case atStart => exact ⟨0, Nat.zero_le _, rfl, ⟨_, _, _, O0.out, fun y hy => absurd hy (Nat.not_lt_zero y)⟩, Nat.le_refl _, B0.out⟩
  case round =>
    obtain ⟨x, hx, rfl, ⟨b, s, c, hO, hcc⟩, hzr, hb⟩ := hrel
    clear O0 B0
    have OO := Lib.hid hO; have BB := Lib.hid hb; clear hO hb
    obtain ⟨W, hW⟩ : ∃ x, x = wr := ⟨_, rfl⟩
    subst hW
    by_cases hlt : x < m
    · have A1 := HA.out.below BB.out
      have hda : W.cell? ⟨ga, x, none⟩ = some (.slice (some ⟨ba x, sa x, none⟩) m (ka x)) := A1.hd x hlt
      have hkx : bothK m x x = m := by unfold bothK; rw [if_neg (by omega)]
      have hdo := OO.out.hd x hlt
      rw [hkx] at hdo
      have HU : Hid (∀ j, j < m → W.cell? ⟨ba x, sa x + j, none⟩ = some (.int .i64 (A x j))) := Lib.hid fun j hj => A1.el x j hlt hj
      have HV : Hid (∀ j, j < m → W.cell? ⟨b x, s x + j, none⟩ = some (.int .i64 (diaF 1 x j))) := Lib.hid fun j hj => by
        have := OO.out.el x j hlt (by rw [hkx]; exact hj)
        rwa [show bothF m A x x j = diaF 1 x j by unfold bothF; rw [if_neg (by omega)]] at this
      obtain ⟨bx, hbx⟩ : ∃ z, z = ba x := ⟨_, rfl⟩
      obtain ⟨sx, hsx⟩ : ∃ z, z = sa x := ⟨_, rfl⟩
      obtain ⟨cx, hcx⟩ : ∃ z, z = ka x := ⟨_, rfl⟩
      obtain ⟨bo, hbo⟩ : ∃ z, z = b x := ⟨_, rfl⟩
      obtain ⟨so, hso⟩ : ∃ z, z = s x := ⟨_, rfl⟩
      obtain ⟨co, hco⟩ : ∃ z, z = c x := ⟨_, rfl⟩
      rw [← hbx, ← hsx] at hda HU
      rw [← hcx] at hda
      rw [← hbo, ← hso] at hdo HV
      rw [← hco] at hdo
      clear hbx hsx hcx hbo hso hco A1 hkx
      have x0' : 0 ≤ (x : Int) := by omega
      have x1' : (x : Int) < (m : Int) := by omega
      have zW := BB.out.size
      have hbA := (Below.refl W.heap.size W).alloc (Nat.le_refl _) (.cells #[.slice (some ⟨bx, sx, none⟩) m cx, .slice (some ⟨bo, so, none⟩) m co] 72)
      have O2 := Lib.hid (OO.out.below hbA)
      have B2 := Lib.hid (BB.out.trans (hbA.mono zW))
      have HU2 : Hid (∀ j, j < m → (W.alloc (.cells #[.slice (some ⟨bx, sx, none⟩) m cx, .slice (some ⟨bo, so, none⟩) m co] 72)).cell? ⟨bx, sx + j, none⟩ = some (.int .i64 (A x j))) := Lib.hid fun j hj => (hbA.cell (World.block_lt_of_cell? _ _ (HU.out j hj))).trans (HU.out j hj)
      have HV2 : Hid (∀ j, j < m → (W.alloc (.cells #[.slice (some ⟨bx, sx, none⟩) m cx, .slice (some ⟨bo, so, none⟩) m co] 72)).cell? ⟨bo, so + j, none⟩ = some (.int .i64 (diaF 1 x j))) := Lib.hid fun j hj => (hbA.cell (World.block_lt_of_cell? _ _ (HV.out j hj))).trans (HV.out j hj)
      have hdV := (hbA.cell (p := ⟨g, x, none⟩) OO.out.lg.2).trans hdo
      clear hbA OO BB HU HV
      go_wp2_with fail
      obtain ⟨V, hV⟩ : ∃ V, V = W.alloc (.cells #[.slice (some ⟨bx, sx, none⟩) m cx, .slice (some ⟨bo, so, none⟩) m co] 72) := ⟨_, rfl⟩
      have zV : V.heap.size = W.heap.size + 1 := by rw [hV]; simp
      have cV0 : V.cell? ⟨W.heap.size, 0, none⟩ = some (.slice (some ⟨bx, sx, none⟩) m cx) := by rw [hV]; simp
      have cV1 : V.cell? ⟨W.heap.size, 1, none⟩ = some (.slice (some ⟨bo, so, none⟩) m co) := by rw [hV]; simp
      rw [← hV] at O2 B2 HU2 HV2 hdV ⊢
      clear hV
      refine (concatZ_any W.heap.size bx sx cx bo so co m m (A x) (diaF 1 x) _ (by omega) cV0 cV1 HU2.out HV2.out (by omega) (by omega) (by omega) (by omega)).mono ?_
      rintro e w5 ⟨gc, cc, rfl, hown, hb⟩
      have z5 := hb.size
      have hgc := World.ownsRow.lt hown gc rfl
      have hcap := ownsRow_cap hown
      have O5 := O2.out.below hb
      have hlx : ∀ y, y < m → b y < gc := fun y hy => by have := (O2.out.lb y hy).2; omega
      have hg5 := O5.lg
      have hrp := O5.repl (f' := bothF m A (x + 1)) (i := x) (bn := gc) (sn := 0) (cn := cc) (kn := m + m) hlt (by have := O2.out.lg.2; omega) hgc.2 (fun y hy _ => by have := hlx y hy; omega) (fun j => World.ownsRow.frozenAt hown j) (fun j hj => by
        rw [Nat.zero_add, World.ownsRow.cellAt hown j (by omega), rowV_both hj]
        unfold bothF
        rw [if_pos (Nat.lt_succ_self x)]) (fun y j hy hne _ => by
        unfold bothF
        by_cases e : y < x
        · rw [if_pos e, if_pos (by omega)]
        · rw [if_neg e, if_neg (by omega)])
      have H6 : Hid (∃ b s c, OMx w.heap.size (w5.setCell ⟨g, x, none⟩ (.slice (some ⟨gc, 0, none⟩) (m + m) cc)) g m (bothK m (x + 1)) b s c (bothF m A (x + 1)) ∧ ∀ y, y < x + 1 → 2 * m ≤ c y) := Lib.hid ⟨_, _, _, hrp.congrK fun y _ => by
        unfold bothK
        by_cases e : y = x
        · rw [if_pos e, if_pos (by omega)]; omega
        · rw [if_neg e]
          by_cases e2 : y < x
          · rw [if_pos e2, if_pos (by omega)]
          · rw [if_neg e2, if_neg (by omega)], fun y hy => by
        by_cases e : y = x
        · simp only [if_pos e]; omega
        · simp only [if_neg e]; exact hcc y (by omega)⟩
      have B6 := Lib.hid ((below_go B2.out hb B2.out.size).setCell (p := ⟨g, x, none⟩) hlg.1 (.slice (some ⟨gc, 0, none⟩) (m + m) cc))
      have cd5 : w5.cell? ⟨g, x, none⟩ = some (.slice (some ⟨bo, so, none⟩) m co) := (hb.cell (p := ⟨g, x, none⟩) O2.out.lg.2).trans hdV
      have fd5 := O5.fg x
      have z6 : w1.heap.size ≤ (w5.setCell ⟨g, x, none⟩ (.slice (some ⟨gc, 0, none⟩) (m + m) cc)).heap.size := by simp [World.setCell]; omega
      clear hrp hown hb O5 hdo hda hlx hdV hcap
      go_wp2
      go_roundw
      case rel => exact ⟨x + 1, by omega, by go_num, H6.out, z6, B6.out⟩
      case measure => simp [intOf]; omega
    · have hxm : m = x := by omega
      subst hxm
      have O2 := Lib.hid ((OO.out.congrK (K' := fun _ => 2 * m) fun y hy => by unfold bothK; rw [if_pos hy]).congr (f' := augF m A) fun y j hy _ => by unfold bothF; rw [if_pos hy])
      have zW := BB.out.size
      clear OO
      go_wp2_with fail
      refine (solve_any w.heap.size g m cp (2 * m) b s c (augF m A) W O2.out HR.out (by omega) hcp hm (by omega) zW).mono ?_
      rintro e w3 ⟨d, rfl, hb3, hr⟩
      have B3 := Lib.hid (BB.out.trans hb3)
      rcases hr with ⟨rfl, hst⟩ | ⟨hd, h, hJ, hO⟩
      · have ST := Lib.hid hst
        clear hst hb3
        go_wp2
        go_ret2
        exact ⟨B3.out, .inl ⟨rfl, ST.out⟩⟩
      · have t0 : (d == 0) = false := by simp; omega
        have J3 := Lib.hid hJ; have O3 := Lib.hid hO
        have HB3 := Lib.hid hO.toRMx
        clear hJ hO hb3 O2
        go_wp2
        have hfg := O3.out.fg
        have hlb3 := O3.out.lb
        have HLB := Lib.hid (fun y (hy : y < m) => (hlb3 y hy).1)
        have HFG := Lib.hid hfg
        have HHD : Hid (∀ y, y < m → w3.cell? ⟨g, y, none⟩ = some (.slice (some ⟨b y, s y, none⟩) (2 * m) (c y))) := Lib.hid fun y hy => O3.out.hd y hy
        have HCC := Lib.hid hcc
        clear hfg hlb3 O3 hcc t0
        go_loopw [37] (fun xv wr => ∃ x : Nat, x ≤ m ∧ xv = .int .i64 x ∧ (∀ y, y < m → wr.cell? ⟨g, y, none⟩ = some (if y < x then .slice (some ⟨b y, s y + m, none⟩) m (c y - m) else .slice (some ⟨b y, s y, none⟩) (2 * m) (c y))) ∧ (∀ j, wr.frozen? ⟨g, j, none⟩ = false) ∧ (∀ u, u ≠ g → wr.heap[u]? = w3.heap[u]?) ∧ Below w.heap.size w wr) (fun xv _ => m - (intOf xv).toNat)
        case atStart => exact ⟨0, Nat.zero_le _, rfl, fun y hy => by rw [if_neg (Nat.not_lt_zero y)]; exact HHD.out y hy, HFG.out, fun _ _ => rfl, B3.out⟩
        case round =>
          obtain ⟨x, hx, rfl, hhd, hfz, hhp, hb⟩ := hrel
          have HD := Lib.hid hhd; have FZ := Lib.hid hfz; have HP := Lib.hid hhp; have B5 := Lib.hid hb
          clear B3 hhd hfz hhp hb
          obtain ⟨W5, hW5⟩ : ∃ x, x = wr := ⟨_, rfl⟩
          subst hW5
          by_cases hlx : x < m
          · have x0' : 0 ≤ (x : Int) := by omega
            have x1' : (x : Int) < (m : Int) := by omega
            have hdx := HD.out x hlx
            rw [if_neg (Nat.lt_irrefl x)] at hdx
            have hcx := HCC.out x hlx
            have l0 : 0 ≤ (m : Int) := by omega
            have l1 : (m : Int) ≤ ((2 * m : Nat) : Int) := by omega
            have l2 : (m : Int) ≤ (c x : Int) := by omega
            have l3 : ((2 * m : Nat) : Int) ≤ (c x : Int) := by omega
            have l4 : 2 * m - m = m := by omega
            have hfx := FZ.out x
            have zg5 := World.block_lt_of_cell? _ _ hdx
            have HX : Hid (∀ v, v = Value.slice (some ⟨b x, s x + m, none⟩) m (c x - m) → (∀ y, y < m → (W5.setCell ⟨g, x, none⟩ v).cell? ⟨g, y, none⟩ = some (if y < x + 1 then .slice (some ⟨b y, s y + m, none⟩) m (c y - m) else .slice (some ⟨b y, s y, none⟩) (2 * m) (c y))) ∧ (∀ j, (W5.setCell ⟨g, x, none⟩ v).frozen? ⟨g, j, none⟩ = false) ∧ (∀ u, u ≠ g → (W5.setCell ⟨g, x, none⟩ v).heap[u]? = w3.heap[u]?) ∧ Below w.heap.size w (W5.setCell ⟨g, x, none⟩ v)) := Lib.hid fun v hv => by
              subst hv
              refine ⟨fun y hy => ?_, fun j => by rw [World.frozen?_setCell]; exact FZ.out j, fun u hu => (Below.heap_setCell W5 _ _ u hu).trans (HP.out u hu), B5.out.setCell (p := ⟨g, x, none⟩) hlg.1 _⟩
              by_cases e : y = x
              · subst e
                rw [if_pos (Nat.lt_succ_self y)]
                exact World.cell?_setCell_same _ _ _ hdx
              · rw [World.cell?_setCell_other _ _ _ _ (by intro e3; injection e3 with e4 e5; omega), HD.out y hy]
                by_cases e2 : y < x
                · rw [if_pos e2, if_pos (by omega)]
                · rw [if_neg e2, if_neg (by omega)]
            obtain ⟨bx, hbx⟩ : ∃ z, z = b x := ⟨_, rfl⟩
            obtain ⟨sx, hsx⟩ : ∃ z, z = s x := ⟨_, rfl⟩
            obtain ⟨cx, hcx2⟩ : ∃ z, z = c x := ⟨_, rfl⟩
            rw [← hbx, ← hsx, ← hcx2] at hdx HX
            rw [← hcx2] at l2 l3
            clear hbx hsx hcx2 hcx
            go_wp2
            obtain ⟨q1, q2, q3, q4⟩ := HX.out _ rfl
            go_roundw
            case rel => exact ⟨x + 1, by omega, by go_num, q1, q2, q3, q4⟩
            case measure => simp [intOf]; omega
          · have hxm : x = m := by omega
            have RX : Hid (RMx W5 g m (fun _ => m) b (fun i => s i + m) (fun i => c i - m) (fun i t => h i (m + t))) := Lib.hid ⟨fun y hy => by
              have := HD.out y hy
              rwa [if_pos (by omega)] at this, fun y j hy hj => by
              have e1 := HB3.out.el y (m + j) hy (by omega)
              rw [← Nat.add_assoc] at e1
              exact (World.cell?_of_block (w := w3) (HP.out _ (by have := HLB.out y hy; show b y ≠ g; omega))).trans e1⟩
            clear hxm
            go_wp2
            go_ret2
            exact ⟨B5.out, .inr ⟨d, h, g, b, _, _, _, rfl, J3.out, RX.out⟩⟩

end Go.Proofs.Ytelmdfkcclhhjaa
