/- The program's elimination. -/
import Derived.Test.YtelmdfkcclhhjaaGBrU
namespace Go.Proofs.Ytelmdfkcclhhjaa
open Go.RowKit Go.ChangeShapes

theorem prodD_congr {ds es : Nat → Int} {n : Nat} (h : ∀ j, j < n → ds j = es j) : prodD ds n = prodD es n := by
  induction n with
  | zero => rfl
  | succ n ih => show prodD ds n * ds n % 10007 = prodD es n * es n % 10007; rw [ih fun j hj => h j (by omega), h n (by omega)]

theorem prodD_ne {ds : Nat → Int} {n : Nat} (h : ∀ j, j < n → 0 < ds j ∧ ds j < 10007) : 0 < prodD ds n ∧ prodD ds n < 10007 := by
  induction n with
  | zero => exact ⟨by show (0 : Int) < 1; decide, by show (1 : Int) < 10007; decide⟩
  | succ n ih =>
    have h1 := prod_ne (ih fun j hj => h j (by omega)) (h n (by omega))
    have h2 := prodD_rem ds (n + 1)
    have h3 : prodD ds (n + 1) = prodD ds n * ds n % 10007 := rfl
    omega

/-- The row k while it is divided. -/
def divP (h : Nat → Nat → Int) (k : Nat) (y : Nat) : Nat → Nat → Int := fun a b => if a = k ∧ b < y then ownF h k b else h a b
theorem divP_zero (h : Nat → Nat → Int) (k a b : Nat) : divP h k 0 a b = h a b := by unfold divP; rw [if_neg (by omega)]
theorem divP_at (h : Nat → Nat → Int) (k y : Nat) : divP h k y k y = h k y := by unfold divP; rw [if_neg (by omega)]
theorem divP_upd (h : Nat → Nat → Int) (k y a b : Nat) : updF (divP h k y) k y (ownF h k y) a b = divP h k (y + 1) a b := by
  unfold updF divP
  by_cases e : a = k ∧ b = y
  · rw [if_pos e, if_pos (by omega), e.2]
  · rw [if_neg e]
    by_cases e2 : a = k ∧ b < y
    · rw [if_pos e2, if_pos (by omega)]
    · rw [if_neg e2, if_neg (by omega)]

/-- The rows while they are cleared. -/
def cleP (h : Nat → Nat → Int) (k x : Nat) : Nat → Nat → Int := fun a b => if a = k ∨ a < x then clearF h k a b else h a b
theorem cleP_zero {h : Nat → Nat → Int} {k K b : Nat} (hb : b < K) (a : Nat) : divP h k K a b = cleP h k 0 a b := by
  unfold divP cleP
  by_cases e : a = k
  · rw [if_pos ⟨e, hb⟩, if_pos (.inl e)]
    unfold clearF
    rw [if_pos e]
  · rw [if_neg (fun q => e q.1), if_neg (by omega)]
theorem cleP_row {h : Nat → Nat → Int} {k x : Nat} (e : x ≠ k) (b : Nat) : cleP h k x x b = h x b := by unfold cleP; rw [if_neg (by omega)]
theorem cleP_own (h : Nat → Nat → Int) (k x b : Nat) : cleP h k x k b = ownF h k b := by unfold cleP clearF; rw [if_pos (.inl rfl), if_pos rfl]
theorem opp_sub (u o c : Int) : (u + o * oppF c % 10007) % 10007 = (u - c * o) % 10007 := by
  have h1 : Eqm (o * oppF c) (-(c * o)) := by
    have : Eqm (oppF c) (-c) := by unfold oppF Eqm; omega
    have h2 := this.mulL o
    rwa [Int.mul_neg, Int.mul_comm o c] at h2
  have h3 : Eqm (u + o * oppF c % 10007) (u - c * o) := by
    rw [Int.sub_eq_add_neg]
    exact (Eqm.refl u).add ((Eqm.of_mod _).trans h1)
  exact h3.mod
theorem cleP_upd {h : Nat → Nat → Int} {k x : Nat} (e : x ≠ k) (a b : Nat) : addR (cleP h k x) x k (oppF (h x k)) a b = cleP h k (x + 1) a b := by
  unfold addR
  by_cases e2 : a = x
  · subst e2
    rw [if_pos rfl, cleP_row e, cleP_own, opp_sub]
    unfold cleP clearF
    rw [if_pos (.inr (Nat.lt_succ_self a)), if_neg e]
  · rw [if_neg e2]
    unfold cleP
    by_cases e3 : a = k ∨ a < x
    · rw [if_pos e3, if_pos (by omega)]
    · rw [if_neg e3, if_neg (by omega)]
theorem cleP_skip {h : Nat → Nat → Int} {k : Nat} (a b : Nat) : cleP h k k a b = cleP h k (k + 1) a b := by
  unfold cleP
  by_cases e3 : a = k ∨ a < k
  · rw [if_pos e3, if_pos (by omega)]
  · rw [if_neg e3, if_neg (by omega)]
theorem cleP_end {h : Nat → Nat → Int} {k m a : Nat} (ha : a < m) (b : Nat) : cleP h k m a b = clearF h k a b := by unfold cleP; rw [if_pos (.inr ha)]
theorem cleP_rem {m K : Nat} {h : Nat → Nat → Int} (hr : Rem m K h) (k x : Nat) : Rem m K (cleP h k x) := fun a b ha hb => by
  unfold cleP
  split
  · exact clearF_rem (m := m) (K := K) k a b ha hb
  · exact hr a b ha hb

theorem GJ.ext {m K : Nat} {f : Nat → Nat → Int} {k : Nat} {g : Nat → Nat → Int} {d : Int} (h : GJ m K f k g d) {d' : Int} (e : d' = d) : GJ m K f k g d' := by rw [e]; exact h

set_option maxRecDepth 100000 in
set_option maxHeartbeats 4000000 in
theorem solve_any (B g m cap K : Nat) (b s c : Nat → Nat) (f : Nat → Nat → Int) (w : World) (hO : OMx B w g m (fun _ => K) b s c f) (hf : Rem m K f) (hmK : m ≤ K) (hcap : m ≤ cap) (hm : m ≤ 28) (hK : K ≤ 56) (hB : B ≤ w.heap.size) :
    Calls Try.prog 62 #[.slice (some ⟨g, 0, none⟩) m cap] w fun e w' => ∃ d, e = .returned (.int .i64 d) ∧ Below B w w' ∧ ((d = 0 ∧ Stuck m K f) ∨ ((0 < d ∧ d < 10007) ∧ ∃ h, GJ m K f m h d ∧ OMx B w' g m (fun _ => K) b s c h)) := by
  obtain ⟨i0, hi, hz0, hz1, hz2⟩ := info_parts infoRes
  have O0 := Lib.hid hO; have G0 := Lib.hid (GJ.start hf)
  have hlb := hO.lb; have hlg := hO.lg
  clear hO hf
  go_enter Try.func62, Try.ntmps62
  go_wp2
  go_loopw [3, 12] (fun dv kv wr => ∃ k : Nat, k ≤ m ∧ kv = .int .i64 k ∧ (∃ a cc ds, dv = .slice a k cc ∧ wr.ownsRow w.heap.size 67 1 (.slice a k cc) k (rowV ds k) ∧ (∀ j, j < k → 0 < ds j ∧ ds j < 10007) ∧ ∃ h, GJ m K f k h (prodD ds k) ∧ OMx B wr g m (fun _ => K) b s c h) ∧ w.heap.size ≤ wr.heap.size ∧ Below B w wr) (fun _ kv _ => m - (intOf kv).toNat)
  case atStart => exact ⟨0, Nat.zero_le _, rfl, ⟨none, 0, fun _ => 0, rfl, World.ownsRow_nil _ _ _ _, fun j hj => absurd hj (Nat.not_lt_zero _), f, G0.out, O0.out⟩, Nat.le_refl _, Below.refl _ _⟩
  case round =>
    obtain ⟨k, hk, rfl, ⟨a, cc, ds, rfl, hD, hds, h, hG, hO⟩, hzw, hb⟩ := hrel
    clear O0 G0
    have DD := Lib.hid hD; have HDS := Lib.hid hds; have GG := Lib.hid hG; have OO := Lib.hid hO; have BB := Lib.hid hb
    clear hD hds hG hO hb
    obtain ⟨W, hW⟩ : ∃ x, x = wr := ⟨_, rfl⟩
    subst hW
    by_cases hlt : k < m
    · have hdk := OO.out.cell hlt
      obtain ⟨bk, hbk⟩ : ∃ z, z = b k := ⟨_, rfl⟩
      obtain ⟨sk, hsk⟩ : ∃ z, z = s k := ⟨_, rfl⟩
      obtain ⟨ck, hck⟩ : ∃ z, z = c k := ⟨_, rfl⟩
      have HEL : Hid (∀ (W : World) (h : Nat → Nat → Int), OMx B W g m (fun _ => K) b s c h → ∀ y, y < K → W.cell? ⟨bk, sk + y, none⟩ = some (.int .i64 (h k y)) ∧ W.frozen? ⟨bk, sk + y, none⟩ = false) := Lib.hid fun W h hh y hy => by rw [hbk, hsk]; exact ⟨hh.el k y hlt hy, hh.fr k _ hlt⟩
      have HST : Hid (∀ (W : World) (h : Nat → Nat → Int), OMx B W g m (fun _ => K) b s c h → ∀ y, y < K → ∀ v, OMx B (W.setCell ⟨bk, sk + y, none⟩ (.int .i64 v)) g m (fun _ => K) b s c (updF h k y v)) := Lib.hid fun W h hh y hy v => by rw [hbk, hsk]; exact hh.set hlt hy v
      have HKS : Hid (∀ (w0 W : World), Keeps m b w0 W → ∀ y v, Keeps m b w0 (W.setCell ⟨bk, y, none⟩ v)) := Lib.hid fun w0 W hk y v => by rw [hbk]; exact hk.set hlt y v
      rw [← hbk, ← hsk, ← hck] at hdk
      have hbk2 : bk < w.heap.size := by rw [hbk]; exact (hlb k hlt).2
      have hbkB : B ≤ bk := by rw [hbk]; have := (hlb k hlt).1; omega
      clear hbk hsk hck
      have k0' : 0 ≤ (k : Int) := by omega
      have k1' : (k : Int) < (m : Int) := by omega
      go_wp2_with fail
      refine (bringUp_any B g m cap K b s c h f (prodD ds k) k W OO.out GG.out hlt hmK hcap hm hK (by omega)).mono ?_
      rintro e w2 ⟨r, rfl, hb, hkp, hr⟩
      rcases hr with ⟨rfl, hz⟩ | ⟨rfl, h1, hO1, hG1, hne⟩
      · have ST : Hid (Stuck m K f) := Lib.hid ⟨k, h, _, hlt, GG.out, hz⟩
        have B2 := Lib.hid (BB.out.trans hb)
        clear hz hb hdk
        go_wp2
        go_ret
        exact ⟨0, rfl, B2.out, .inl ⟨rfl, ST.out⟩⟩
      · have z2 := hb.size
        have B2 := Lib.hid (BB.out.trans hb)
        have O1 := Lib.hid hO1; have G1 := Lib.hid hG1
        have hpr := hG1.rem k k hlt (by omega)
        have hown : ∀ u, (Value.slice a k cc).ownBlock = some u → w2.heap[u]? = W.heap[u]? := fun u hu => by
          have h3 := World.ownsRow.lt DD.out u hu
          exact hkp.2 u h3.2 fun x hx e => by have := (hlb x hx).2; omega
        have D2 : Hid (w2.ownsRow w.heap.size 67 1 (.slice a k cc) k (rowV ds k)) := Lib.hid (ownsRow_heap DD.out hown)
        have hp1 : 0 < h1 k k ∧ h1 k k < 10007 := by omega
        obtain ⟨pv, hpv⟩ : ∃ p, p = h1 k k := ⟨_, rfl⟩
        have HDE : Hid (∀ ds' : Nat → Int, ds' = (fun j => if j = k then pv else ds j) → rowV ds' (k + 1) = rowV ds k ++ [.int .i64 pv] ∧ (∀ j, j < k + 1 → 0 < ds' j ∧ ds' j < 10007) ∧ prodD ds' (k + 1) = prodD ds k * pv % 10007) := Lib.hid fun ds' e => by
          subst e
          refine ⟨?_, fun j hj => ?_, ?_⟩
          · rw [rowV_succ]
            congr 1
            · unfold rowV
              refine List.map_congr_left fun j hj => ?_
              have := List.mem_range.1 hj
              simp only [if_neg (show j ≠ k by omega)]
            · simp
          · by_cases e2 : j = k
            · simp only [if_pos e2]; rw [hpv]; exact hp1
            · simp only [if_neg e2]; exact HDS.out j (by omega)
          · show prodD _ k * (if k = k then pv else ds k) % 10007 = _
            rw [if_pos rfl, prodD_congr fun j hj => if_neg (show j ≠ k by omega)]
        have hG2 := hG1.clear hlt hmK hne (d' := prodD ds k * pv % 10007) (by rw [hpv]; exact Eqm.of_mod _)
        have G2 := Lib.hid hG2
        have HR1 := Lib.hid hG1.rem
        have cp := (HEL.out w2 h1 hO1 k (by omega)).1
        have hown2 : ∀ y, ownF h1 k y = h1 k y * invF pv % 10007 := fun y => by rw [hpv]; rfl
        have HOW := Lib.hid hown2
        rw [← hpv] at cp hp1
        have HPV := Lib.hid hpv
        have O1' := Lib.hid hO1
        have hz2' : w.heap.size ≤ w2.heap.size := by omega
        clear hb hkp hO1 hG1 hne hG2 hown hown2 hpv hpr O1 G1 hdk
        go_wp2_with (at_builtin; refine wpList_append_lies _ rfl _ _ 72 rfl w.heap.size 67 i0 (.int .i64 0) 1 8 Try.underlying72 hi hz0 hz1 hz2 rfl (by decide) _ _ _ rfl (World.ownsRow.alloc D2.out _) ⟨w2.heap.size, 0, none⟩ 1 1 [.int .i64 pv] rfl rfl (one_new w2 pv _) (one_cell _) (by decide) (by unfold maxLen; omega) (by omega) (by simp; omega) _ rfl ?_)
        intro g2 cap2 w3 hown hgrow hat hlt2
        have hb3 := grown_below (B := w.heap.size) hz2' D2.out hgrow
        obtain ⟨ds', hds'⟩ : ∃ ds' : Nat → Int, ds' = (fun j => if j = k then pv else ds j) := ⟨_, rfl⟩
        obtain ⟨hd1, hd2, hd3⟩ := HDE.out ds' hds'
        rw [← hd1] at hown
        have D3 := Lib.hid hown; have HD2 := Lib.hid hd2
        rw [← hd3] at G2
        have O3 := Lib.hid ((O1'.out.under hb3 hlg.2 fun x hx => (hlb x hx).2).congr (f' := divP h1 k 0) fun x y _ _ => (divP_zero h1 k x y).symm)
        have B3 := Lib.hid (B2.out.trans (hb3.mono hB))
        have z3 := hb3.size
        have cp3 : w3.cell? ⟨bk, sk + k, none⟩ = some (.int .i64 pv) := (hb3.cell (p := ⟨bk, sk + k, none⟩) hbk2).trans cp
        have K3 := Lib.hid (Keeps.refl m b w3)
        clear hds' hd1 hd2 hd3 hown hgrow hat hlt2 O1' cp HDE D2 hb3
        go_upto_region 8 with fail
        go_wp2_with fail
        refine (resInv_any pv _ (by omega) hp1.2).mono ?_
        rintro e w4 ⟨rfl, rfl⟩
        have bi := invF_rem pv
        obtain ⟨iv, hiv⟩ : ∃ z, z = invF pv := ⟨_, rfl⟩
        rw [← hiv] at bi ⊢
        have HIV := Lib.hid hiv
        clear hiv cp3
        go_wp2
        go_loopw [35] (fun yv wr => ∃ y : Nat, y ≤ K ∧ yv = .int .i64 y ∧ OMx B wr g m (fun _ => K) b s c (divP h1 k y) ∧ Keeps m b w3 wr ∧ Below B w wr) (fun yv _ => K - (intOf yv).toNat)
        case atStart => exact ⟨0, Nat.zero_le _, rfl, O3.out, K3.out, B3.out⟩
        case round =>
          obtain ⟨y, hy, rfl, hO, hkp, hb⟩ := hrel
          clear O3 K3 B3
          have O3 := Lib.hid hO; have K3 := Lib.hid hkp; have B3 := Lib.hid hb; clear hO hkp hb
          obtain ⟨W4, hW4⟩ : ∃ x, x = wr := ⟨_, rfl⟩
          subst hW4
          by_cases hly : y < K
          · obtain ⟨cy, fy⟩ := HEL.out W4 _ O3.out y hly
            rw [divP_at] at cy
            have by_ := HR1.out k y hlt hly
            have O4 := Lib.hid ((HST.out W4 _ O3.out y hly (ownF h1 k y)).congr fun x z _ _ => divP_upd h1 k y x z)
            have B4 := Lib.hid (B3.out.setCell (p := ⟨bk, sk + y, none⟩) hbkB (.int .i64 (ownF h1 k y)))
            have K4 : Hid (Keeps m b w3 (W4.setCell ⟨bk, sk + y, none⟩ (.int .i64 (ownF h1 k y)))) := Lib.hid (HKS.out w3 W4 K3.out (sk + y) _)
            rw [HOW.out y, HIV.out.symm] at O4 B4 K4
            obtain ⟨u, hu⟩ : ∃ u, u = h1 k y := ⟨_, rfl⟩
            rw [← hu] at cy by_ O4 B4 K4
            have m1 := rem_mul by_ bi
            have zb4 := World.block_lt_of_cell? _ _ cy
            have y1' : (y : Int) < (K : Int) := by omega
            clear hu
            go_wp2_with fail
            refine (times_any u iv _ m1.1 (by omega)).mono ?_
            rintro e w5 ⟨rfl, rfl⟩
            obtain ⟨z, hz⟩ : ∃ z, z = u * iv % 10007 := ⟨_, rfl⟩
            rw [← hz] at O4 B4 K4 ⊢
            clear hz m1
            go_wp2
            go_roundw
            case rel => exact ⟨y + 1, by omega, by go_num, O4.out, K4.out, B4.out⟩
            case measure => simp [intOf]; omega
          · have hyK : y = K := by omega
            have O4 := Lib.hid (O3.out.congr (f' := cleP h1 k 0) fun x z _ hz => by rw [hyK]; exact cleP_zero hz x)
            clear O3 hyK
            go_wp2
            go_loopw [49] (fun xv wr => ∃ x : Nat, x ≤ m ∧ xv = .int .i64 x ∧ OMx B wr g m (fun _ => K) b s c (cleP h1 k x) ∧ Keeps m b w3 wr ∧ Below B w wr) (fun xv _ => m - (intOf xv).toNat)
            case atStart => exact ⟨0, Nat.zero_le _, rfl, O4.out, K3.out, B3.out⟩
            case round =>
              obtain ⟨x, hx, rfl, hO, hkp, hb⟩ := hrel
              clear O4 K3 B3
              have O3 := Lib.hid hO; have K3 := Lib.hid hkp; have B3 := Lib.hid hb; clear hO hkp hb
              obtain ⟨W5, hW5⟩ : ∃ x, x = wr := ⟨_, rfl⟩
              subst hW5
              by_cases hlx : x < m
              · by_cases hxk : x = k
                · subst hxk
                  have O5 := Lib.hid (O3.out.congr (f' := cleP h1 x (x + 1)) fun p q _ _ => cleP_skip p q)
                  have t1 : ((x : Int) != (x : Int)) = false := by simp
                  have x1' : (x : Int) < (m : Int) := by omega
                  clear O3
                  go_wp2
                  go_roundw
                  case rel => exact ⟨x + 1, by omega, by go_num, O5.out, K3.out, B3.out⟩
                  case measure => simp [intOf]; omega
                · have t1 : ((x : Int) != (k : Int)) = true := by simp; omega
                  have x0' : 0 ≤ (x : Int) := by omega
                  have x1' : (x : Int) < (m : Int) := by omega
                  have hdx := O3.out.cell hlx
                  have hex := O3.out.el x k hlx (by omega)
                  rw [cleP_row hxk] at hex
                  have bx := HR1.out x k hlx (by omega)
                  have bo := oppF_rem (h1 x k)
                  have HUP := Lib.hid (fun p q => cleP_upd (h := h1) hxk p q)
                  obtain ⟨bx', hbx'⟩ : ∃ z, z = b x := ⟨_, rfl⟩
                  obtain ⟨sx', hsx'⟩ : ∃ z, z = s x := ⟨_, rfl⟩
                  obtain ⟨cx', hcx'⟩ : ∃ z, z = c x := ⟨_, rfl⟩
                  rw [← hbx', ← hsx'] at hdx hex
                  rw [← hcx'] at hdx
                  obtain ⟨u, hu⟩ : ∃ u, u = h1 x k := ⟨_, rfl⟩
                  rw [← hu] at hex bx bo HUP
                  have HRC := Lib.hid (cleP_rem HR1.out k x)
                  clear hbx' hsx' hcx' hu
                  go_wp2_with fail
                  refine (opp_any u _ bx.1 bx.2).mono ?_
                  rintro e w6 ⟨rfl, rfl⟩
                  obtain ⟨op, hop⟩ : ∃ z, z = oppF u := ⟨_, rfl⟩
                  rw [← hop] at bo HUP ⊢
                  clear hop hdx hex
                  go_wp2_with fail
                  refine (addMultiple_any B g m cap K b s c (cleP h1 k x) x k op W5 O3.out HRC.out hlx hlt hxk bo hK).mono ?_
                  rintro e w6 ⟨rfl, hO, hb, hkp⟩
                  have O5 := Lib.hid (hO.congr (f' := cleP h1 k (x + 1)) fun p q _ _ => HUP.out p q)
                  have K5 := Lib.hid (K3.out.trans hkp); have B5 := Lib.hid (B3.out.trans hb)
                  clear hO hb hkp
                  go_wp2
                  go_roundw
                  case rel => exact ⟨x + 1, by omega, by go_num, O5.out, K5.out, B5.out⟩
                  case measure => simp [intOf]; omega
              · have hxm : x = m := by omega
                have O5 := Lib.hid (O3.out.congr (f' := clearF h1 k) fun p q hp _ => by rw [hxm]; exact cleP_end hp q)
                have hown : ∀ u, (Value.slice (some ⟨g2, 0, none⟩) (k + 1) cap2).ownBlock = some u → W5.heap[u]? = w3.heap[u]? := fun u hu => by
                  have h3 := World.ownsRow.lt D3.out u hu
                  exact K3.out.2 u h3.2 fun x hx e => by have := (hlb x hx).2; omega
                have D5 := Lib.hid (ownsRow_heap D3.out hown)
                have z5 : w.heap.size ≤ W5.heap.size := by have := K3.out.1; omega
                clear O3 hown hxm
                go_wp2
                go_roundw
                case rel => exact ⟨k + 1, by omega, by go_num, ⟨_, cap2, ds', rfl, D5.out, HD2.out, _, G2.out, O5.out⟩, z5, B3.out⟩
                case measure => simp [intOf]; omega
    · have hkm : k = m := by omega
      subst hkm
      have hcells : k = 0 ∨ ∃ g o, a = some ⟨g, o, none⟩ ∧ ∀ j, j < k → W.cell? ⟨g, o + j, none⟩ = some (.int .i64 (ds j)) := by
        rcases Nat.eq_zero_or_pos k with e | e
        · exact .inl e
        · obtain ⟨gd, cd, hv, _, _⟩ := DD.out.form e
          simp only [Value.slice.injEq, true_and] at hv
          obtain ⟨rfl, rfl⟩ := hv
          exact .inr ⟨gd, 0, rfl, fun j hj => by rw [Nat.zero_add, World.ownsRow.cellAt DD.out j (by omega)]; exact rowV_at _ _ _ hj⟩
      have HCL := Lib.hid hcells
      have HPN := Lib.hid (prodD_ne HDS.out)
      clear hcells
      go_wp2_with fail
      refine (productOf_any a k cc ds W HCL.out (fun j hj => by have := HDS.out j hj; omega) (by omega)).mono ?_
      rintro e w2 ⟨rfl, rfl⟩
      go_wp2
      go_ret
      exact ⟨_, rfl, BB.out, .inr ⟨HPN.out, h, GG.out, OO.out⟩⟩

end Go.Proofs.Ytelmdfkcclhhjaa
