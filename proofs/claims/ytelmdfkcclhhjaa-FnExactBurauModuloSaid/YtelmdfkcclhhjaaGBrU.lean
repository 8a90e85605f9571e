/- A row is brought up by the program. -/
import Derived.Test.YtelmdfkcclhhjaaGAdd
namespace Go.Proofs.Ytelmdfkcclhhjaa
open Go.RowKit Go.ChangeShapes

theorem bringUp1_any (k g : Nat) (bk sk n ck : Nat) (v : Int) (w : World) (hg : w.cell? ⟨g, 0, none⟩ = some (.int .i64 k)) (hr : w.cell? ⟨bk, sk + k, none⟩ = some (.int .i64 v)) (hk : k < n) :
    Calls Try.prog 109 #[.slice (some ⟨bk, sk, none⟩) n ck, .pointer (some ⟨g, 0, none⟩)] w fun e w' => e = .returned (.bool (decide (v ≠ 0))) ∧ w = w' := by
  have k0 : 0 ≤ (k : Int) := by omega
  have k1 : (k : Int) < (n : Int) := by omega
  by_cases h : v = 0
  · subst h
    go_enter Try.func109, Try.ntmps109
    go_wp2
    go_ret
    exact ⟨ret_bool (by simp), rfl⟩
  · have t1 : (v != 0) = true := by simp [h]
    go_enter Try.func109, Try.ntmps109
    go_wp2
    go_ret
    exact ⟨ret_bool (by simp [h]), rfl⟩

set_option maxRecDepth 100000 in
set_option maxHeartbeats 1000000 in
theorem indexCol_any (k g gm off M K cap : Nat) (b s c : Nat → Nat) (f : Nat → Nat → Int) (w : World) (hg : w.cell? ⟨g, 0, none⟩ = some (.int .i64 k)) (hh : ∀ j, j < M → w.cell? ⟨gm, off + j, none⟩ = some (.slice (some ⟨b j, s j, none⟩) K (c j))) (he : ∀ j, j < M → w.cell? ⟨b j, s j + k, none⟩ = some (.int .i64 (f j k))) (hk : k < K) (hM : M ≤ 1000) :
    Calls Try.prog 108 #[.slice (some ⟨gm, off, none⟩) M cap, .func (.func 109) #[] #[.pointer (some ⟨g, 0, none⟩)]] w fun e w' =>
      ∃ r : Int, e = .returned (.int .i64 r) ∧ w = w' ∧ ((r = -1 ∧ ∀ j, j < M → f j k = 0) ∨ ∃ i : Nat, r = (i : Int) ∧ i < M ∧ f i k ≠ 0 ∧ ∀ j, j < i → f j k = 0) := by
  have HH := Lib.hid hh; have HE := Lib.hid he
  have HST := Lib.hid (fun bk sk ck v (h : w.cell? ⟨bk, sk + k, none⟩ = some (.int .i64 v)) => bringUp1_any k g bk sk K ck v w hg h hk)
  clear hh he hg
  go_enter Try.func108, Try.ntmps108
  go_wp2
  go_loop [8] (fun iv => ∃ i : Nat, i ≤ M ∧ iv = .int .i64 i ∧ Hid (∀ j, j < i → f j k = 0)) (fun iv => M - (intOf iv).toNat)
  case atStart => exact ⟨0, Nat.zero_le _, rfl, Lib.hid fun j hj => absurd hj (Nat.not_lt_zero _)⟩
  case round =>
    obtain ⟨i, hi, rfl, HS⟩ := hrel
    by_cases hlt : i < M
    · have c0 := HH.out i hlt
      have hec := HE.out i hlt
      obtain ⟨bi, hbi⟩ : ∃ x, x = b i := ⟨_, rfl⟩
      obtain ⟨si, hsi⟩ : ∃ x, x = s i := ⟨_, rfl⟩
      obtain ⟨ci, hci⟩ : ∃ x, x = c i := ⟨_, rfl⟩
      obtain ⟨v, hv⟩ : ∃ x, x = f i k := ⟨_, rfl⟩
      rw [← hbi, ← hsi] at c0 hec
      rw [← hci] at c0
      rw [← hv] at hec
      have HC := Lib.hid (HST.out bi si ci v hec)
      have HV := Lib.hid hv
      clear hbi hsi hci hv hec
      have i0' : 0 ≤ (i : Int) := by omega
      have i1' : (i : Int) < (M : Int) := by omega
      by_cases h0 : v = 0
      · have HD : Hid (decide (v ≠ 0) = false) := Lib.hid (by simp [h0])
        go_wp2_with fail
        refine HC.out.mono ?_
        rw [HD.out]
        rintro e w1 ⟨rfl, rfl⟩
        go_wp2
        go_round
        case rel => exact ⟨i + 1, by omega, by go_num, Lib.hid fun j hj => by
          by_cases e : j = i
          · rw [e, ← HV.out]; exact h0
          · exact HS.out j (by omega)⟩
        case measure => simp [intOf]; omega
      · have HD : Hid (decide (v ≠ 0) = true) := Lib.hid (by simp [h0])
        go_wp2_with fail
        refine HC.out.mono ?_
        rw [HD.out]
        rintro e w1 ⟨rfl, rfl⟩
        go_wp2
        go_ret
        exact ⟨_, rfl, rfl, .inr ⟨i, rfl, hlt, by rw [← HV.out]; exact h0, HS.out⟩⟩
    · have him : i = M := by omega
      subst him
      go_wp2
      go_ret
      exact ⟨_, rfl, rfl, .inl ⟨rfl, HS.out⟩⟩

set_option maxRecDepth 100000 in
set_option maxHeartbeats 2000000 in
theorem bringUp_any (B g m cap K : Nat) (b s c : Nat → Nat) (f f0 : Nat → Nat → Int) (d : Int) (k : Nat) (w : World) (hO : OMx B w g m (fun _ => K) b s c f) (hG : GJ m K f0 k f d) (hk : k < m) (hmK : m ≤ K) (hcap : m ≤ cap) (hm : m ≤ 28) (hK : K ≤ 56) (hB : B ≤ w.heap.size) :
    Calls Try.prog 91 #[.slice (some ⟨g, 0, none⟩) m cap, .int .i64 k] w fun e w' => ∃ r, e = .returned (.bool r) ∧ Below B w w' ∧ Keeps m b w w' ∧ ((r = false ∧ ∀ i, k ≤ i → i < m → f i k = 0) ∨ (r = true ∧ ∃ h, OMx B w' g m (fun _ => K) b s c h ∧ GJ m K f0 k h d ∧ h k k ≠ 0)) := by
  have O0 := Lib.hid (hO.below ((Below.refl _ _).alloc (Nat.le_refl _) (.cells #[.int .i64 k] 3))); have HG := Lib.hid hG
  have B0 := Lib.hid ((Below.refl B w).alloc hB (.cells #[.int .i64 k] 3))
  have hlg := hO.lg
  have K0 := Lib.hid (Keeps.of (m := m) (b := b) ((Below.refl w.heap.size w).alloc (Nat.le_refl _) (.cells #[.int .i64 k] 3)))
  clear hO hG
  go_enter Try.func91, Try.ntmps91
  go_upto_region 1 with fail
  obtain ⟨V, hV⟩ : ∃ V, V = w.alloc (.cells #[.int .i64 k] 3) := ⟨_, rfl⟩
  have zV : V.heap.size = w.heap.size + 1 := by rw [hV]; simp
  have cb : V.cell? ⟨w.heap.size, 0, none⟩ = some (.int .i64 k) := by rw [hV]; simp
  rw [← hV] at O0 B0 K0 ⊢
  clear hV
  have k0' : 0 ≤ (k : Int) := by omega
  have k1' : (k : Int) ≤ (m : Int) := by omega
  have k2' : (k : Int) ≤ (cap : Int) := by omega
  have k3' : (m : Int) ≤ (cap : Int) := by omega
  go_wp2_with fail
  refine (indexCol_any k w.heap.size g k (m - k) K (cap - k) (fun j => b (k + j)) (fun j => s (k + j)) (fun j => c (k + j)) (fun j => f (k + j)) V cb (fun j hj => O0.out.hd (k + j) (by omega)) (fun j hj => O0.out.el (k + j) k (by omega) (by omega)) (by omega) (by omega)).mono ?_
  rintro e w2 ⟨r, rfl, rfl, hr⟩
  rcases hr with ⟨rfl, hz⟩ | ⟨i, rfl, hi, hne, hz⟩
  · have HZ : Hid (∀ i, k ≤ i → i < m → f i k = 0) := Lib.hid fun i h1 h2 => by
      have := hz (i - k) (by omega)
      rwa [show k + (i - k) = i by omega] at this
    clear hz
    go_wp2
    go_ret
    exact ⟨_, rfl, B0.out, K0.out, .inl ⟨rfl, HZ.out⟩⟩
  · by_cases hi0 : i = 0
    · subst hi0
      have HNE := Lib.hid hne
      clear hne hz
      go_wp2
      go_ret
      exact ⟨_, rfl, B0.out, K0.out, .inr ⟨rfl, f, O0.out, HG.out, HNE.out⟩⟩
    · have hz0 := hz 0 (by omega)
      simp only [Nat.add_zero] at hz0
      have hbr := HG.out.bring hmK (t := k + i) (by omega) (by omega) hz0
      have H1 := Lib.hid hbr.1
      have H2 := Lib.hid (show addR f k (k + i) 1 k k ≠ 0 by rw [hbr.2]; exact hne)
      have HR := Lib.hid HG.out.rem
      have wi : IntKind.i64.wrap ((k : Int) + (i : Int)) = ((k + i : Nat) : Int) := (IntWalk.i64_in _ (by omega)).trans (by push_cast; rfl)
      have ip : 0 < (i : Int) := by omega
      have ige : 0 ≤ (i : Int) := by omega
      have zV2 : V.heap.size = w.heap.size + 1 := zV
      clear hbr hz hz0 hne
      go_wp2_with fail
      refine (addMultiple_any B g m cap K b s c f k (k + i) 1 V O0.out HR.out hk (by omega) (by omega) (by omega) hK).mono ?_
      rintro e w3 ⟨rfl, hO, hb, hkp⟩
      have O3 := Lib.hid hO; have B3 := Lib.hid (B0.out.trans hb); have K3 := Lib.hid (K0.out.trans hkp)
      clear hO hb hkp
      go_wp2
      go_ret
      exact ⟨_, rfl, B3.out, K3.out, .inr ⟨rfl, _, O3.out, H1.out, H2.out⟩⟩

end Go.Proofs.Ytelmdfkcclhhjaa
