/- The program's row operations, and products of numbers. -/
import Derived.Test.YtelmdfkcclhhjaaGauQ
import Derived.Test.YtelmdfkcclhhjaaMChr
import Derived.Test.YtelmdfkcclhhjaaPow9
import Derived.StillTailTactics
import Derived.Great.Walk
namespace Go.Proofs.Ytelmdfkcclhhjaa
open Go.RowKit Go.ChangeShapes

/-- A row while another is added. -/
def addP (f : Nat → Nat → Int) (i o : Nat) (x : Int) (y : Nat) : Nat → Nat → Int := fun a b => if a = i ∧ b < y then (f i b + f o b * x % 10007) % 10007 else f a b

theorem addP_zero (f : Nat → Nat → Int) (i o : Nat) (x : Int) (a b : Nat) : addP f i o x 0 a b = f a b := by unfold addP; rw [if_neg (by omega)]
theorem addP_at (f : Nat → Nat → Int) (i o : Nat) (x : Int) (y : Nat) : addP f i o x y i y = f i y := by unfold addP; rw [if_neg (by omega)]
theorem addP_other {f : Nat → Nat → Int} {i o : Nat} (h : i ≠ o) (x : Int) (y b : Nat) : addP f i o x y o b = f o b := by unfold addP; rw [if_neg (fun e => h e.1.symm)]
theorem addP_upd (f : Nat → Nat → Int) (i o : Nat) (x : Int) (y a b : Nat) : updF (addP f i o x y) i y ((f i y + f o y * x % 10007) % 10007) a b = addP f i o x (y + 1) a b := by
  unfold updF addP
  by_cases e : a = i ∧ b = y
  · rw [if_pos e, if_pos (by omega), e.2]
  · rw [if_neg e]
    by_cases e2 : a = i ∧ b < y
    · rw [if_pos e2, if_pos (by omega)]
    · rw [if_neg e2, if_neg (by omega)]
theorem addP_end {f : Nat → Nat → Int} {i o : Nat} {x : Int} {K a b : Nat} (hb : b < K) : addP f i o x K a b = addR f i o x a b := by
  unfold addP addR
  by_cases e : a = i
  · rw [if_pos ⟨e, hb⟩, if_pos e]
  · rw [if_neg (fun h => e h.1), if_neg e]

/-- Only blocks of rows, and new ones, are written. -/
def Keeps (m : Nat) (b : Nat → Nat) (w w' : World) : Prop := w.heap.size ≤ w'.heap.size ∧ ∀ u, u < w.heap.size → (∀ a, a < m → u ≠ b a) → w'.heap[u]? = w.heap[u]?

theorem Keeps.refl (m : Nat) (b : Nat → Nat) (w : World) : Keeps m b w w := ⟨Nat.le_refl _, fun _ _ _ => rfl⟩
theorem Keeps.trans {m : Nat} {b : Nat → Nat} {w w1 w2 : World} (h : Keeps m b w w1) (k : Keeps m b w1 w2) : Keeps m b w w2 := ⟨Nat.le_trans h.1 k.1, fun u hu hn => (k.2 u (Nat.lt_of_lt_of_le hu h.1) hn).trans (h.2 u hu hn)⟩
theorem Keeps.of {m : Nat} {b : Nat → Nat} {w w' : World} (h : Below w.heap.size w w') : Keeps m b w w' := ⟨h.size, fun u hu _ => h.block u hu⟩
theorem Keeps.set {m : Nat} {b : Nat → Nat} {w w1 : World} (h : Keeps m b w w1) {i : Nat} (hi : i < m) (o : Nat) (v : Value) : Keeps m b w (w1.setCell ⟨b i, o, none⟩ v) := ⟨by simpa [World.setCell] using h.1, fun u hu hn => (Below.heap_setCell w1 _ v u (by show u ≠ b i; exact hn i hi)).trans (h.2 u hu hn)⟩

set_option maxRecDepth 100000 in
set_option maxHeartbeats 2000000 in
theorem addMultiple_any (B g m cap K : Nat) (b s c : Nat → Nat) (f : Nat → Nat → Int) (i o : Nat) (x : Int) (w : World) (hO : OMx B w g m (fun _ => K) b s c f) (hf : Rem m K f) (hi : i < m) (ho : o < m) (hne : i ≠ o) (hx : 0 ≤ x ∧ x < 10007) (hK : K ≤ 56) :
    Calls Try.prog 93 #[.slice (some ⟨g, 0, none⟩) m cap, .int .i64 i, .int .i64 o, .int .i64 x] w fun e w' => e = .returned (.tuple #[]) ∧ OMx B w' g m (fun _ => K) b s c (addR f i o x) ∧ Below B w w' ∧ Keeps m b w w' := by
  have O0 := Lib.hid (hO.congr (f' := addP f i o x 0) fun a b _ _ => (addP_zero f i o x a b).symm)
  have HF := Lib.hid hf
  have c0 := hO.cell ho
  have o0' : 0 ≤ (o : Int) := by omega
  have o1' : (o : Int) < (m : Int) := by omega
  have i0' : 0 ≤ (i : Int) := by omega
  have i1' : (i : Int) < (m : Int) := by omega
  clear hO hf
  obtain ⟨bo, hbo⟩ : ∃ z, z = b o := ⟨_, rfl⟩
  obtain ⟨so, hso⟩ : ∃ z, z = s o := ⟨_, rfl⟩
  obtain ⟨co, hco⟩ : ∃ z, z = c o := ⟨_, rfl⟩
  rw [← hbo, ← hso, ← hco] at c0
  have HBO := Lib.hid hbo; have HSO := Lib.hid hso
  clear hbo hso hco
  go_enter Try.func93, Try.ntmps93
  go_wp2
  clear c0
  go_loopw [15] (fun yv wr => ∃ y : Nat, y ≤ K ∧ yv = .int .i64 y ∧ OMx B wr g m (fun _ => K) b s c (addP f i o x y) ∧ Below B w wr ∧ Keeps m b w wr) (fun yv _ => K - (intOf yv).toNat)
  case atStart => exact ⟨0, Nat.zero_le _, rfl, O0.out, Below.refl _ _, Keeps.refl _ _ _⟩
  case round =>
    obtain ⟨y, hy, rfl, hO, hb, hkp⟩ := hrel
    clear O0
    have OO := Lib.hid hO; have BB := Lib.hid hb; have KK := Lib.hid hkp; clear hO hb hkp
    obtain ⟨W, hW⟩ : ∃ x, x = wr := ⟨_, rfl⟩
    subst hW
    by_cases hlt : y < K
    · have co' := OO.out.el o y ho hlt
      rw [addP_other hne, ← HBO.out, ← HSO.out] at co'
      have ci := OO.out.cell hi
      have ce := OO.out.el i y hi hlt
      have fe := OO.out.fr i (s i + y) hi
      rw [addP_at] at ce
      have bv := HF.out o y ho hlt
      have bu := HF.out i y hi hlt
      have hlb := OO.out.lb i hi
      have hlg := OO.out.lg
      have O2 := Lib.hid (((OO.out.below (Below.refl _ _).drew).set (i := i) (j := y) hi hlt ((f i y + f o y * x % 10007) % 10007)).congr fun a b _ _ => addP_upd f i o x y a b)
      have B2 := Lib.hid (BB.out.drew.setCell (p := ⟨b i, s i + y, none⟩) (by show B ≤ b i; omega) (.int .i64 ((f i y + f o y * x % 10007) % 10007)))
      have K2 := Lib.hid ((KK.out.trans (Keeps.of (m := m) (b := b) (Below.refl W.heap.size W).drew)).set hi (s i + y) (.int .i64 ((f i y + f o y * x % 10007) % 10007)))
      obtain ⟨bi, hbi⟩ : ∃ z, z = b i := ⟨_, rfl⟩
      obtain ⟨si, hsi⟩ : ∃ z, z = s i := ⟨_, rfl⟩
      obtain ⟨cc, hcc⟩ : ∃ z, z = c i := ⟨_, rfl⟩
      obtain ⟨u, hu⟩ : ∃ z, z = f i y := ⟨_, rfl⟩
      obtain ⟨v, hv⟩ : ∃ z, z = f o y := ⟨_, rfl⟩
      rw [← hbi, ← hsi] at ci ce fe O2 B2 K2
      rw [← hcc] at ci
      rw [← hu] at ce bu O2 B2 K2
      rw [← hv] at co' bv O2 B2 K2
      have m1 := rem_mul bv hx
      have bt := mod_rem (v * x)
      obtain ⟨t, ht⟩ : ∃ t, t = v * x % 10007 := ⟨_, rfl⟩
      rw [← ht] at bt O2 B2 K2
      have HT := Lib.hid ht
      obtain ⟨z, hz⟩ : ∃ z, z = (u + t) % 10007 := ⟨_, rfl⟩
      rw [← hz] at O2 B2 K2
      have HZ := Lib.hid hz
      have a1 : 0 ≤ u + t := by omega
      have a2 : u + t < 1000000000 := by omega
      have a3 : v * x < 1000000000 := by omega
      have y1' : (y : Int) < (K : Int) := by omega
      clear hbi hsi hcc hu hv ht hz OO BB hlb bu bv bt
      go_wp2
      go_still_tail 17, (by kernel_rfl)
      still_call (flip_ret (times_any v x _ m1.1 a3))
      rw [← HT.out]
      repeat still_step
      still_call (flip_ret (plus_any u t _ a1 a2))
      rw [← HZ.out]
      repeat still_step
      refine wpStill_nil ?_
      change wpList _ _ _ _ _ W.drew
      obtain ⟨U, hU⟩ : ∃ U, U = W.drew := ⟨_, rfl⟩
      have cU : U.cell? ⟨bi, si + y, none⟩ = some (.int .i64 u) := by rw [hU]; exact ce
      have fU : U.frozen? ⟨bi, si + y, none⟩ = false := by rw [hU]; exact fe
      rw [← hU] at O2 B2 K2 ⊢
      clear hU ci ce fe co' m1 a1 a2 a3
      go_wp2
      go_roundw
      case rel => exact ⟨y + 1, by omega, by go_num, O2.out, B2.out, K2.out⟩
      case measure => simp [intOf]; omega
    · have hyK : y = K := by omega
      subst hyK
      have O2 := Lib.hid (OO.out.congr (f' := addR f i o x) fun a b _ hb => addP_end hb)
      clear OO
      go_wp2
      exact Go.Great.bodyPost_end0 rfl rfl ⟨rfl, O2.out, BB.out, KK.out⟩

/-- The product of the first n. -/
def prodD (ds : Nat → Int) : Nat → Int
  | 0 => 1
  | n + 1 => prodD ds n * ds n % 10007

theorem prodD_rem (ds : Nat → Int) (n : Nat) : 0 ≤ prodD ds n ∧ prodD ds n < 10007 := by
  cases n with
  | zero => exact ⟨by show (0 : Int) ≤ 1; decide, by show (1 : Int) < 10007; decide⟩
  | succ n => exact mod_rem _

set_option maxRecDepth 100000 in
set_option maxHeartbeats 1000000 in
theorem productOf_any (a : Option Addr) (n cap : Nat) (ds : Nat → Int) (w : World) (ha : n = 0 ∨ ∃ g o, a = some ⟨g, o, none⟩ ∧ ∀ j, j < n → w.cell? ⟨g, o + j, none⟩ = some (.int .i64 (ds j))) (hd : ∀ j, j < n → 0 ≤ ds j ∧ ds j < 10007) (hn : n ≤ 100) :
    Calls Try.prog 95 #[.int .i64 1, .slice a n cap] w fun e w' => e = .returned (.int .i64 (prodD ds n)) ∧ w = w' := by
  have HA := Lib.hid ha; have HD := Lib.hid hd; clear ha hd
  go_enter Try.func95, Try.ntmps95
  go_wp2
  go_loop [5, 11] (fun pv jv => ∃ j : Nat, j ≤ n ∧ jv = .int .i64 j ∧ pv = .int .i64 (prodD ds j)) (fun _ jv => n - (intOf jv).toNat)
  case atStart => exact ⟨0, Nat.zero_le _, rfl, rfl⟩
  case round =>
    obtain ⟨j, hj, rfl, rfl⟩ := hrel
    by_cases hlt : j < n
    · obtain ⟨g, o, rfl, hc⟩ := HA.out.resolve_left (by omega)
      have c0 := hc j hlt
      have b1 := prodD_rem ds j
      have b2 := HD.out j hlt
      have HS := Lib.hid (show prodD ds (j + 1) = prodD ds j * ds j % 10007 from rfl)
      obtain ⟨p, hp⟩ : ∃ p, p = prodD ds j := ⟨_, rfl⟩
      obtain ⟨x, hx⟩ : ∃ x, x = ds j := ⟨_, rfl⟩
      rw [← hp] at b1 HS ⊢
      rw [← hx] at c0 b2 HS
      have m1 := rem_mul b1 b2
      clear hp hx hc
      have j1' : (j : Int) < (n : Int) := by omega
      go_wp2_with fail
      refine (times_any p x _ m1.1 (by omega)).mono ?_
      rintro e w1 ⟨rfl, rfl⟩
      go_wp2
      go_round
      case rel => exact ⟨j + 1, by omega, by go_num, by rw [HS.out]⟩
      case measure => simp [intOf]; omega
    · have hjn : j = n := by omega
      subst hjn
      go_wp2
      go_ret
      exact ⟨rfl, rfl⟩

end Go.Proofs.Ytelmdfkcclhhjaa
