/- The clearing of a column in a row, by the program. -/
import Derived.Test.YtelmdfkcclhhjaaRnkQ
import Derived.Test.YtelmdfkcclhhjaaKitR
import Derived.StillTailTactics
import Derived.IntWalk
import Derived.Great.Walk
namespace Go.Proofs.Ytelmdfkcclhhjaa
open Go.RowKit Go.ChangeShapes

theorem clrP_at {p : Int} {P r : List Int} {c k : Nat} (h : k < r.length) : (clrP p P c r).take (k + 1) ++ r.drop (k + 1) = ((clrP p P c r).take k ++ r.drop k).set k ((ent P c * ent r k + (p - ent r c) * ent P k) % p) := by
  have hl : (clrP p P c r).length = r.length := by simp [clrP]
  have hv : (clrP p P c r)[k]'(by omega) = (ent P c * ent r k + (p - ent r c) * ent P k) % p := by simp [clrP]
  rw [← hv]
  refine List.ext_getElem (by simp; omega) fun j h1 h2 => ?_
  rw [List.getElem_set, List.getElem_append, List.getElem_append]
  simp only [List.length_take, List.getElem_take, List.getElem_drop]
  by_cases e1 : k = j
  · subst e1
    rw [if_pos rfl, dif_pos (by omega)]
  · rw [if_neg e1]
    by_cases e2 : j < k
    · rw [dif_pos (by omega), dif_pos (by omega)]
    · rw [dif_neg (by omega), dif_neg (by omega)]
      congr 1
      omega

theorem small_mul {a b : Int} (h1 : 0 ≤ a ∧ a ≤ 97) (h2 : 0 ≤ b ∧ b ≤ 97) : 0 ≤ a * b ∧ a * b ≤ 9409 :=
  ⟨Int.mul_nonneg h1.1 h2.1, Int.le_trans (Int.mul_le_mul h1.2 h2.2 h2.1 (by omega)) (by decide)⟩

set_option maxRecDepth 100000 in
set_option maxHeartbeats 1000000 in
theorem clearColumn_any (b n cap : Nat) (row : List Int) (a2 : Option Addr) (cap2 : Nat) (P : List Int) (c : Nat) (p : Int) (w : World) (hr : OwnIn b (b + 1) w (some ⟨b, 0, none⟩) n cap row) (hP : Reads w a2 n P) (hsep : ∀ x, a2 = some x → x.block ≠ b)
    (hc : c < n) (hn : n ≤ 8) (hp0 : 0 < p) (hp : p ≤ 97) (h1 : ∀ j, 0 ≤ ent row j ∧ ent row j < p) (h2 : ∀ j, 0 ≤ ent P j ∧ ent P j < p) :
    Calls Try.prog 83 #[.slice (some ⟨b, 0, none⟩) n cap, .slice a2 n cap2, .int .i64 c, .int .i64 p] w fun e w' => e = .returned (.tuple #[]) ∧ OwnIn b (b + 1) w' (some ⟨b, 0, none⟩) n cap (clrP p P c row) ∧ Wrote b (b + 1) w w' := by
  have hl := hr.len
  obtain ⟨g, o, rfl, hg, hcell⟩ := hP.cells (by omega)
  have hgb : g ≠ b := hsep _ rfl
  have bf := h2 c
  have br := h1 c
  have cP := hcell c hc
  have cR := hr.1.cellAt c hc
  have eP : P.getD c 0 = ent P c := rfl
  have eR : row.getD c 0 = ent row c := rfl
  rw [eP] at cP
  rw [eR] at cR
  have HC := Lib.hid hcell; have HL := Lib.hid hl
  obtain ⟨f, hf⟩ : ∃ f, f = ent P c := ⟨_, rfl⟩
  obtain ⟨y, hy⟩ : ∃ y, y = p - ent row c := ⟨_, rfl⟩
  rw [← hf] at cP bf
  have hwy : IntKind.i64.wrap (p - ent row c) = y := (IntWalk.i64_in _ (by omega)).trans hy.symm
  have by_ : 0 ≤ y ∧ y ≤ 97 := by omega
  have HF := Lib.hid hf; have HY := Lib.hid hy
  have c0 : 0 ≤ (c : Int) := by omega
  have c1 : (c : Int) < (n : Int) := by omega
  have RO := Lib.hid hr
  clear hf hy hr hcell hl hsep eP eR
  go_enter Try.func83, Try.ntmps83
  go_wp2
  go_quiet (fail)
  obtain ⟨wq, hwq⟩ : ∃ wq, wq = w.drewN nq := ⟨_, rfl⟩
  have hbq : Below w.heap.size w wq := by rw [hwq]; exact below_draws _ _ _
  rw [← hwq]
  have R0 := Lib.hid (RO.out.below hbq); have W0 := Lib.hid (below_wrote (lo := b) (hi := b + 1) hbq)
  clear hwq hbq cP cR RO c0 c1 hwy
  go_wp2
  go_loopw [23] (fun i wr => ∃ k : Nat, k ≤ n ∧ i = .int .i64 k ∧ OwnIn b (b + 1) wr (some ⟨b, 0, none⟩) n cap ((clrP p P c row).take k ++ row.drop k) ∧ Wrote b (b + 1) w wr) (fun i _ => n - (intOf i).toNat)
  case atStart => exact ⟨0, Nat.zero_le _, rfl, by simpa using R0.out, W0.out⟩
  case round =>
    obtain ⟨k, hk, rfl, hO, hW⟩ := hrel
    clear R0 W0
    obtain ⟨wo, rfl⟩ : ∃ x, x = wr := ⟨_, rfl⟩
    by_cases hlt : k < n
    · have ex : ((clrP p P c row).take k ++ row.drop k).getD k 0 = ent row k := by
        have hl := HL.out
        have hcl : (clrP p P c row).length = row.length := by simp [clrP]
        unfold ent
        rw [List.getD_eq_getElem?_getD, List.getD_eq_getElem?_getD, List.getElem?_append_right (by simp; omega)]
        simp [hcl, Nat.min_eq_left (show k ≤ row.length by omega)]
      have cx := hO.1.cellAt k hlt
      rw [ex] at cx
      have cp := (World.cell?_of_block (w := w) (a := ⟨g, o + k, none⟩) (hW.block g hg (by omega))).trans (HC.out k hlt)
      rw [show P.getD k 0 = ent P k from rfl] at cp
      have hset := clrP_at (p := p) (P := P) (r := row) (c := c) (k := k) (by rw [HL.out]; exact hlt)
      have bx := h1 k
      have bp := h2 k
      obtain ⟨x, hx⟩ : ∃ x, x = ent row k := ⟨_, rfl⟩
      obtain ⟨v, hv⟩ : ∃ v, v = ent P k := ⟨_, rfl⟩
      rw [← hx] at cx bx hset
      rw [← hv] at cp bp hset
      rw [← HF.out, ← HY.out] at hset
      have m1 := small_mul (a := f) (b := x) (by omega) (by omega)
      have m2 := small_mul (a := y) (b := v) by_ (by omega)
      have w1 : IntKind.i64.wrap (f * x) = f * x := IntWalk.i64_in _ (by omega)
      have w2 : IntKind.i64.wrap (y * v) = y * v := IntWalk.i64_in _ (by omega)
      have w3 : IntKind.i64.wrap (f * x + y * v) = f * x + y * v := IntWalk.i64_in _ (by omega)
      have e4 : (f * x + y * v).tmod p = (f * x + y * v) % p := Int.tmod_eq_emod_of_nonneg (by omega)
      obtain ⟨z, hz⟩ : ∃ z, z = (f * x + y * v) % p := ⟨_, rfl⟩
      have bz : 0 ≤ z ∧ z < p := by rw [hz]; exact ⟨Int.emod_nonneg _ (by omega), Int.emod_lt_of_pos _ hp0⟩
      rw [← hz] at e4 hset
      have w4 : IntKind.i64.wrap z = z := IntWalk.i64_in _ (by omega)
      have pne : ¬ p = 0 := by omega
      have k0 : 0 ≤ (k : Int) := by omega
      have k1 : (k : Int) < (n : Int) := by omega
      have zb := World.block_lt_of_cell? _ _ cx
      have fr := hO.1.frozenAt k
      have OO := Lib.hid hO; have WW := Lib.hid hW; have HS := Lib.hid hset
      clear hx hv hz ex hO hW hset m1 m2 bx bp bz by_ bf br
      go_wp2
      go_still_tail 18, (by kernel_rfl)
      change wpList _ _ _ _ _ wo.drew
      obtain ⟨U, hU⟩ : ∃ U, U = wo.drew := ⟨_, rfl⟩
      have oU : OwnIn b (b + 1) U (some ⟨b, 0, none⟩) n cap ((clrP p P c row).take k ++ row.drop k) := by rw [hU]; exact OO.out.drew
      have wU : Wrote b (b + 1) w U := by rw [hU]; exact ⟨WW.out.os, WW.out.tape, WW.out.output, WW.out.size, WW.out.block⟩
      have cU : U.cell? ⟨b, k, none⟩ = some (.int .i64 x) := by rw [hU]; exact cx
      have fU : U.frozen? ⟨b, k, none⟩ = false := by rw [hU]; exact fr
      have zU : b < U.heap.size := by rw [hU]; exact zb
      rw [← hU]
      clear hU cx fr zb cp OO WW
      have hst := oU.1.store k z
      have O2 : Hid (OwnIn b (b + 1) (U.setCell ⟨b, k, none⟩ (.int .i64 z)) (some ⟨b, 0, none⟩) n cap ((clrP p P c row).take (k + 1) ++ row.drop (k + 1))) := Lib.hid (by rw [HS.out]; exact ⟨hst.1, oU.2⟩)
      have W2 : Hid (Wrote b (b + 1) w (U.setCell ⟨b, k, none⟩ (.int .i64 z))) := Lib.hid ⟨wU.os, wU.tape, wU.output, by have := wU.size; simpa [World.setCell] using this, fun j hj hb => (Below.heap_setCell U ⟨b, k, none⟩ _ j (by show j ≠ b; omega)).trans (wU.block j hj hb)⟩
      have hwk : IntKind.i64.wrap ((k : Int) + 1) = (k : Int) + 1 := IntWalk.i64_in _ (by omega)
      clear oU wU hst e4 w1 w2 w3 w4
      go_wp2
      go_roundw
      case rel => exact ⟨k + 1, by omega, by go_num, O2.out, W2.out⟩
      case measure => simp [intOf]; omega
    · have hkn : k = n := by omega
      subst hkn
      have hfin : (clrP p P c row).take k ++ row.drop k = clrP p P c row := by
        have hl := HL.out
        rw [List.take_of_length_le (by simp [clrP]; omega), List.drop_eq_nil_of_le (by omega), List.append_nil]
      rw [hfin] at hO
      have OO := Lib.hid hO; have WW := Lib.hid hW
      clear hO hW hfin
      go_wp2
      exact Go.Great.bodyPost_end0 rfl rfl ⟨rfl, OO.out, WW.out⟩

end Go.Proofs.Ytelmdfkcclhhjaa
