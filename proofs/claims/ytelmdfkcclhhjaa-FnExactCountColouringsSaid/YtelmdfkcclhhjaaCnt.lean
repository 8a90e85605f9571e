/- The number of colourings: the model and the program. -/
import Derived.Test.YtelmdfkcclhhjaaRkW
import Derived.Test.YtelmdfkcclhhjaaIChg
import Derived.Test.YtelmdfkcclhhjaaColC
import Derived.Test.YtelmdfkcclhhjaaColD
import Derived.Test.YtelmdfkcclhhjaaEColS
import Derived.Deep.RegionHeld3
namespace Go.Proofs.Ytelmdfkcclhhjaa
open Go.RowKit Go.ChangeShapes

/-- The number of colourings, and a code. -/
noncomputable def mCount (s : Int) (ls : List Int) (p : Int) : Int × Int :=
  if mPrmCode s ls p = 0 then (s - (rk p (chgS p ls s.toNat s.toNat) s.toNat : Nat), 0) else (0, mPrmCode s ls p)

theorem isPrm_prmN {pn : Nat} (h : isPrm (pn : Int) = true) : prmN pn = true := by
  obtain ⟨b1, b2⟩ := isPrm_bd h
  unfold isPrm at h
  simp only [Bool.and_eq_true] at h
  unfold prmN
  simp only [Bool.and_eq_true, decide_eq_true_eq]
  refine ⟨by omega, ?_⟩
  have h2 := h.2
  rw [Int.toNat_natCast] at h2
  rw [List.all_eq_true] at h2 ⊢
  intro k hk
  have h3 := h2 k hk
  rw [Bool.or_eq_true, decide_eq_true_eq, decide_eq_true_eq] at h3 ⊢
  rcases h3 with h3 | h3
  · exact .inl h3
  · refine .inr fun e => h3 ?_
    rw [Int.tmod_eq_emod_of_nonneg (by omega)]
    exact_mod_cast congrArg (fun n : Nat => (n : Int)) e

theorem isPrm_primeZ {pn : Nat} (h : isPrm (pn : Int) = true) : PrimeZ (pn : Int) := by
  obtain ⟨b1, b2⟩ := isPrm_bd h
  have h2 := isPrm_prmN h
  unfold prmN at h2
  simp only [Bool.and_eq_true, decide_eq_true_eq] at h2
  refine primeZ_of pn (by omega) fun d hd1 hd2 hdv => ?_
  have h3 := List.all_eq_true.1 h2.2 d (List.mem_range.2 hd2)
  rw [Bool.or_eq_true, decide_eq_true_eq, decide_eq_true_eq] at h3
  rcases h3 with h3 | h3
  · omega
  · exact h3 (Nat.mod_eq_zero_of_dvd hdv)

theorem chgS_ok {p : Int} (hp : 3 ≤ p) {ls : List Int} {n : Nat} (hl : Lets ls n) (k : Nat) : Okm p n (chgS p ls n k) := fun r hr => by
  obtain ⟨i, hi, rfl⟩ := List.mem_map.1 hr
  have hlen : (chgR p ls n i).length = n := by unfold chgR; rw [List.length_set, tint_len]
  refine ⟨hlen, fun j => ?_⟩
  by_cases hj : j < n
  · have hc : Cols p (chgR p ls n i) := by
      unfold chgR
      exact (tint_cols hp hl i).set i _ ⟨Int.emod_nonneg _ (by omega), Int.emod_lt_of_pos _ (by omega)⟩
    exact hc.at j (by rw [hlen]; exact hj)
  · rw [ent_far (by rw [hlen]; omega)]
    omega

theorem chgR_mod (p : Int) (ls : List Int) (n k : Nat) : chgR p ls n k = (tintF p ls (unitL n k)).set k ((ent (tintF p ls (unitL n k)) k + p - 1) % p) := by
  unfold chgR
  rw [show ent (tintF p ls (unitL n k)) k - 1 + p = ent (tintF p ls (unitL n k)) k + p - 1 by omega]

theorem mCount_no {s : Int} {ls : List Int} {p : Int} {c : Int} (h : mPrmCode s ls p = c) (h0 : c ≠ 0) : mCount s ls p = (0, c) := by unfold mCount; rw [if_neg (by rw [h]; exact h0), h]
theorem mCount_yes {q : Nat} {ls : List Int} {p : Int} (h : mPrmCode (q : Int) ls p = 0) : mCount (q : Int) ls p = ((q : Int) - (rk p (chgS p ls q q) q : Nat), 0) := by unfold mCount; rw [if_pos h, Int.toNat_natCast]

theorem rk_le (p : Int) (A : List (List Int)) (c : Nat) : rk p A c ≤ c := by
  induction c with
  | zero => exact Nat.le_refl _
  | succ c ih =>
    unfold rk
    split <;> omega

set_option maxRecDepth 100000 in
set_option maxHeartbeats 2000000 in
theorem implCount_any {s : Int} {a : Option Addr} {n cap : Nat} {ls : List Int} {p : Int} {w : World} {fv fc : Int} (hr : Reads w a n ls) (_hf : Fits ls) (hn : n ≤ 1048576) (_hp : (Lit.int .i64 p).wf = true) (hM : mCount s ls p = (fv, fc)) :
    Calls Try.prog 16 #[.agg #[.int .i64 s, .slice a n cap], .int .i64 p] w fun e w' => e = .returned (.tuple #[.int .i64 fv, .int .i64 fc]) ∧ Below w.heap.size w w' := by
  have R := Lib.hid (hr.alloc (.cells #[.int .i64 s, .slice a n cap] 28)); clear hr
  have A := Lib.hid (At2.new w (.int .i64 s) (.slice a n cap) 28)
  have BB := Lib.hid (below1 w (.cells #[.int .i64 s, .slice a n cap] 28))
  obtain ⟨qA1, qA2, qA3, qA4, qA5⟩ := A.out
  obtain ⟨cd, hcd⟩ : ∃ c, mPrmCode s ls p = c := ⟨_, rfl⟩
  have HCD := Lib.hid hcd
  by_cases h0 : cd = 0
  · subst h0
    obtain ⟨_, g1, g2⟩ | ⟨e, _⟩ | ⟨e, _⟩ := prmCode_cases s ls p
    · obtain ⟨b1, b2⟩ := isPrm_bd g2
      obtain ⟨i1, i2, _, _⟩ := (isBraid_iff s ls).1 g1
      obtain ⟨q, rfl⟩ : ∃ q : Nat, s = (q : Int) := ⟨s.toNat, by omega⟩
      have hq8 : q ≤ 8 := by omega
      have hq0 : 0 < q := by omega
      obtain ⟨pn, rfl⟩ : ∃ q : Nat, p = (q : Int) := ⟨p.toNat, by omega⟩
      have hlets := lets_of (cs := List.replicate q 0) g1 (by simp) q (by simp)
      rw [mCount_yes hcd] at hM
      injection hM with hM1 hM2
      subst hM2
      have HL := Lib.hid hlets; have HFV := Lib.hid hM1; have HPZ := Lib.hid (isPrm_primeZ g2)
      have HOK := Lib.hid (chgS_ok (p := (pn : Int)) b1 hlets q)
      have hrk := rk_le (pn : Int) (chgS (pn : Int) ls q q) q
      have t1 : ((0 : Int) != 0) = false := by simp
      clear hcd g1 g2 hlets i1 i2 hM1
      go_enter Try.func16, Try.ntmps16
      go_wp2_with fail
      refine (primeCode_any (q : Int) a n cap ls (pn : Int) _ R.out hn).mono ?_
      rintro e w1 ⟨rfl, hb⟩
      rw [HCD.out]
      clear qA1 qA2 qA3 qA4 qA5
      replace R := Lib.hid (R.out.below hb); replace A := Lib.hid (A.out.below hb)
      replace BB := Lib.hid (below_go BB.out hb (by simp)); clear hb
      go_upto_region 4 with fail
      have hA0 := A.out
      have ws : IntKind.i64.wrap ((q : Int) - (rk (pn : Int) (chgS (pn : Int) ls q q) q : Nat)) = fv := (IntWalk.i64_in _ (by omega)).trans HFV.out
      obtain ⟨rr, hrr⟩ : ∃ r, r = rk (pn : Int) (chgS (pn : Int) ls q q) q := ⟨_, rfl⟩
      rw [← hrr] at ws
      have HRR := Lib.hid hrr.symm
      have RD := Lib.hid (R.out.below (Below.refl _ _).drew)
      clear hrr hrk
      have hk0 : w1.drew.cell? ⟨w.heap.size, 0, none⟩ = some (.int .i64 q) ∧ w1.drew.cell? ⟨w.heap.size, 1, none⟩ = some (.slice a n cap) := ⟨hA0.2.1, hA0.2.2.1⟩
      have hz1 : w.heap.size < w1.heap.size := hA0.1
      go_region_held3 (fun w' => w'.cell? ⟨w.heap.size, 0, none⟩ = some (.int .i64 q) ∧ w'.cell? ⟨w.heap.size, 1, none⟩ = some (.slice a n cap)) (first | exact hk0 | exact hk1 | exact hk2)
        (first
          | (go_at_call 53; refine (colourChanges_any q a n cap ls (pn : Int) _ hq8 RD.out hn HL.out b1 b2).mono ?_; rintro e w2 ⟨ad, cd, rs, rfl, hrl, hrs, hG, hb2⟩; have hk1 := And.intro ((hb2.cell (p := ⟨w.heap.size, 0, none⟩) hz1).trans hk0.1) ((hb2.cell (p := ⟨w.heap.size, 1, none⟩) hz1).trans hk0.2); obtain ⟨g, cp, hv, _, _⟩ := hG.own.form hq0; simp only [Value.slice.injEq, true_and] at hv; obtain ⟨rfl, rfl⟩ := hv; have hqn := fun x (hx : x ∈ rs) => ((hG.row x hx).1.1.len).symm.trans (HOK.out x.xs (by rw [← hrs]; exact List.mem_map_of_mem hx)).1)
          | (go_at_call 52; refine (rankModulo_any w1.heap.size g q cd rs (pn : Int) w2 hG hqn (by rw [hrs]; exact HOK.out) hq0 hq8 HPZ.out b1 b2 hb2.size).mono ?_; rw [hrs, HRR.out]; rintro e w3 ⟨rfl, hb3⟩; have hk2 := And.intro ((hb3.cell (p := ⟨w.heap.size, 0, none⟩) hz1).trans hk1.1) ((hb3.cell (p := ⟨w.heap.size, 1, none⟩) hz1).trans hk1.2)))
      all_goals go_wp2
      all_goals go_ret2
      all_goals exact ⟨rfl, (BB.out.drew.trans (hb2.mono (by have := BB.out.size; show _ ≤ w1.heap.size; omega))).trans (hb3.mono (by have := BB.out.size; omega))⟩
    · rw [e] at hcd; exact absurd hcd (by decide)
    · rw [e] at hcd; exact absurd hcd (by decide)
  · rw [mCount_no hcd h0] at hM
    injection hM with hM1 hM2
    subst hM1; subst hM2
    have t1 : (cd != 0) = true := by simpa using h0
    clear hcd h0
    go_enter Try.func16, Try.ntmps16
    go_wp2_with fail
    refine (primeCode_any s a n cap ls p _ R.out hn).mono ?_
    rintro e w1 ⟨rfl, hb⟩
    rw [HCD.out]
    clear qA1 qA2 qA3 qA4 qA5
    replace BB := Lib.hid (below_go BB.out hb (by simp)); clear hb
    go_wp2
    go_ret2
    exact ⟨rfl, BB.out⟩

end Go.Proofs.Ytelmdfkcclhhjaa
