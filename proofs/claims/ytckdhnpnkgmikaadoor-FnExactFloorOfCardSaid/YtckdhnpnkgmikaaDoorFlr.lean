/- The floor of a braid: the exported functions, the model's and the program's. -/
import Derived.Test.YtckdhnpnkgmikaaDoorCmp
import Derived.Test.YtckdhnpnkgmikaaDoorTrns
import Derived.Test.YtckdhnpnkgmikaaDoorFull
import Derived.Test.YtckdhnpnkgmikaaDoorHfr
namespace Go.Proofs.YtckdhnpnkgmikaaDoor
open Go.RowKit Go.ChangeShapes

theorem lt8_rep {xs : List Int} (h : Lt8 xs) (k : Nat) : Lt8 (rep k xs) := by
  intro x hx
  unfold rep at hx
  rw [List.mem_flatten] at hx
  obtain ⟨l, hl, hx⟩ := hx
  rw [List.eq_of_mem_replicate hl] at hx
  exact h x hx

theorem lt8_pwd {xs : List Int} (h : Lt8 xs) (m : Int) : Lt8 (pwd xs m) := by
  unfold pwd
  split
  · exact lt8_rep (lt8_inverse h) _
  · exact lt8_rep h _

theorem lt8_fullQ (q : Nat) (h : q ≤ 7) : Lt8 (fullQ q) := by
  have := lt8_of_isBraid (half_isBraid q h)
  exact this.append this

/-- The search of the floor: f powers of the full turn F are left to try, the first one is m. -/
def flo (xs F : List Int) : Nat → Int → Int × Int
  | 0, _ => (0, 3)
  | f + 1, m => match cmpL xs (pwd F m) with
    | none => (0, 3)
    | some v => if v < 0 then (if m = -6 then (0, 3) else (m - 1, 0)) else flo xs F f (m + 1)

/-- The floor of a braid, and the code. -/
def mFloor (s : Int) (xs : List Int) : Int × Int :=
  if isBraid s xs = true then (if s < 2 then (0, 2) else flo xs (fullQ (s - 1).toNat) 14 (-6)) else (0, 1)

theorem cmpL_val (xs ys : List Int) : ∃ (v : Int) (ok : Bool), (cmpL xs ys = some v ∧ ok = true) ∨ (cmpL xs ys = none ∧ v = 0 ∧ ok = false) := by
  cases h : cmpL xs ys with
  | none => exact ⟨0, false, .inr ⟨rfl, rfl, rfl⟩⟩
  | some v => exact ⟨v, true, .inl ⟨rfl, rfl⟩⟩

theorem l06Compare_val {v : Int} {ok : Bool} (a : Option Addr) (n cap : Nat) (xs : List Int) (b : Option Addr) (m cap2 : Nat) (ys : List Int) (w : World) (hr : Reads w a n xs) (hx : Lt8 xs) (hn : n ≤ 1000) (hr2 : Reads w b m ys) (hy : Lt8 ys) (hm : m ≤ 1000)
    (hv : (cmpL xs ys = some v ∧ ok = true) ∨ (cmpL xs ys = none ∧ v = 0 ∧ ok = false)) :
    Calls Tryd.prog 43 #[.slice a n cap, .slice b m cap2] w fun e w' => e = .returned (.tuple #[.int .i64 v, .bool ok]) ∧ Below w.heap.size w w' := by
  refine (l06Compare_any a n cap xs b m cap2 ys w hr hx hn hr2 hy hm).mono ?_
  rintro e w' ⟨⟨r, rfl, hc⟩, hb⟩
  refine ⟨?_, hb⟩
  rcases hv with ⟨h1, rfl⟩ | ⟨h1, rfl, rfl⟩ <;> rw [h1] at hc <;> rw [show r = _ from hc]

theorem compared_val {v : Int} {ok : Bool} (s : Int) (a : Option Addr) (n cap : Nat) (xs : List Int) (t : Int) (b : Option Addr) (m cap2 : Nat) (ys : List Int) (ep : Value) (w : World) (hr : Reads w a n xs) (hx : Lt8 xs) (hn : n ≤ 1000) (hr2 : Reads w b m ys) (hy : Lt8 ys) (hm : m ≤ 1000)
    (hg : w.cell? ⟨0, 0, none⟩ = some (.iface 90 ep)) (hv : (cmpL xs ys = some v ∧ ok = true) ∨ (cmpL xs ys = none ∧ v = 0 ∧ ok = false)) (c : Int) (hc : c = if ok = true then 0 else 3) :
    Calls Tryd.prog 45 #[.agg #[.int .i64 s, .slice a n cap], .agg #[.int .i64 t, .slice b m cap2]] w fun e w' => e = .returned (.tuple #[.int .i64 v, .int .i64 c]) ∧ Below w.heap.size w w' := by
  refine (compared_any s a n cap xs t b m cap2 ys ep w hr hx hn hr2 hy hm hg).mono ?_
  rintro e w' ⟨rfl, hb⟩
  refine ⟨?_, hb⟩
  rcases hv with ⟨h1, rfl⟩ | ⟨h1, rfl, rfl⟩ <;> rw [h1, hc] <;> rfl

set_option maxRecDepth 100000 in
set_option maxHeartbeats 2000000 in
theorem specFlr_any {s : Int} {a : Option Addr} {n cap : Nat} {xs : List Int} {w : World} {fv fc : Int} (hr : Reads w a n xs) (hf : Fits xs) (hn : n ≤ 1048576) (hM : mFloor s xs = (fv, fc)) :
    Calls Tryd.prog 31 #[.agg #[.int .i64 s, .slice a n cap]] w fun e w' => e = .returned (.tuple #[.int .i64 fv, .int .i64 fc]) ∧ Below w.heap.size w w' := by
  have R := Lib.hid hr; clear hr
  have HF := Lib.hid hf; clear hf
  by_cases hbr : isBraid s xs = true
  · have HX := Lib.hid (lt8_of_isBraid hbr)
    have hn200 : n ≤ 200 := by have := len_of_isBraid _ _ hbr; have := R.out.len; omega
    have hs1 := lo_of_isBraid _ _ hbr
    have hs8 := hi_of_isBraid _ _ hbr
    rw [mFloor, if_pos hbr] at hM
    by_cases hs2 : s < 2
    · rw [if_pos hs2, Prod.mk.injEq] at hM
      obtain ⟨rfl, rfl⟩ := hM
      go_enter Tryd.func31, Tryd.ntmps31
      go_wp2_with fail
      refine (l01Is_any _ _ _ _ xs _ (R.out.alloc _) HF.out hn).mono ?_
      rintro e w1 ⟨rfl, hb⟩
      obtain ⟨q1, q2, q3, q4, q5⟩ := (At2.new w (.int .i64 s) (.slice a n cap) 26).below hb
      have BB := Lib.hid (below_go (below1 w _) hb (by simp)); clear hb
      go_wp2
      go_ret2
      exact ⟨rfl, BB.out⟩
    · rw [if_neg hs2] at hM
      obtain ⟨q, hq⟩ : ∃ q : Nat, s = (q : Int) + 1 := ⟨(s - 1).toNat, by omega⟩
      have hq7 : q ≤ 7 := by omega
      rw [show (s - 1).toNat = q by omega] at hM
      have HQ := Lib.hid hq; clear hq
      have HM := Lib.hid hM; clear hM
      have HF8 := Lib.hid (lt8_fullQ q hq7)
      have HFL := Lib.hid (fullQ_len q hq7)
      go_enter Tryd.func31, Tryd.ntmps31
      go_wp2_with fail
      refine (l01Is_any _ _ _ _ xs _ (R.out.alloc _) HF.out hn).mono ?_
      rintro e w1 ⟨rfl, hb⟩
      have A := Lib.hid ((At2.new w (.int .i64 s) (.slice a n cap) 26).below hb)
      replace R := Lib.hid ((R.out.alloc (.cells #[.int .i64 s, .slice a n cap] 26)).below hb)
      have BB := Lib.hid (below_go (below1 w _) hb (by simp)); clear hb
      obtain ⟨q1, q2, q3, q4, q5⟩ := A.out
      go_wp2
      clear q1 q2 q3 q4 q5
      go_loopw [4] (fun i wr => ∃ j : Nat, j ≤ 14 ∧ i = .int .i64 ((j : Int) - 6) ∧ Hid (flo xs (fullQ q) (14 - j) ((j : Int) - 6) = (fv, fc)) ∧ At2 wr w.heap.size (.int .i64 s) (.slice a n cap) ∧ Reads wr a n xs ∧ Below w.heap.size w wr) (fun i _ => (8 - intOf i).toNat)
      case atStart => exact ⟨0, by omega, by go_num, HM, A.out, R.out, BB.out⟩
      case round =>
        obtain ⟨j, hj, rfl, HE, ha, hr, bb⟩ := hrel
        clear A R BB HM
        have A := Lib.hid ha
        have R := Lib.hid hr
        have BB := Lib.hid bb
        clear ha hr bb
        by_cases hlt : j < 14
        · obtain ⟨f, hff⟩ : ∃ f, 14 - j = f + 1 := ⟨13 - j, by omega⟩
          have hst : flo xs (fullQ q) (f + 1) ((j : Int) - 6) = match cmpL xs (pwd (fullQ q) ((j : Int) - 6)) with | none => (0, 3) | some v => if v < 0 then (if (j : Int) - 6 = -6 then (0, 3) else ((j : Int) - 6 - 1, 0)) else flo xs (fullQ q) f ((j : Int) - 6 + 1) := rfl
          have he := HE.out
          rw [hff, hst] at he
          have hfj : f = 14 - (j + 1) := by omega
          subst hfj
          clear hst hff HE
          obtain ⟨mm, hmm⟩ : ∃ mm, mm = (j : Int) - 6 := ⟨_, rfl⟩
          rw [← hmm] at he ⊢
          have m1 : -6 ≤ mm := by omega
          have m2 : mm ≤ 7 := by omega
          have HMM := Lib.hid hmm; clear hmm
          have HE := Lib.hid he; clear he
          obtain ⟨v, ok, hv⟩ := cmpL_val xs (pwd (fullQ q) mm)
          have HV := Lib.hid hv; clear hv
          have hpl := pwd_len (fullQ q) mm
          have hpl2 : (pwd (fullQ q) mm).length ≤ 1000 := by
            rw [hpl]
            have h1 : mm.natAbs ≤ 7 := by omega
            have h2 := HFL.out
            have := Nat.mul_le_mul h1 h2
            omega
          clear hpl
          obtain ⟨pl, hpl⟩ : ∃ pl, pl = (pwd (fullQ q) mm).length := ⟨_, rfl⟩
          rw [← hpl] at hpl2
          have HPL := Lib.hid hpl; clear hpl
          go_upto_region 8 with fail
          replace A := Lib.hid A.out.drew
          replace R := Lib.hid R.out.drew
          replace BB := Lib.hid BB.out.drew
          go_region_held3 (fun w' => w'.cell? ⟨w.heap.size, 0, none⟩ = some (.int .i64 s) ∧ w'.cell? ⟨w.heap.size, 1, none⟩ = some (.slice a n cap)) (with_reducible exact ⟨At2.k0 A.out, At2.k1 A.out⟩)
            (first
              | (go_at_call 46; refine (l06Turns_any _ q mm _ HQ.out hq7 (small_of_lt8 HF8.out) (by omega)).mono ?_; rw [← HPL.out]; rintro e w2 ⟨b2, c2, rfl, ho, g1⟩; have HO := Lib.hid ho.reads; replace A := Lib.hid (A.out.below g1); replace R := Lib.hid (R.out.below g1); replace BB := Lib.hid (below_go BB.out g1 BB.out.size); clear ho g1)
              | (go_at_call 43; refine (l06Compare_val _ _ _ xs _ _ _ (pwd (fullQ q) mm) _ R.out HX.out (by omega) HO.out (lt8_pwd HF8.out mm) hpl2 HV.out).mono ?_; rintro e w3 ⟨rfl, g1⟩; replace A := Lib.hid (A.out.below g1); replace R := Lib.hid (R.out.below g1); replace BB := Lib.hid (below_go BB.out g1 BB.out.size); clear g1))
          rcases HV.out with ⟨h1, rfl⟩ | ⟨h1, rfl, rfl⟩
          · replace HE := HE.out; rw [h1] at HE; simp only at HE; replace HE := Lib.hid HE
            clear h1 HV
            by_cases hneg : v < 0
            · replace HE := HE.out; rw [if_pos hneg] at HE
              by_cases h6 : mm = -6
              · rw [if_pos h6, Prod.mk.injEq] at HE
                obtain ⟨rfl, rfl⟩ := HE
                have e6 : (mm == -6) = true := by simp [h6]
                clear h6
                go_wp2
                go_ret2
                exact ⟨rfl, BB.out⟩
              · rw [if_neg h6, Prod.mk.injEq] at HE
                obtain ⟨rfl, rfl⟩ := HE
                have e6 : (mm == -6) = false := by simp [h6]
                clear h6
                go_wp2
                go_ret2
                exact ⟨rfl, BB.out⟩
            · replace HE := HE.out; rw [if_neg hneg] at HE; replace HE := Lib.hid HE
              go_wp2
              go_roundw
              case rel => exact ⟨j + 1, by omega, by rw [HMM.out]; go_num, Lib.hid (by have h := HE.out; rw [HMM.out] at h; rw [← h]; congr 1; omega), A.out, R.out, BB.out⟩
              case measure => simp [intOf]; omega
          · replace HE := HE.out; rw [h1] at HE; simp only [Prod.mk.injEq] at HE
            obtain ⟨rfl, rfl⟩ := HE
            clear h1 HV
            go_wp2
            go_ret2
            exact ⟨rfl, BB.out⟩
        · have hj14 : j = 14 := by omega
          subst hj14
          have he := HE.out
          rw [show (14 - 14 : Nat) = 0 from rfl] at he
          simp only [flo, Prod.mk.injEq] at he
          obtain ⟨rfl, rfl⟩ := he
          go_wp2
          go_ret2
          exact ⟨rfl, BB.out⟩
  · have hb0 : isBraid s xs = false := by simpa using hbr
    rw [mFloor, if_neg hbr, Prod.mk.injEq] at hM
    obtain ⟨rfl, rfl⟩ := hM
    clear hbr
    go_enter Tryd.func31, Tryd.ntmps31
    go_wp2_with (go_at_call 34; refine (l01Is_any _ _ _ _ xs _ (R.out.alloc _) HF.out hn).mono ?_; rintro e w1 ⟨rfl, hb⟩)
    go_ret2
    exact ⟨rfl, below_go (below1 w _) hb (by simp)⟩

end Go.Proofs.YtckdhnpnkgmikaaDoor
