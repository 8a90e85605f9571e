/- Words are compared: the model and the program. -/
import Derived.Test.YtckdhnpnkgmikaaDoorRds
import Derived.Test.YtckdhnpnkgmikaaDoorInvd
import Derived.Test.YtckdhnpnkgmikaaDoorStepA
import Derived.Test.YtckdhnpnkgmikaaDoorInverse
import Derived.Deep.DeepCutAuto
namespace Go.Proofs.YtckdhnpnkgmikaaDoor
open Go.RowKit Go.ChangeShapes

theorem lt8_inverse {xs : List Int} (h : Lt8 xs) : Lt8 (inverse xs) := by
  intro x hx
  simp [inverse] at hx
  obtain ⟨y, hy, rfl⟩ := hx
  have := h y hy
  omega

theorem small_of_lt8 {xs : List Int} (h : Lt8 xs) : Small xs := fun x hx => by have := h x hx; omega

/-- How two words compare: -1, 0 or 1, if the reduction is within the limits. -/
def cmpL (xs ys : List Int) : Option Int := (mainL (inverse xs ++ ys)).map fun v => if 0 < v then -1 else if v < 0 then 1 else 0

/-- What the model's and the program's comparisons give back. -/
def cmS : Option Int → Value → Prop
  | some v, r => r = .tuple #[.int .i64 v, .bool true]
  | none, r => r = .tuple #[.int .i64 0, .bool false]

theorem own_capV {B : Nat} {w : World} {v : Value} {n : Nat} {xs : List Int} (h : OwnV B w v n xs) : ∃ a c, v = .slice a n c ∧ Own B w a n c xs ∧ n ≤ c := by
  obtain ⟨a, c, rfl, ho⟩ := h.form
  exact ⟨a, c, rfl, ho, ho.cap_ge⟩

set_option maxHeartbeats 1000000 in
theorem l06Compare_any (a : Option Addr) (n cap : Nat) (xs : List Int) (b : Option Addr) (m cap2 : Nat) (ys : List Int) (w : World) (hr : Reads w a n xs) (hx : Lt8 xs) (hn : n ≤ 1000) (hr2 : Reads w b m ys) (hy : Lt8 ys) (hm : m ≤ 1000) :
    Calls Tryd.prog 43 #[.slice a n cap, .slice b m cap2] w fun e w' => (∃ r, e = .returned r ∧ cmS (cmpL xs ys) r) ∧ Below w.heap.size w w' := by
  obtain ⟨i0, hi, hz0, hz1, hz2⟩ := info_parts infoInt
  have HL := Lib.hid hr.len
  have HX := Lib.hid hx; clear hx
  have HY := Lib.hid hy; clear hy
  have Q := Lib.hid hr2; clear hr2
  go_enter Tryd.func43, Tryd.ntmps43
  go_wp2_with fail
  refine (l01Inverse_any _ _ _ _ _ hr (small_of_lt8 HX.out) (by omega)).mono ?_
  rintro e w1 ⟨sa, sc, rfl, ho, hb⟩
  have HO : Hid (OwnV w.heap.size w1 (.slice sa n sc) n (inverse xs)) := Lib.hid ho
  replace Q := Lib.hid (Q.out.below hb)
  have BB := Lib.hid hb; clear ho hb hr
  go_wp2_with (at_builtin; refine wpList_append_ints rfl _ _ 22 rfl w.heap.size i0 Tryd.underlying22 hi hz0 hz1 hz2 _ _ _ rfl HO.out _ _ _ ys rfl Q.out (by omega) BB.out.size ?_)
  intro v' w2 ho' hg
  have HB' := Lib.hid (below_appended5 BB.out BB.out.size HO.out hg)
  obtain ⟨av, cv, rfl, ho2, hcv⟩ := own_capV ho'
  have HO' := Lib.hid ho2; clear ho' hg ho2
  go_wp2_with fail
  refine (l06Letter_any _ _ _ (inverse xs ++ ys) _ HO'.out.reads ((lt8_inverse HX.out).append HY.out) (by omega) hcv).mono ?_
  rintro e w3 ⟨rfl, hb⟩
  have BC := Lib.hid (below_go HB'.out hb HB'.out.size); clear hb
  cases hml : mainL (inverse xs ++ ys) with
  | none =>
    have HC : Hid (cmpL xs ys = none) := Lib.hid (by unfold cmpL; rw [hml]; rfl)
    clear hml
    simp only [mlS]
    go_wp2
    go_ret2
    exact ⟨⟨_, rfl, by rw [HC.out]; rfl⟩, BC.out⟩
  | some v =>
    have HC : Hid (cmpL xs ys = some (if 0 < v then -1 else if v < 0 then 1 else 0)) := Lib.hid (by unfold cmpL; rw [hml]; rfl)
    clear hml
    simp only [mlS]
    by_cases h1 : 0 < v
    · rw [if_pos h1] at HC
      go_wp2
      go_ret2
      exact ⟨⟨_, rfl, by rw [HC.out]; rfl⟩, BC.out⟩
    · rw [if_neg h1] at HC
      by_cases h2 : v < 0
      · rw [if_pos h2] at HC
        go_wp2
        go_ret2
        exact ⟨⟨_, rfl, by rw [HC.out]; rfl⟩, BC.out⟩
      · rw [if_neg h2] at HC
        go_wp2
        go_ret2
        exact ⟨⟨_, rfl, by rw [HC.out]; rfl⟩, BC.out⟩

theorem isNaN_any (x : Int) (w : World) : Calls Tryd.prog 72 #[.int .i64 x] w fun e w' => e = .returned (.bool false) ∧ w = w' := by
  have e0 : (x != x) = false := by simp
  go_enter Tryd.func72, Tryd.ntmps72
  go_wp2
  go_ret
  exact ⟨rfl, rfl⟩

/-- The sign by which 0 compares with v. -/
def cmp0 (v : Int) : Int := if 0 < v then -1 else if v < 0 then 1 else 0

theorem compare_any (v : Int) (w : World) : Calls Tryd.prog 59 #[.int .i64 0, .int .i64 v] w fun e w' => e = .returned (.int .i64 (cmp0 v)) ∧ w = w' := by
  by_cases h1 : 0 < v
  · have HC : Hid (cmp0 v = -1) := Lib.hid (by unfold cmp0; rw [if_pos h1])
    go_enter Tryd.func59, Tryd.ntmps59
    go_wp2_with (go_at_call 72; refine (isNaN_any _ _).mono ?_; rintro e w' ⟨rfl, rfl⟩)
    go_ret
    exact ⟨ret_int HC.out.symm, rfl⟩
  · by_cases h2 : v < 0
    · have HC : Hid (cmp0 v = 1) := Lib.hid (by unfold cmp0; rw [if_neg h1, if_pos h2])
      go_enter Tryd.func59, Tryd.ntmps59
      go_wp2_with (go_at_call 72; refine (isNaN_any _ _).mono ?_; rintro e w' ⟨rfl, rfl⟩)
      go_ret
      exact ⟨ret_int HC.out.symm, rfl⟩
    · have HC : Hid (cmp0 v = 0) := Lib.hid (by unfold cmp0; rw [if_neg h1, if_neg h2])
      go_enter Tryd.func59, Tryd.ntmps59
      go_wp2_with (go_at_call 72; refine (isNaN_any _ _).mono ?_; rintro e w' ⟨rfl, rfl⟩)
      go_ret
      exact ⟨ret_int HC.out.symm, rfl⟩

theorem mainLetter_val {v c : Int} (a : Option Addr) (n cap : Nat) (xs : List Int) (ep : Value) (w : World) (hr : Reads w a n xs) (hx : Lt8 xs) (hn : n ≤ 300000) (hcap : n ≤ cap)
    (hg : w.cell? ⟨0, 0, none⟩ = some (.iface 90 ep)) (hm : (mainL xs = some v ∧ c = 0) ∨ (mainL xs = none ∧ v = 0 ∧ c = 3)) :
    Calls Tryd.prog 42 #[.slice a n cap] w fun e w' => e = .returned (.tuple #[.int .i64 v, .int .i64 c]) ∧ Below w.heap.size w w' := by
  refine (mainLetter_any a n cap xs ep w hr hx hn hcap hg).mono ?_
  rintro e w' ⟨rfl, hb⟩
  refine ⟨?_, hb⟩
  rcases hm with ⟨h1, rfl⟩ | ⟨h1, rfl, rfl⟩ <;> rw [h1] <;> rfl

theorem mainL_val (xs : List Int) : ∃ v c : Int, (mainL xs = some v ∧ c = 0) ∨ (mainL xs = none ∧ v = 0 ∧ c = 3) := by
  cases h : mainL xs with
  | none => exact ⟨0, 3, .inr ⟨rfl, rfl, rfl⟩⟩
  | some v => exact ⟨v, 0, .inl ⟨rfl, rfl⟩⟩

def cmI : Option Int → Value
  | some v => .tuple #[.int .i64 v, .int .i64 0]
  | none => .tuple #[.int .i64 0, .int .i64 3]

set_option maxRecDepth 100000 in
set_option maxHeartbeats 1000000 in
theorem compared_any (s : Int) (a : Option Addr) (n cap : Nat) (xs : List Int) (t : Int) (b : Option Addr) (m cap2 : Nat) (ys : List Int) (ep : Value) (w : World) (hr : Reads w a n xs) (hx : Lt8 xs) (hn : n ≤ 1000) (hr2 : Reads w b m ys) (hy : Lt8 ys) (hm : m ≤ 1000)
    (hg : w.cell? ⟨0, 0, none⟩ = some (.iface 90 ep)) :
    Calls Tryd.prog 45 #[.agg #[.int .i64 s, .slice a n cap], .agg #[.int .i64 t, .slice b m cap2]] w fun e w' => e = .returned (cmI (cmpL xs ys)) ∧ Below w.heap.size w w' := by
  obtain ⟨i0, hi, hz0, hz1, hz2⟩ := info_parts infoInt
  have HL := Lib.hid hr.len
  have HX := Lib.hid hx; clear hx
  have HY := Lib.hid hy; clear hy
  have HG := Lib.hid hg; clear hg
  have R := Lib.hid ((hr.alloc (.cells #[.int .i64 s, .slice a n cap] 26)).alloc (.cells #[.int .i64 t, .slice b m cap2] 26))
  have Q := Lib.hid ((hr2.alloc (.cells #[.int .i64 s, .slice a n cap] 26)).alloc (.cells #[.int .i64 t, .slice b m cap2] 26))
  have A := Lib.hid ((At2.new w (.int .i64 s) (.slice a n cap) 26).alloc (.cells #[.int .i64 t, .slice b m cap2] 26))
  have C := Lib.hid (At2.place (w.alloc (.cells #[.int .i64 s, .slice a n cap] 26)) (.int .i64 t) (.slice b m cap2) 26 (w.heap.size + 1) (by simp))
  have BB := Lib.hid (below2 w (.cells #[.int .i64 s, .slice a n cap] 26) (.cells #[.int .i64 t, .slice b m cap2] 26))
  clear hr hr2
  go_enter Tryd.func45, Tryd.ntmps45
  go_upto_region 1 with fail
  obtain ⟨W, hW⟩ : ∃ W, W = (w.alloc (.cells #[.int .i64 s, .slice a n cap] 26)).alloc (.cells #[.int .i64 t, .slice b m cap2] 26) := ⟨_, rfl⟩
  rw [← hW] at R Q A C BB ⊢
  clear hW
  replace R := Lib.hid R.out.drew
  replace Q := Lib.hid Q.out.drew
  replace A := Lib.hid A.out.drew
  replace C := Lib.hid C.out.drew
  replace BB := Lib.hid BB.out.drew
  obtain ⟨mv, mc, hmv⟩ := mainL_val (inverse xs ++ ys)
  have HMV := Lib.hid hmv; clear hmv
  have hfld : ∀ (z : Int) (d : Option Addr) (k l : Nat) (W : World), Sem.run Tryd.prog (Instr.field 26 (.agg #[.int .i64 z, .slice d k l]) 1) W = .ok (.slice d k l) W := fun _ _ _ _ _ => by kernel_rfl
  have HML : Hid (cmpL xs ys = (mainL (inverse xs ++ ys)).map cmp0) := Lib.hid rfl
  go_region_held3 (fun w' => w'.cell? ⟨w.heap.size, 0, none⟩ = some (.int .i64 s) ∧ w'.cell? ⟨w.heap.size, 1, none⟩ = some (.slice a n cap) ∧ w'.cell? ⟨w.heap.size + 1, 1, none⟩ = some (.slice b m cap2)) (with_reducible exact ⟨At2.k0 A.out, At2.k1 A.out, At2.k1 C.out⟩)
    (first
      | (go_at_call 58; refine (inverted_any _ _ _ _ xs _ R.out (small_of_lt8 HX.out) (by omega)).mono ?_; rintro e w1 ⟨a1, n1, c1, rfl, ho, g1⟩; have hn1 : n1 = n := (by have h1 := ho.len; have h2 := HL.out; rw [inverse_length] at h1; omega); subst hn1; have HO : Hid (OwnV (w.heap.size + 1 + 1) w1 (.slice a1 n1 c1) n1 (inverse xs)) := Lib.hid (ho.mono C.out.1); replace Q := Lib.hid (Q.out.below g1); replace A := Lib.hid (A.out.below g1); replace C := Lib.hid (C.out.below g1); replace BB := Lib.hid (below_go BB.out g1 BB.out.size); clear ho g1)
      | (refine step_append_ints rfl _ _ 22 rfl (w.heap.size + 1 + 1) i0 Tryd.underlying22 hi hz0 hz1 hz2 (.slice a1 n1 c1) n1 (inverse xs) rfl HO.out b m cap2 ys rfl Q.out (by omega) C.out.1 ?_; intro a2 c2 w2 ho2 hg2; have g2 := below_appended5 (Below.refl (w.heap.size + 1 + 1) _) C.out.1 HO.out hg2; have hcap2 := ho2.cap_ge; have HO2 := Lib.hid ho2; replace A := Lib.hid (A.out.heap g2.size (g2.block _ (by omega))); replace C := Lib.hid (C.out.heap g2.size (g2.block _ (by omega))); replace BB := Lib.hid (BB.out.trans (g2.mono (by omega))); clear ho2 hg2 g2)
      | (go_at_call 42; refine (mainLetter_val _ _ _ (inverse xs ++ ys) ep _ HO2.out.reads ((lt8_inverse HX.out).append HY.out) (by omega) hcap2 ((BB.out.cell (World.block_lt_of_cell? _ _ HG.out)).trans HG.out) HMV.out).mono ?_; rintro e w3 ⟨rfl, g3⟩; replace A := Lib.hid (A.out.below g3); replace C := Lib.hid (C.out.below g3); replace BB := Lib.hid (below_go BB.out g3 BB.out.size); clear g3))
  rcases HMV.out with ⟨h1, rfl⟩ | ⟨h1, rfl, rfl⟩
  · have HC : Hid (cmpL xs ys = some (cmp0 mv)) := Lib.hid (by rw [HML.out, h1]; rfl)
    clear h1 HMV
    go_wp2_with (go_at_call 59; refine (compare_any _ _).mono ?_; rintro e w' ⟨rfl, rfl⟩)
    go_ret2
    exact ⟨by rw [HC.out]; rfl, BB.out⟩
  · have HC : Hid (cmpL xs ys = none) := Lib.hid (by rw [HML.out, h1]; rfl)
    clear h1 HMV
    go_wp2
    go_ret2
    exact ⟨by rw [HC.out]; rfl, BB.out⟩

end Go.Proofs.YtckdhnpnkgmikaaDoor
