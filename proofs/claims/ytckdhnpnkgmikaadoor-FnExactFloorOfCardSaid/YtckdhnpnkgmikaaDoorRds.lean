/- The reduction of a word: the model; main letters: the model's and the program's. -/
import Derived.Test.YtckdhnpnkgmikaaDoorCat
import Derived.Test.YtckdhnpnkgmikaaDoorSHan
import Derived.Test.YtckdhnpnkgmikaaDoorSStp
import Derived.Test.YtckdhnpnkgmikaaDoorMainO
namespace Go.Proofs.YtckdhnpnkgmikaaDoor
open Go.RowKit Go.ChangeShapes

/-- What the model's reduction gives. -/
def SrPost (w : World) (r : Option (List Int)) (e : Ending) (w' : World) : Prop :=
  (match r with
  | some ys => ∃ b m c, e = .returned (.tuple #[.slice b m c, .bool true]) ∧ Reads w' b m ys
  | none => e = .returned (.tuple #[.slice none 0 0, .bool false])) ∧ Below w.heap.size w w'

set_option maxRecDepth 100000 in
set_option maxHeartbeats 1000000 in
theorem l06Reduce_any (a : Option Addr) (n cap : Nat) (xs : List Int) (w : World) (hr : Reads w a n xs) (hx : Lt8 xs) (hn : n ≤ 300000) (hcap : n ≤ cap) :
    Calls Tryd.prog 35 #[.slice a n cap] w (SrPost w (red 3000 xs)) := by
  have HR := Lib.hid hr; clear hr
  have HX := Lib.hid hx; clear hx
  go_enter Tryd.func35, Tryd.ntmps35
  go_wp2
  go_loopw [0, 4] (fun v i wr => ∃ (b : Option Addr) (m c : Nat) (ys : List Int) (k : Nat), v = .slice b m c ∧ i = .int .i64 (k : Int) ∧ Reads wr b m ys ∧ Lt8 ys ∧ m ≤ 300000 ∧ m ≤ c ∧ k ≤ 3000 ∧ red 3000 xs = red (3000 - k) ys ∧ Below w.heap.size w wr) (fun _ i _ => 3001 - (intOf i).toNat)
  case atStart => exact ⟨a, n, cap, xs, 0, rfl, rfl, HR.out, HX.out, hn, hcap, by omega, rfl, Below.refl _ _⟩
  case round =>
    obtain ⟨b, m, c, ys, k, rfl, rfl, hr, hx, hm, hmc, hk, he, hb⟩ := hrel
    clear HR HX
    have R := Lib.hid hr
    have HX := Lib.hid hx
    have BB := Lib.hid hb
    have HE := Lib.hid he
    have HY := Lib.hid hr.len
    clear hr hx hb he
    by_cases h2 : 2000 < m
    · have HNO : Hid (red 3000 xs = none) := Lib.hid (by rw [HE.out]; exact red_long (by rw [HY.out]; exact h2))
      have h2b : (2000 : Int) < (m : Int) := by omega
      go_wp2
      go_ret2
      exact ⟨by rw [HNO.out]; rfl, BB.out⟩
    · have h2b : ¬ (2000 : Int) < (m : Int) := by omega
      have HS : Hid (¬ 2000 < ys.length) := Lib.hid (by rw [HY.out]; exact h2)
      go_wp2_with fail
      refine (l06Handle_any _ _ _ _ _ R.out HX.out (by omega)).mono ?_
      rintro e w2 ⟨rfl, hb⟩
      replace R := Lib.hid (R.out.below hb)
      replace BB := Lib.hid (below_go BB.out hb BB.out.size)
      clear hb
      cases hh : hand ys m with
      | none =>
        have HRE : Hid (red 3000 xs = some ys) := Lib.hid (by rw [HE.out]; exact red_end HS.out (by rw [HY.out]; exact hh))
        clear hh
        simp only [handV]
        go_wp2
        go_ret2
        exact ⟨by rw [HRE.out]; exact ⟨b, m, c, rfl, R.out⟩, BB.out⟩
      | some r =>
        obtain ⟨p, q⟩ := r
        obtain ⟨hpq, hqn, hpx⟩ := hand_lt hh
        have HPX := Lib.hid hpx; clear hpx
        have HH : Hid (hand ys ys.length = some (p, q)) := Lib.hid (by rw [HY.out]; exact hh)
        clear hh
        simp only [handV]
        by_cases h3 : k = 3000
        · have HNO : Hid (red 3000 xs = none) := Lib.hid (by rw [HE.out, show 3000 - k = 0 by omega]; exact red_stop HH.out)
          have h3b : ((k : Int) == 3000) = true := by simp; omega
          go_wp2
          go_ret2
          exact ⟨by rw [HNO.out]; rfl, BB.out⟩
        · have h3b : ((k : Int) == 3000) = false := by simp; omega
          have HNX : Hid (red 3000 xs = red (3000 - (k + 1)) (stepL ys p q)) := Lib.hid (by
            rw [HE.out, show 3000 - k = (3000 - (k + 1)) + 1 by omega]
            exact red_more HS.out HH.out)
          go_wp2_with fail
          refine (l06Step_any _ _ _ _ p q _ R.out HX.out (by omega) hmc hpq hqn HPX.out).mono ?_
          rintro e w3 ⟨b3, c3, rfl, ho, hb⟩
          have HO := Lib.hid ho
          replace BB := Lib.hid (below_go BB.out hb BB.out.size)
          clear ho hb
          have hlen := stepL_len ys p q hpq (by rw [HY.out]; exact hqn)
          rw [HY.out] at hlen
          have h6 : (stepL ys p q).length ≤ 6000 := by omega
          have HX2 := Lib.hid (stepL_lt HX.out p q (by rw [HY.out]; exact hqn))
          obtain ⟨l, hl⟩ : ∃ l, l = (stepL ys p q).length := ⟨_, rfl⟩
          rw [← hl] at HO h6 ⊢
          clear hl hlen
          go_wp2
          go_roundw
          case rel => exact ⟨b3, l, c3, stepL ys p q, k + 1, rfl, by go_num, HO.out.reads, HX2.out, by omega, HO.out.cap_ge, by omega, HNX.out, BB.out⟩
          case measure => simp [intOf]; omega

/-- The main letter of a word and the code; and whether its reduction is within the limits. -/
def mainL (xs : List Int) : Option Int := (red 3000 xs).map fun ys => least ys * sgnM ys

/-- What the model's and the program's functions give back for it. -/
def mlS : Option Int → Value
  | some v => .tuple #[.int .i64 v, .bool true]
  | none => .tuple #[.int .i64 0, .bool false]
def mlI : Option Int → Value
  | some v => .tuple #[.int .i64 v, .int .i64 0]
  | none => .tuple #[.int .i64 0, .int .i64 3]

theorem main_bd (ys : List Int) (h : Lt8 ys) : 1 ≤ least ys ∧ least ys ≤ 8 ∧ (sgnM ys = 1 ∨ sgnM ys = -1 ∨ sgnM ys = 0) := by
  have := least_bd ys h
  refine ⟨this.1, this.2, ?_⟩
  unfold sgnM
  split
  · exact .inl rfl
  · split
    · exact .inr (.inl rfl)
    · exact .inr (.inr rfl)

theorem mainS_bd (ys : List Int) (h : Lt8 ys) : 0 ≤ (mainS ys).1 ∧ (mainS ys).1 ≤ 8 ∧ ((mainS ys).2 = 1 ∨ (mainS ys).2 = -1 ∨ (mainS ys).2 = 0) := by
  by_cases h0 : ys = []
  · subst h0; exact ⟨by decide, by decide, .inr (.inr rfl)⟩
  · have := main_bd ys h
    rw [mainS_eq ys h h0]
    exact ⟨by simp only; omega, by simp only; omega, this.2.2⟩

set_option maxHeartbeats 400000 in
theorem l06Letter_any (a : Option Addr) (n cap : Nat) (xs : List Int) (w : World) (hr : Reads w a n xs) (hx : Lt8 xs) (hn : n ≤ 300000) (hcap : n ≤ cap) :
    Calls Tryd.prog 41 #[.slice a n cap] w fun e w' =>
      (e = .returned (mlS (mainL xs))) ∧ Below w.heap.size w w' := by
  have HX := Lib.hid hx
  go_enter Tryd.func41, Tryd.ntmps41
  go_wp2_with fail
  refine (l06Reduce_any _ _ _ xs _ hr hx hn hcap).mono ?_
  rintro e w1 ⟨hp, hb⟩
  have BB := Lib.hid hb; clear hb hr hx
  cases hrd : red 3000 xs with
  | none =>
    rw [hrd] at hp
    obtain rfl := hp
    have HM : Hid (mainL xs = none) := Lib.hid (by unfold mainL; rw [hrd]; rfl)
    clear hrd
    go_wp2
    go_ret2
    exact ⟨by rw [HM.out]; rfl, BB.out⟩
  | some ys =>
    rw [hrd] at hp
    obtain ⟨b, m, c, rfl, hy⟩ := hp
    have HM : Hid (mainL xs = some (least ys * sgnM ys)) := Lib.hid (by unfold mainL; rw [hrd]; rfl)
    have hy2 := red_out hrd
    have HY := Lib.hid (red_lt HX.out hrd)
    have hm2 : m ≤ 2000 := by have := hy.len; omega
    have R := Lib.hid hy; clear hy hrd hy2
    go_wp2_with fail
    refine (l06Main_any _ _ _ _ _ R.out HY.out (by omega)).mono ?_
    rintro e w2 ⟨rfl, hb⟩
    replace BB := Lib.hid (below_go BB.out hb BB.out.size); clear hb
    obtain ⟨m1, m2, m3⟩ := main_bd ys HY.out
    obtain ⟨v, hv⟩ : ∃ v, v = least ys := ⟨_, rfl⟩
    obtain ⟨s, hs⟩ : ∃ s, s = sgnM ys := ⟨_, rfl⟩
    rw [← hv] at m1 m2 HM ⊢
    rw [← hs] at m3 HM ⊢
    have hw : wrap64 (v * s) = v * s := by rcases m3 with h | h | h <;> rw [h] <;> exact IntWalk.wrap64_in _ (by omega)
    have HW := Lib.hid hw
    clear hw m3 hv hs
    go_wp2
    go_ret2
    exact ⟨by rw [HM.out, HW.out]; rfl, BB.out⟩

set_option maxHeartbeats 400000 in
theorem mainLetter_any (a : Option Addr) (n cap : Nat) (xs : List Int) (ep : Value) (w : World) (hr : Reads w a n xs) (hx : Lt8 xs) (hn : n ≤ 300000) (hcap : n ≤ cap)
    (hg : w.cell? ⟨0, 0, none⟩ = some (.iface 90 ep)) :
    Calls Tryd.prog 42 #[.slice a n cap] w fun e w' =>
      (e = .returned (mlI (mainL xs))) ∧ Below w.heap.size w w' := by
  have HX := Lib.hid hx
  go_enter Tryd.func42, Tryd.ntmps42
  go_wp2_with fail
  refine (handleFree_any _ _ _ xs ep _ hr hx hn hcap hg).mono ?_
  rintro e w1 ⟨hp, hb⟩
  have BB := Lib.hid hb; clear hb hr hx hg
  cases hrd : red 3000 xs with
  | none =>
    rw [hrd] at hp
    obtain rfl := hp
    have HM : Hid (mainL xs = none) := Lib.hid (by unfold mainL; rw [hrd]; rfl)
    clear hrd
    go_wp2
    go_ret2
    exact ⟨by rw [HM.out]; rfl, BB.out⟩
  | some ys =>
    rw [hrd] at hp
    obtain ⟨b, m, c, rfl, hy⟩ := hp
    have HM : Hid (mainL xs = some (least ys * sgnM ys)) := Lib.hid (by unfold mainL; rw [hrd]; rfl)
    have hy2 := red_out hrd
    have HY := Lib.hid (red_lt HX.out hrd)
    have hm2 : m ≤ 2000 := by have := hy.len; omega
    have R := Lib.hid hy; clear hy hrd hy2
    rw [← main_mul ys HY.out] at HM
    go_wp2_with fail
    refine (mainSign_any _ _ _ _ _ R.out HY.out (by omega)).mono ?_
    rintro e w2 ⟨rfl, hb⟩
    replace BB := Lib.hid (below_go BB.out hb BB.out.size); clear hb
    obtain ⟨m1, m2, m3⟩ := mainS_bd ys HY.out
    obtain ⟨v, hv⟩ : ∃ v, v = (mainS ys).1 := ⟨_, rfl⟩
    obtain ⟨s, hs⟩ : ∃ s, s = (mainS ys).2 := ⟨_, rfl⟩
    rw [← hv] at m1 m2 HM ⊢
    rw [← hs] at m3 HM ⊢
    have hw : wrap64 (v * s) = v * s := by rcases m3 with h | h | h <;> rw [h] <;> exact IntWalk.wrap64_in _ (by omega)
    have HW := Lib.hid hw
    clear hw m3 hv hs
    go_wp2
    go_ret2
    exact ⟨by rw [HM.out, HW.out]; rfl, BB.out⟩

end Go.Proofs.YtckdhnpnkgmikaaDoor
