/- The reduction of a word: the program's machine with goto. -/
import Derived.Test.YtckdhnpnkgmikaaDoorIHan
import Derived.Test.YtckdhnpnkgmikaaDoorIStp
import Derived.Test.YtckdhnpnkgmikaaDoorFree0
import Derived.ScopeJumps
import Derived.WalkMore
import Derived.WalkSmall
namespace Go.Proofs.YtckdhnpnkgmikaaDoor
open Go.RowKit Go.ChangeShapes

def intOfV : Value → Int | .int _ q => q | _ => 0

/-- What the reduction does: it gives back a word, or it panics with the error ev. -/
def RedPost (w : World) (a : Option Addr) (n : Nat) (ev : Value) (r : Option (List Int)) (e : Ending) (w' : World) : Prop :=
  (match r with
  | some ys => ∃ b m c, e = .returned (.slice b m c) ∧ Reads w' b m ys ∧ m ≤ c ∧ ((b = a ∧ m = n) ∨ ∀ x, b = some x → w.heap.size ≤ x.block)
  | none => e = .panicked [{ v := ev, recovered := false }]) ∧ Below w.heap.size w w'

/-- What holds at each jump. -/
def RdInv (w : World) (a : Option Addr) (n : Nat) (xs : List Int) (b : Option Addr) (m c : Nat) (ys : List Int) (k : Nat) (w' : World) : Prop :=
  Reads w' b m ys ∧ ((b = a ∧ m = n) ∨ ∀ x, b = some x → w.heap.size < x.block) ∧ Lt8 ys ∧ m ≤ 300000 ∧ m ≤ c ∧ (∃ u v, At2 w' w.heap.size u v) ∧ Below w.heap.size w w' ∧
  ((k ≤ 3000 ∧ red 3000 xs = red (3000 - k) ys) ∨ (k = 3001 ∧ red 3000 xs = none))

/-- A slice that is no local variable reads as it did behind a store into one. -/
theorem Reads.set2 {w : World} {a : Option Addr} {n g : Nat} {xs : List Int} (h : Reads w a n xs) (hg : n = 0 ∨ ∀ x, a = some x → x.block ≠ g) (u v : Value) : Reads ((w.setCell ⟨g, 0, none⟩ u).setCell ⟨g, 1, none⟩ v) a n xs := by
  refine ⟨h.1, ?_⟩
  rcases h.2 with h0 | ⟨b, off, ha, hc⟩
  · exact .inl h0
  · rcases hg with h0 | hg
    · exact .inl h0
    · refine .inr ⟨b, off, ha, fun j hj => ?_⟩
      have hne := hg _ ha
      rw [World.cell?_setCell_other _ _ _ _ (fun e => hne (congrArg Addr.block e).symm), World.cell?_setCell_other _ _ _ _ (fun e => hne (congrArg Addr.block e).symm)]
      exact hc j hj

set_option maxRecDepth 1000000 in
set_option maxHeartbeats 1000000 in
theorem reduction_any (a : Option Addr) (n cap : Nat) (xs : List Int) (et : TypeId) (ep : Value) (w : World) (hr : Reads w a n xs) (hx : Lt8 xs) (hn : n ≤ 300000) (hcap : n ≤ cap)
    (hg : w.cell? ⟨0, 0, none⟩ = some (.iface et ep)) :
    Calls Tryd.prog 54 #[.slice a n cap] w (RedPost w a n (.iface et ep) (red 3000 xs)) := by
  have HR := Lib.hid hr; clear hr
  have HX1 := Lib.hid hx; clear hx
  have HG := Lib.hid hg; clear hg
  have hold : n = 0 ∨ ∀ x, a = some x → x.block ≠ w.heap.size := by
    rcases Nat.eq_zero_or_pos n with h0 | h0
    · exact .inl h0
    · obtain ⟨b, off, rfl, hb, _⟩ := HR.out.cells h0
      exact .inr fun x hx => by cases hx; simp; omega
  go_enter Tryd.func54, Tryd.ntmps54
  go_wp2
  refine wp_scope_jumps 0 (fun a' w' => ∃ (b : Option Addr) (m c : Nat) (ys : List Int) (k : Nat) (u4 u6 u7 u8 u9 u10 u11 u12 u13 u14 u15 u16 u17 u18 u19 u20 u21 u22 u23 u24 u25 u26 : Value), a' = { tmps := #[.slice b m c, undef, .slice none 0 0, .pointer (some ⟨w.heap.size, 0, none⟩), u4, .int .i64 (k : Int), u6, u7, u8, u9, u10, u11, u12, u13, u14, u15, u16, u17, u18, u19, u20, u21, u22, u23, u24, u25, u26], defers := [] } ∧ RdInv w a n xs b m c ys k w') (fun a' _ => 3001 - (intOfV (a'.tmps.getD 5 undef)).toNat) rfl ?_ ?_
  · have A0 := Lib.hid (At2.new w (.int .i64 0) (.int .i64 0) 80)
    have BB := Lib.hid (below1 w (.cells #[.int .i64 0, .int .i64 0] 80))
    have R := Lib.hid (HR.out.alloc (.cells #[.int .i64 0, .int .i64 0] 80))
    go_wp2
    go_step3
    obtain ⟨W, hW⟩ : ∃ W, W = w.alloc (.cells #[.int .i64 0, .int .i64 0] 80) := ⟨_, rfl⟩
    rw [← hW] at A0 BB R ⊢
    clear hW
    have HY := Lib.hid HR.out.len
    have RO : Hid (∀ w2, Below w.heap.size w w2 → Reads w2 a n xs → ∀ u v, Reads ((w2.setCell ⟨w.heap.size, 0, none⟩ u).setCell ⟨w.heap.size, 1, none⟩ v) a n xs) := Lib.hid (fun w2 _ h u v => h.set2 hold u v)
    have hG2 : W.cell? ⟨0, 0, none⟩ = some (.iface et ep) := (BB.out.cell (World.block_lt_of_cell? _ _ HG.out)).trans HG.out
    by_cases h2 : 2000 < n
    · have HNO : Hid (red 3000 xs = none) := Lib.hid (by skip; exact red_long (by rw [HY.out]; exact h2))
      have h2b : (2000 : Int) < (n : Int) := by omega
      go_wp2
      simp only [Exit.jump]
      exact ⟨rfl, by rw [HNO.out], BB.out⟩
    have h2b : ¬ (2000 : Int) < (n : Int) := by omega
    have HS : Hid (¬ 2000 < (xs).length) := Lib.hid (by rw [HY.out]; exact h2)
    obtain ⟨q1, q2, q3, q4, q5⟩ := A0.out
    go_wp2_with fail
    refine (firstHandle_any _ _ _ _ _ R.out HX1.out (by omega)).mono ?_
    rintro e w2 ⟨rfl, hb⟩
    clear q1 q2 q3 q4 q5 hG2
    replace R := Lib.hid (R.out.below hb)
    replace A0 := Lib.hid (A0.out.below hb)
    replace BB := Lib.hid (below_go BB.out hb BB.out.size)
    clear hb
    obtain ⟨q1, q2, q3, q4, q5⟩ := A0.out
    cases hh : hand xs n with
    | none =>
      have HRE : Hid (red 3000 xs = some xs) := Lib.hid (by skip; exact red_end HS.out (by rw [HY.out]; exact hh))
      clear hh
      simp only [handI]
      go_wp2
      simp only [Exit.jump]
      go_ret
      refine ⟨?_, (BB.out.setCell (p := ⟨w.heap.size, 0, none⟩) (by simp) _).setCell (p := ⟨w.heap.size, 1, none⟩) (by simp) _⟩
      rw [HRE.out]
      exact ⟨_, _, _, rfl, RO.out _ BB.out R.out _ _, by omega, .inl ⟨rfl, rfl⟩⟩
    | some r =>
      obtain ⟨p, q⟩ := r
      obtain ⟨hpq, hqn, hpx⟩ := hand_lt hh
      have HNX : Hid ((0 + 1 ≤ 3000 ∧ red 3000 xs = red (3000 - (0 + 1)) (stepL xs p q)) ∨ (0 + 1 = 3001 ∧ red 3000 xs = none)) := Lib.hid (by
        have hh' := hh
        rw [← HY.out] at hh'
        exact .inl ⟨by omega, red_more (f := 2999) HS.out hh'⟩)
      clear hh hpx
      simp only [handI]
      have R2 := Lib.hid (RO.out _ BB.out R.out (.int .i64 (p : Int)) (.int .i64 (q : Int)))
      have BB2 := Lib.hid ((BB.out.setCell (p := ⟨w.heap.size, 0, none⟩) (by simp) (.int .i64 (p : Int))).setCell (p := ⟨w.heap.size, 1, none⟩) (by simp) (.int .i64 (q : Int)))
      have A2 := Lib.hid (A0.out.fill (.int .i64 (p : Int)) (.int .i64 (q : Int)))
      go_wp2_with fail
      refine (reduced_any _ _ _ _ p q _ R2.out HX1.out (by omega) (by omega) hpq hqn).mono ?_
      rintro e w3 ⟨b3, c3, rfl, ho, hb⟩
      clear q1 q2 q3 q4 q5
      have zA := A2.out.1
      replace A2 := Lib.hid (A2.out.below hb)
      replace BB2 := Lib.hid (below_go BB2.out hb BB2.out.size)
      have HO := Lib.hid ho; clear ho hb
      have hlen := stepL_len xs p q hpq (by rw [HY.out]; exact hqn)
      rw [HY.out] at hlen
      have h6 : (stepL xs p q).length ≤ 6000 := by omega
      have HX2 := Lib.hid (stepL_lt HX1.out p q (by rw [HY.out]; exact hqn))
      obtain ⟨l, hl⟩ : ∃ l, l = (stepL xs p q).length := ⟨_, rfl⟩
      rw [← hl] at HO h6 ⊢
      clear hl hlen
      go_wp2
      go_step3
      exact ⟨rfl, b3, l, c3, stepL xs p q, 0 + 1, _, _, _, _, _, _, _, _, _, _, _, _, _, _, _, _, _, _, _, _, _, _, by go_num, HO.out.reads, .inr (fun x hx => by have := (HO.out.lo x hx).1; have := zA; omega), HX2.out, by omega, HO.out.cap_ge, ⟨_, _, A2.out⟩, BB2.out, HNX.out⟩
  · rintro a' W ⟨b, m, c, ys, k, u4, u6, u7, u8, u9, u10, u11, u12, u13, u14, u15, u16, u17, u18, u19, u20, u21, u22, u23, u24, u25, u26, rfl, hr, hp, hx, hm, hmc, ⟨u, v, ha⟩, bb, hi⟩
    have R := Lib.hid hr
    clear HX1
    have HX1 := Lib.hid hx
    have A0 := Lib.hid ha
    have BB := Lib.hid bb
    have HI := Lib.hid hi
    have HY := Lib.hid hr.len
    clear hr hx ha bb hi
    have HP := Lib.hid hp; clear hp
    have hne : m = 0 ∨ ∀ x, b = some x → x.block ≠ w.heap.size := by
      rcases HP.out with ⟨rfl, rfl⟩ | h
      · exact hold
      · exact .inr fun x hx => by have := h x hx; omega
    have hk3 : k ≤ 3001 := by rcases HI.out with h | h <;> omega
    have RO : Hid (∀ w2, Below w.heap.size w w2 → Reads w2 b m ys → ∀ u v, Reads ((w2.setCell ⟨w.heap.size, 0, none⟩ u).setCell ⟨w.heap.size, 1, none⟩ v) b m ys) := Lib.hid (fun w2 _ h u v => h.set2 hne u v)
    have hG2 : W.cell? ⟨0, 0, none⟩ = some (.iface et ep) := (BB.out.cell (World.block_lt_of_cell? _ _ HG.out)).trans HG.out
    by_cases h3 : 3000 < k
    · have HNO : Hid (red 3000 xs = none) := Lib.hid (HI.out.elim (fun h => by omega) (fun h => h.2))
      have h3b : (3000 : Int) < (k : Int) := by omega
      obtain ⟨q1, q2, q3, q4, q5⟩ := A0.out
      go_wp2
      simp only [Exit.jump]
      exact ⟨rfl, by rw [HNO.out], BB.out⟩
    have h3b : ¬ (3000 : Int) < (k : Int) := by omega
    have HE : Hid (k ≤ 3000 ∧ red 3000 xs = red (3000 - k) ys) := Lib.hid (HI.out.elim id (fun h => by omega))
    by_cases h2 : 2000 < m
    · have HNO : Hid (red 3000 xs = none) := Lib.hid (by rw [HE.out.2]; exact red_long (by rw [HY.out]; exact h2))
      have h2b : (2000 : Int) < (m : Int) := by omega
      go_wp2
      simp only [Exit.jump]
      exact ⟨rfl, by rw [HNO.out], BB.out⟩
    have h2b : ¬ (2000 : Int) < (m : Int) := by omega
    have HS : Hid (¬ 2000 < (ys).length) := Lib.hid (by rw [HY.out]; exact h2)
    obtain ⟨q1, q2, q3, q4, q5⟩ := A0.out
    go_wp2_with fail
    refine (firstHandle_any _ _ _ _ _ R.out HX1.out (by omega)).mono ?_
    rintro e w2 ⟨rfl, hb⟩
    clear q1 q2 q3 q4 q5 hG2
    replace R := Lib.hid (R.out.below hb)
    replace A0 := Lib.hid (A0.out.below hb)
    replace BB := Lib.hid (below_go BB.out hb BB.out.size)
    clear hb
    obtain ⟨q1, q2, q3, q4, q5⟩ := A0.out
    cases hh : hand ys m with
    | none =>
      have HRE : Hid (red 3000 xs = some ys) := Lib.hid (by rw [HE.out.2]; exact red_end HS.out (by rw [HY.out]; exact hh))
      clear hh
      simp only [handI]
      go_wp2
      simp only [Exit.jump]
      go_ret
      refine ⟨?_, (BB.out.setCell (p := ⟨w.heap.size, 0, none⟩) (by simp) _).setCell (p := ⟨w.heap.size, 1, none⟩) (by simp) _⟩
      rw [HRE.out]
      exact ⟨_, _, _, rfl, RO.out _ BB.out R.out _ _, by omega, HP.out.imp id (fun h x hx => Nat.le_of_lt (h x hx))⟩
    | some r =>
      obtain ⟨p, q⟩ := r
      obtain ⟨hpq, hqn, hpx⟩ := hand_lt hh
      have HNX : Hid ((k + 1 ≤ 3000 ∧ red 3000 xs = red (3000 - (k + 1)) (stepL ys p q)) ∨ (k + 1 = 3001 ∧ red 3000 xs = none)) := Lib.hid (by
        have hh' := hh
        rw [← HY.out] at hh'
        rcases Nat.lt_or_ge k 3000 with h | h
        · left
          refine ⟨by omega, ?_⟩
          rw [HE.out.2, show 3000 - k = (3000 - (k + 1)) + 1 by omega]
          exact red_more HS.out hh'
        · right
          have := HE.out.1
          refine ⟨by omega, ?_⟩
          rw [HE.out.2, show 3000 - k = 0 by omega]
          exact red_stop hh')
      clear hh hpx
      simp only [handI]
      have R2 := Lib.hid (RO.out _ BB.out R.out (.int .i64 (p : Int)) (.int .i64 (q : Int)))
      have BB2 := Lib.hid ((BB.out.setCell (p := ⟨w.heap.size, 0, none⟩) (by simp) (.int .i64 (p : Int))).setCell (p := ⟨w.heap.size, 1, none⟩) (by simp) (.int .i64 (q : Int)))
      have A2 := Lib.hid (A0.out.fill (.int .i64 (p : Int)) (.int .i64 (q : Int)))
      go_wp2_with fail
      refine (reduced_any _ _ _ _ p q _ R2.out HX1.out (by omega) (by omega) hpq hqn).mono ?_
      rintro e w3 ⟨b3, c3, rfl, ho, hb⟩
      clear q1 q2 q3 q4 q5
      have zA := A2.out.1
      replace A2 := Lib.hid (A2.out.below hb)
      replace BB2 := Lib.hid (below_go BB2.out hb BB2.out.size)
      have HO := Lib.hid ho; clear ho hb
      have hlen := stepL_len ys p q hpq (by rw [HY.out]; exact hqn)
      rw [HY.out] at hlen
      have h6 : (stepL ys p q).length ≤ 6000 := by omega
      have HX2 := Lib.hid (stepL_lt HX1.out p q (by rw [HY.out]; exact hqn))
      obtain ⟨l, hl⟩ : ∃ l, l = (stepL ys p q).length := ⟨_, rfl⟩
      rw [← hl] at HO h6 ⊢
      clear hl hlen
      go_wp2
      go_step3
      refine ⟨rfl, ⟨b3, l, c3, stepL ys p q, k + 1, _, _, _, _, _, _, _, _, _, _, _, _, _, _, _, _, _, _, _, _, _, _, by go_num, HO.out.reads, .inr (fun x hx => by have := (HO.out.lo x hx).1; have := zA; omega), HX2.out, by omega, HO.out.cap_ge, ⟨_, _, A2.out⟩, BB2.out, HNX.out⟩, ?_⟩
      simp [intOfV]; omega

end Go.Proofs.YtckdhnpnkgmikaaDoor
