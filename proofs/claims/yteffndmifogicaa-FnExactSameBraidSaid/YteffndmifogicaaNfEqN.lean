/- Normal forms compared: the model and the program. -/
import Derived.Test.YteffndmifogicaaNfMC
import Derived.Test.YteffndmifogicaaNfKit15
import Derived.BigQuiet
namespace Go.Proofs.Yteffndmifogicaa
open Go.RowKit Go.ChangeShapes

theorem below_drewN {B : Nat} {w W : World} (h : Below B w W) (n : Nat) : Below B w (W.drewN n) := ⟨h.os, h.tape, h.output, h.size, h.block⟩

theorem At3.drewN {w : World} {g : Nat} {u v x : Value} (h : At3 w g u v x) (n : Nat) : At3 (w.drewN n) g u v x := h

theorem readsA_cells {w : World} {a : Option Addr} {n : Nat} {l : List (List Int)} (h : ReadsA w a n l) : ∃ ba oa, (n = 0 ∨ a = some ⟨ba, oa, none⟩) ∧ ∀ j, j < n → Cells8 w ba (oa + j * 8) (rowAt l j) := by
 rcases Nat.eq_zero_or_pos n with h0 | h0
 ·exact ⟨0, 0, .inl h0, fun j hj => by omega⟩
 ·obtain ⟨ba, oa, ha, _, hc⟩ := h.cells h0
  exact ⟨ba, oa, .inr ha, hc⟩

set_option maxRecDepth 100000 in
set_option maxHeartbeats 4000000 in
theorem slicesEqualS_any (a b : Option Addr) (n k ca cb : Nat) (l1 l2 : List (List Int)) (w : World) (ha : ReadsA w a n l1) (hb : ReadsA w b k l2) (hn : n ≤ 100000) (fb : Bool) (hM : decide (l1 = l2) = fb) :
  Calls Try.prog 77 #[.slice a n ca, .slice b k cb] w fun e w' => e = .returned (.bool fb) ∧ Below w.heap.size w w' := by
 have HM := Lib.hid hM
 clear hM
 have HL := Lib.hid ha.len
 have HL2 := Lib.hid hb.len
 have R1 := Lib.hid ha.rows
 have R2 := Lib.hid hb.rows
 obtain ⟨ba, oa, hba, hca⟩ := readsA_cells ha
 obtain ⟨bb, ob, hbb, hcb⟩ := readsA_cells hb
 have HA := Lib.hid hba
 have HB := Lib.hid hbb
 have HCA := Lib.hid hca
 have HCB := Lib.hid hcb
 clear hba hbb hca hcb ha hb
 by_cases hnk : n = k
 ·subst hnk
  have h1 : ((n : Int) != (n : Int)) = false := by simp
  go_enter Try.func77, Try.ntmps77
  go_wp2
  go_loopw [13] (fun i wx => ∃ j : Nat, j ≤ n ∧ i = .int .i64 j ∧ Hid (∀ i, i < j → rowAt l1 i = rowAt l2 i) ∧ Below w.heap.size w wx) (fun i _ => n - (intOf i).toNat)
  case atStart => exact ⟨0, Nat.zero_le _, rfl, Lib.hid (fun i hi => absurd hi (Nat.not_lt_zero _)), Below.refl _ _⟩
  case round =>
   obtain ⟨j, hj, rfl, HS, hbl⟩ := hrel
   have BB := Lib.hid hbl
   clear hbl
   by_cases hlt : j < n
   ·obtain ⟨x, hx⟩ : ∃ x, x = rowAt l1 j := ⟨_, rfl⟩
    obtain ⟨y, hy⟩ : ∃ y, y = rowAt l2 j := ⟨_, rfl⟩
    have hx8 : x.length = 8 := by rw [hx]; exact R1.out.at (j := j) (by rw [HL.out]; exact hlt)
    have hy8 : y.length = 8 := by rw [hy]; exact R2.out.at (j := j) (by rw [HL2.out]; exact hlt)
    have ha2 : a = some ⟨ba, oa, none⟩ := HA.out.resolve_left (by omega)
    have hb2 : b = some ⟨bb, ob, none⟩ := HB.out.resolve_left (by omega)
    subst ha2
    subst hb2
    have CX : Cells8 wr ba (oa + j * 8) x := fun i hi => by rw [hx]; exact (BB.out.cell (World.block_lt_of_cell? _ _ (HCA.out j hlt i hi))).trans (HCA.out j hlt i hi)
    have CY : Cells8 wr bb (ob + j * 8) y := fun i hi => by rw [hy]; exact (BB.out.cell (World.block_lt_of_cell? _ _ (HCB.out j hlt i hi))).trans (HCB.out j hlt i hi)
    obtain ⟨c0, c1, c2, c3, c4, c5, c6, c7⟩ := CX.flat
    obtain ⟨d0, d1, d2, d3, d4, d5, d6, d7⟩ := CY.flat
    clear CX CY
    have hjI : (j : Int) < (n : Int) := by omega
    have HX := Lib.hid hx
    have HY := Lib.hid hy
    clear hx hy
    have heq := fun W => equal8 x y hx8 hy8 W
    by_cases hxy : x = y
    ·rw [decide_eq_true hxy] at heq
     have HXY := Lib.hid hxy
     clear hxy hx8 hy8
     go_wp2
     go_quiet (fail)
     go_wp2
     go_roundw
     case measure => simp [intOf]; omega
     case rel =>
      refine ⟨j + 1, by omega, by go_num, Lib.hid fun i hi => ?_, below_drewN BB.out _⟩
      by_cases hij : i = j
      ·rw [hij, ← HX.out, ← HY.out]; exact HXY.out
      ·exact HS.out i (by omega)
    ·rw [decide_eq_false hxy] at heq
     have E : Hid (fb = false) := Lib.hid (HM.out.symm.trans <| decide_eq_false (fun h => hxy (by rw [HX.out, HY.out, h])))
     clear hxy hx8 hy8
     go_wp2
     go_quiet (fail)
     go_wp2
     go_ret
     exact ⟨ret_bool E.out.symm, below_drewN BB.out _⟩
   ·have hjn : j = n := by omega
    have E : Hid (fb = true) := Lib.hid (HM.out.symm.trans <| decide_eq_true (rows_ext (by rw [HL.out, HL2.out]) (fun i hi => HS.out i (by rw [HL.out] at hi; omega))))
    clear hjn
    go_wp2
    go_ret
    exact ⟨ret_bool E.out.symm, BB.out⟩
 ·have h1 : ((n : Int) != (k : Int)) = true := by simp; omega
  have E : Hid (fb = false) := Lib.hid (HM.out.symm.trans <| decide_eq_false (fun h => hnk (by rw [← HL.out, ← HL2.out, h])))
  clear hnk
  go_enter Try.func77, Try.ntmps77
  go_wp2
  go_ret
  exact ⟨ret_bool E.out.symm, Below.refl _ _⟩

set_option maxRecDepth 100000 in
set_option maxHeartbeats 4000000 in
theorem equals_any (s p t q : Int) (a b : Option Addr) (n k ca cb : Nat) (l1 l2 : List (List Int)) (w : World) (ha : ReadsA w a n l1) (hb : ReadsA w b k l2) (hn : n ≤ 100000) (fb : Bool) (hM : decide (s = t ∧ p = q ∧ l1 = l2) = fb) :
  Calls Try.prog 47 #[.agg #[.int .i64 s, .int .i64 p, .slice a n ca], .agg #[.int .i64 t, .int .i64 q, .slice b k cb]] w fun e w' => e = .returned (.bool fb) ∧ Below w.heap.size w w' := by
 have HM := Lib.hid hM
 clear hM
 have HA := Lib.hid ha
 have HB := Lib.hid hb
 clear ha hb
 by_cases h1 : s = t
 ·by_cases h2 : p = q
  ·subst h1
   subst h2
   have t1 : (s == s) = true := by simp
   have t2 : (p == p) = true := by simp
   have E : Hid (decide (l1 = l2) = fb) := Lib.hid (by rw [← HM.out]; simp)
   go_enter Try.func47, Try.ntmps47
   go_wp2_with (go_at_call 77; refine (slicesEqualS_any _ _ _ _ _ _ l1 l2 _ ((HA.out.alloc _).alloc _) ((HB.out.alloc _).alloc _) hn fb E.out).mono ?_; rintro e w1 ⟨rfl, hb1⟩)
   go_ret
   exact ⟨rfl, below_go (below2 w _ _) hb1 (below2 w _ _).size⟩
  ·subst h1
   have t1 : (s == s) = true := by simp
   have t2 : (p == q) = false := by simp [h2]
   have E : Hid (fb = false) := Lib.hid (by rw [← HM.out]; simp [h2])
   clear h2
   go_enter Try.func47, Try.ntmps47
   go_wp2
   go_ret
   exact ⟨ret_bool E.out.symm, below2 w _ _⟩
 ·have t1 : (s == t) = false := by simp [h1]
  have E : Hid (fb = false) := Lib.hid (by rw [← HM.out]; simp [h1])
  clear h1
  go_enter Try.func47, Try.ntmps47
  go_wp2
  go_ret
  exact ⟨ret_bool E.out.symm, below2 w _ _⟩

set_option maxRecDepth 100000 in
set_option maxHeartbeats 4000000 in
theorem l03Like_any (s p t q : Int) (a b : Option Addr) (n k ca cb : Nat) (l1 l2 : List (List Int)) (w : World) (ha : ReadsA w a n l1) (hb : ReadsA w b k l2) (hn : n ≤ 100000) (fb : Bool) (hM : decide (s = t ∧ p = q ∧ l1 = l2) = fb) :
  Calls Try.prog 71 #[.agg #[.int .i64 s, .int .i64 p, .slice a n ca], .agg #[.int .i64 t, .int .i64 q, .slice b k cb]] w fun e w' => e = .returned (.bool fb) ∧ Below w.heap.size w w' := by
 have HM := Lib.hid hM
 clear hM
 have HL := Lib.hid ha.len
 have HL2 := Lib.hid hb.len
 have R1 := Lib.hid ha.rows
 have R2 := Lib.hid hb.rows
 obtain ⟨ba, oa, hba, hca⟩ := readsA_cells ha
 obtain ⟨bb, ob, hbb, hcb⟩ := readsA_cells hb
 have HA := Lib.hid hba
 have HB := Lib.hid hbb
 have HCA := Lib.hid hca
 have HCB := Lib.hid hcb
 clear hba hbb hca hcb ha hb
 by_cases h1 : s = t
 ·by_cases h2 : p = q
  ·by_cases h3 : n = k
   ·subst h1
    subst h2
    subst h3
    have t1 : (s != s) = false := by simp
    have t2 : (p != p) = false := by simp
    have t3 : ((n : Int) != (n : Int)) = false := by simp
    have K1 := Lib.hid ((At3.place w (.int .i64 s) (.int .i64 p) (.slice a n ca) 28 w.heap.size rfl).alloc (.cells #[.int .i64 s, .int .i64 p, .slice b n cb] 28))
    have K2 := Lib.hid (At3.place (w.alloc (.cells #[.int .i64 s, .int .i64 p, .slice a n ca] 28)) (.int .i64 s) (.int .i64 p) (.slice b n cb) 28 (w.heap.size + 1) (by simp))
    go_enter Try.func71, Try.ntmps71
    go_wp2
    go_loopw [5] (fun i wx => ∃ j : Nat, j ≤ n ∧ i = .int .i64 j ∧ Hid (∀ i, i < j → rowAt l1 i = rowAt l2 i) ∧ At3 wx w.heap.size (.int .i64 s) (.int .i64 p) (.slice a n ca) ∧ At3 wx (w.heap.size + 1) (.int .i64 s) (.int .i64 p) (.slice b n cb) ∧ Below w.heap.size w wx) (fun i _ => n - (intOf i).toNat)
    case atStart => exact ⟨0, Nat.zero_le _, rfl, Lib.hid (fun i hi => absurd hi (Nat.not_lt_zero _)), K1.out, K2.out, below2 w _ _⟩
    case round =>
     obtain ⟨j, hj, rfl, HS, hk1, hk2, hbl⟩ := hrel
     have BB := Lib.hid hbl
     clear hbl K1 K2
     have K1 := Lib.hid hk1
     have K2 := Lib.hid hk2
     clear hk1 hk2
     obtain ⟨⟨u1, u2, u3⟩, ⟨v1, v2, v3⟩⟩ := (⟨K1.out.cells, K2.out.cells⟩ : _ ∧ _)
     by_cases hlt : j < n
     ·obtain ⟨x, hx⟩ : ∃ x, x = rowAt l1 j := ⟨_, rfl⟩
      obtain ⟨y, hy⟩ : ∃ y, y = rowAt l2 j := ⟨_, rfl⟩
      have hx8 : x.length = 8 := by rw [hx]; exact R1.out.at (j := j) (by rw [HL.out]; exact hlt)
      have hy8 : y.length = 8 := by rw [hy]; exact R2.out.at (j := j) (by rw [HL2.out]; exact hlt)
      have ha2 : a = some ⟨ba, oa, none⟩ := HA.out.resolve_left (by omega)
      have hb2 : b = some ⟨bb, ob, none⟩ := HB.out.resolve_left (by omega)
      subst ha2
      subst hb2
      have CX : Cells8 wr ba (oa + j * 8) x := fun i hi => by rw [hx]; exact (BB.out.cell (World.block_lt_of_cell? _ _ (HCA.out j hlt i hi))).trans (HCA.out j hlt i hi)
      have CY : Cells8 wr bb (ob + j * 8) y := fun i hi => by rw [hy]; exact (BB.out.cell (World.block_lt_of_cell? _ _ (HCB.out j hlt i hi))).trans (HCB.out j hlt i hi)
      obtain ⟨c0, c1, c2, c3, c4, c5, c6, c7⟩ := CX.flat
      obtain ⟨d0, d1, d2, d3, d4, d5, d6, d7⟩ := CY.flat
      clear CX CY
      have hjI : (j : Int) < (n : Int) := by omega
      have HX := Lib.hid hx
      have HY := Lib.hid hy
      clear hx hy
      have heq := fun W => equal8 x y hx8 hy8 W
      by_cases hxy : x = y
      ·rw [decide_eq_true hxy] at heq
       have HXY := Lib.hid hxy
       clear hxy hx8 hy8
       go_wp2
       go_quiet (fail)
       go_wp2
       go_roundw
       case measure => simp [intOf]; omega
       case rel =>
        refine ⟨j + 1, by omega, by go_num, Lib.hid fun i hi => ?_, K1.out.drewN _, K2.out.drewN _, below_drewN BB.out _⟩
        by_cases hij : i = j
        ·rw [hij, ← HX.out, ← HY.out]; exact HXY.out
        ·exact HS.out i (by omega)
      ·rw [decide_eq_false hxy] at heq
       have E : Hid (fb = false) := Lib.hid (HM.out.symm.trans <| decide_eq_false (fun h => hxy (by rw [HX.out, HY.out, h.2.2])))
       clear hxy hx8 hy8
       go_wp2
       go_quiet (fail)
       go_wp2
       go_ret
       exact ⟨ret_bool E.out.symm, below_drewN BB.out _⟩
     ·have hjn : j = n := by omega
      have E : Hid (fb = true) := Lib.hid (HM.out.symm.trans <| decide_eq_true (by have hx := rows_ext (rs := l1) (ts := l2) (by rw [HL.out, HL2.out]) (fun i hi => HS.out i (by rw [HL.out] at hi; omega)); first | exact ⟨rfl, rfl, hx⟩ | exact ⟨trivial, trivial, hx⟩))
      clear hjn
      go_wp2
      go_ret
      exact ⟨ret_bool E.out.symm, BB.out⟩
   ·subst h1
    subst h2
    have t1 : (s != s) = false := by simp
    have t2 : (p != p) = false := by simp
    have t3 : ((n : Int) != (k : Int)) = true := by simp; omega
    have E : Hid (fb = false) := Lib.hid (HM.out.symm.trans <| decide_eq_false (fun h => h3 (by rw [← HL.out, ← HL2.out, h.2.2])))
    clear h3
    go_enter Try.func71, Try.ntmps71
    go_wp2
    go_ret
    exact ⟨ret_bool E.out.symm, below2 w _ _⟩
  ·subst h1
   have t1 : (s != s) = false := by simp
   have t2 : (p != q) = true := by simp [h2]
   have E : Hid (fb = false) := Lib.hid (by rw [← HM.out]; simp [h2])
   clear h2
   go_enter Try.func71, Try.ntmps71
   go_wp2
   go_ret
   exact ⟨ret_bool E.out.symm, below2 w _ _⟩
 ·have t1 : (s != t) = true := by simp [h1]
  have E : Hid (fb = false) := Lib.hid (by rw [← HM.out]; simp [h1])
  clear h1
  go_enter Try.func71, Try.ntmps71
  go_wp2
  go_ret
  exact ⟨ret_bool E.out.symm, below2 w _ _⟩

end Go.Proofs.Yteffndmifogicaa

