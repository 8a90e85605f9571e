/- The program: the meet of two parts. -/
import Derived.Test.YtlgipimjhfmilaaPIRow
import Derived.Test.YtlgipimjhfmilaaQB
import Derived.Test.YtlgipimjhfmilaaPtT
import Derived.Test.YtlgipimjhfmilaaPSLst
import Derived.Deep.DeepCutAuto
namespace Go.Proofs.Ytlgipimjhfmilaa
open Go.RowKit Go.ChangeShapes

/-- On the way from x neither x nor y has come yet. -/
structure Seek (q : List Int) (x y j : Nat) : Prop where
  one : 1 ≤ j
  new : ∀ i, 1 ≤ i → i < j → itN (nx q) i x ≠ x ∧ itN (nx q) i x ≠ y

theorem Seek.le {q : List Int} {n x y j : Nat} (g : Seek q x y j) (h : Sim n q) (hx : x < n) : j ≤ n := by
  obtain ⟨d, h1, h2, h3, _⟩ := h.prm.period x hx
  by_cases e : j ≤ d
  · omega
  · exact absurd h3 (g.new d h1 (by omega)).1

theorem Seek.ends {q : List Int} {n x y j : Nat} (g : Seek q x y j) (h : Sim n q) (hx : x < n) (hy : y < n) (he : itN (nx q) j x = x ∨ itN (nx q) j x = y) :
    (itN (nx q) j x = y) ↔ lstN n q y = lstN n q x := by
  constructor
  · intro e
    rw [← e]
    exact h.prm.cmin_it x hx j
  · intro e
    rcases he with he | he
    · have := (h.prm.orb_all x j y hx hy g.one he).2 e
      obtain ⟨i, hi, e2⟩ := (orbN_iff _ _ _ _).1 this
      by_cases h0 : i = 0
      · subst h0
        rw [he, ← e2]
        rfl
      · exact absurd e2 (g.new i (by omega) hi).2
    · exact he

set_option maxRecDepth 100000 in
set_option maxHeartbeats 1000000 in
theorem pHas_any (n x y : Nat) (q : List Int) (hq : Sim n q) (hx : x < n) (hy : y < n) (w : World) :
    Calls Try.prog 85 #[arr8 .u8 q, .int .u8 x, .int .u8 y] w fun e w' => e = .returned (.bool (decide (lstN n q y = lstN n q x))) ∧ Below w.heap.size w w' := by
  have h8 := hq.hi
  have lq := hq.len
  have HQ := Lib.hid hq
  clear hq
  go_enter Try.func85, Try.ntmps85
  have RA := Lib.hid (Row8.place w .u8 q 59 w.heap.size rfl lq)
  have BB := Lib.hid (below1 w (.cells #[.int .u8 (at8 q 0), .int .u8 (at8 q 1), .int .u8 (at8 q 2), .int .u8 (at8 q 3), .int .u8 (at8 q 4), .int .u8 (at8 q 5), .int .u8 (at8 q 6), .int .u8 (at8 q 7)] 59))
  clear lq
  obtain ⟨W, hW⟩ : ∃ W, W = w.alloc (.cells #[.int .u8 (at8 q 0), .int .u8 (at8 q 1), .int .u8 (at8 q 2), .int .u8 (at8 q 3), .int .u8 (at8 q 4), .int .u8 (at8 q 5), .int .u8 (at8 q 6), .int .u8 (at8 q 7)] 59) := ⟨_, rfl⟩
  have c1 := RA.out.cell x (by omega)
  rw [HQ.out.nx x] at c1
  go_upto_region 1 with fail
  rw [← hW] at RA BB c1 ⊢
  clear hW
  go_wp2
  clear c1
  go_loopg [7] (n + 1) (fun g v wx => ∃ j : Nat, g + j = n + 2 ∧ v = .int .u8 (itN (nx q) j x : Nat) ∧ Seek q x y j ∧ wx = W)
  case atStart => exact ⟨1, rfl, rfl, ⟨Nat.le_refl _, fun i h1 h2 => by omega⟩, rfl⟩
  case round =>
    obtain ⟨j, hgj, rfl, hs, rfl⟩ := hrel
    have hin := HQ.out.prm.it j x hx
    obtain ⟨v, hv⟩ : ∃ v, v = itN (nx q) j x := ⟨_, rfl⟩
    rw [← hv] at hin ⊢
    have HV := Lib.hid hv
    have HS := Lib.hid hs
    clear hv hs
    by_cases e1 : v = x
    · have HE : Hid (decide (v = y) = decide (lstN n q y = lstN n q x)) := Lib.hid (decide_eq_decide.2 (by
        have := HS.out.ends HQ.out hx hy (.inl (by rw [← HV.out, e1]))
        rwa [← HV.out] at this))
      have t1 : ((v : Int) != (x : Int)) = false := by simp [e1]
      obtain ⟨r, hr⟩ : ∃ r, r = ((v : Int) == (y : Int)) := ⟨_, rfl⟩
      have HR : Hid (r = decide (lstN n q y = lstN n q x)) := Lib.hid (by
        rw [← HE.out, hr, Bool.eq_iff_iff, beq_iff_eq, decide_eq_true_eq]
        omega)
      have t2 := hr.symm
      clear hr e1
      go_wp2
      go_ret
      exact ⟨ret_bool HR.out, BB.out⟩
    · have t1 : ((v : Int) != (x : Int)) = true := by rw [bne_iff_ne]; omega
      by_cases e2 : v = y
      · have HE : Hid (decide (lstN n q y = lstN n q x) = true) := Lib.hid (decide_eq_true (by
          have := HS.out.ends HQ.out hx hy (.inr (by rw [← HV.out, e2]))
          rw [← HV.out] at this
          exact this.1 e2))
        have t2 : ((v : Int) != (y : Int)) = false := by simp [e2]
        have t3 : ((v : Int) == (y : Int)) = true := by simp [e2]
        clear e1 e2
        go_wp2
        go_ret
        exact ⟨ret_bool HE.out.symm, BB.out⟩
      · have t2 : ((v : Int) != (y : Int)) = true := by rw [bne_iff_ne]; omega
        have HS2 : Hid (Seek q x y (j + 1)) := Lib.hid ⟨by omega, fun i h1 h2 => by
          by_cases e : i = j
          · subst e
            rw [← HV.out]
            exact ⟨e1, e2⟩
          · exact HS.out.new i h1 (by omega)⟩
        have hle := HS2.out.le HQ.out hx
        have c1 := RA.out.cell v (by omega)
        rw [HQ.out.nx v] at c1
        clear e1 e2
        go_wp2
        go_roundg (gk - 1)
        case measure => omega
        case rel => exact ⟨j + 1, by omega, by rw [show itN (nx q) (j + 1) x = nx q (itN (nx q) j x) from rfl, ← HV.out], HS2.out, rfl⟩

theorem enter_meet1 (args : Array Value) (W : World) : Sem.run Try.prog (callFunc 84 args) W = .ok (.enter 84 args) W := by kernel_rfl

set_option maxRecDepth 100000 in
set_option maxHeartbeats 1000000 in
theorem meet1_any (n x ga gb : Nat) (p q : List Int) (hp : Sim n p) (hq : Sim n q) (hasc : ∀ x, x < n → mdN (lstN n p) n x = nx p x) (hx : x < n) (W : World) (hra : Row8 W ga .u8 p) (hrb : Row8 W gb .u8 q) :
    Calls Try.prog 84 #[.int .u8 x, .pointer (some ⟨ga, 0, none⟩), .pointer (some ⟨gb, 0, none⟩)] W fun e w' => e = .returned (.int .u8 (at8 (meetP n p q) x)) ∧ Below W.heap.size W w' := by
  have h8 := hp.hi
  have HP := Lib.hid hp
  have HQ := Lib.hid hq
  have HA := Lib.hid hasc
  have RA := Lib.hid hra
  have RB := Lib.hid hrb
  clear hp hq hasc hra hrb
  have c1 := RA.out.cell x (by omega)
  rw [HP.out.nx x] at c1
  go_enter Try.func84, Try.ntmps84
  go_wp2
  clear c1
  have BB := Lib.hid (Below.refl W.heap.size W)
  go_loopg [5] (n + 1) (fun g v wx => ∃ j : Nat, g + j = n + 2 ∧ v = .int .u8 (itN (nx p) j x : Nat) ∧ Goes p q n x j ∧ Row8 wx ga .u8 p ∧ Row8 wx gb .u8 q ∧ Below W.heap.size W wx)
  case atStart => exact ⟨1, rfl, rfl, ⟨Nat.le_refl _, fun i h1 h2 => by omega⟩, RA.out, RB.out, BB.out⟩
  case round =>
    obtain ⟨j, hgj, rfl, hg, hRA, hRB, hBB⟩ := hrel
    clear RA RB BB
    have RA := Lib.hid hRA
    have RB := Lib.hid hRB
    have BB := Lib.hid hBB
    clear hRA hRB hBB
    have hin := HP.out.prm.it j x hx
    obtain ⟨v, hv⟩ : ∃ v, v = itN (nx p) j x := ⟨_, rfl⟩
    rw [← hv] at hin ⊢
    have HV := Lib.hid hv
    have HG := Lib.hid hg
    clear hv hg
    obtain ⟨⟨q0, q1, q2, q3⟩, q4, q5, q6, q7⟩ := RB.out.all
    go_wp2_with fail
    refine (pHas_any n x v q HQ.out hx hin _).mono ?_
    rintro e w2 ⟨rfl, hb⟩
    clear q0 q1 q2 q3 q4 q5 q6 q7
    replace RA := Lib.hid (RA.out.below hb)
    replace RB := Lib.hid (RB.out.below hb)
    replace BB := Lib.hid (below_go BB.out hb BB.out.size)
    clear hb
    by_cases e1 : lstN n q v = lstN n q x
    · have HE : Hid (at8 (meetP n p q) x = (v : Nat)) := Lib.hid (by
        have := HG.out.ends HP.out HA.out hx (by rw [← HV.out]; exact e1)
        rwa [← HV.out] at this)
      rw [decide_eq_true e1]
      clear e1
      go_wp2
      go_ret
      exact ⟨ret_int HE.out.symm, BB.out⟩
    · rw [decide_eq_false e1]
      have HG2 : Hid (Goes p q n x (j + 1)) := Lib.hid ⟨by omega, fun i h1 h2 => by
        by_cases e : i = j
        · subst e
          rw [← HV.out]
          exact e1
        · exact HG.out.new i h1 (by omega)⟩
      have hle := HG2.out.le HP.out hx
      have c1 := RA.out.cell v (by omega)
      rw [HP.out.nx v] at c1
      clear e1
      go_wp2
      go_roundg (gk - 1)
      case measure => omega
      case rel => exact ⟨j + 1, by omega, by rw [show itN (nx p) (j + 1) x = nx p (itN (nx p) j x) from rfl, ← HV.out], HG2.out, RA.out, RB.out, BB.out⟩

end Go.Proofs.Ytlgipimjhfmilaa
