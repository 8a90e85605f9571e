/- The program: is it a normal form? Continued. -/
import Derived.Test.YtpkhddndapcpjaaSmINorm
import Derived.Test.YtpkhddndapcpjaaSmBB
import Derived.Deep.RegionHeld3
import Derived.Deep.LoopGhost
import Derived.Deep.DeepCutAuto
import Derived.IntWalk
namespace Go.Proofs.Ytpkhddndapcpjaa
open Go.RowKit Go.ChangeShapes

theorem At3.cell2 {w : World} {g : Nat} {u v x : Value} (h : At3 w g u v x) : w.cell? ⟨g, 2, none⟩ = some x := h.2.1.2.2

/-- Where the program's loop over the factors has come to. -/
structure AtFac (w wr : World) (m : Nat) (p : Int) (a : Option Addr) (n cap : Nat) : Prop where
 box : At3 wr w.heap.size (.int .i64 m) (.int .i64 p) (.slice a n cap)
 bel : Below w.heap.size w wr

theorem AtFac.below {w wr W : World} {m : Nat} {p : Int} {a : Option Addr} {n cap : Nat} (h : AtFac w wr m p a n cap) (hb : Below wr.heap.size wr W) : AtFac w W m p a n cap := ⟨h.box.below hb, below_go h.bel hb h.bel.size⟩
theorem AtFac.alloc {w wr : World} {m : Nat} {p : Int} {a : Option Addr} {n cap : Nat} (h : AtFac w wr m p a n cap) (o : Obj) : AtFac w (wr.alloc o) m p a n cap := h.below ((Below.refl _ _).alloc (Nat.le_refl _) o)
theorem AtFac.drew {w wr : World} {m : Nat} {p : Int} {a : Option Addr} {n cap : Nat} (h : AtFac w wr m p a n cap) : AtFac w wr.drew m p a n cap := h.below (Below.refl _ _).drew

set_option maxRecDepth 100000 in
set_option maxHeartbeats 4000000 in
theorem implIsNormal_any (s p : Int) (a : Option Addr) (n cap : Nat) (rs : List (List Int)) (w : World) (hr : ReadsA w a n rs) (hn : n ≤ 1048576) :
  Calls Try.prog 26 #[.agg #[.int .i64 s, .int .i64 p, .slice a n cap]] w fun e w' => e = .returned (.bool (normB s p rs)) ∧ Below w.heap.size w w' := by
 have HL := Lib.hid hr.len
 have H8 := Lib.hid hr.rows
 have R := Lib.hid hr; clear hr
 by_cases g1 : 1 ≤ s
 ·by_cases g2 : s ≤ 8
  ·by_cases g3 : limB p n = true
   ·by_cases g4 : s = 1 ∧ p ≠ 0
    ·have HE : Hid (normB s p rs = false) := Lib.hid (normB_head fun h => by omega)
     obtain ⟨g5, g6⟩ := g4
     have t4 : (s == 1) = true := by rw [beq_iff_eq]; exact g5
     have t5 : (p != 0) = true := by rw [bne_iff_ne]; exact g6
     clear g5 g6
     go_enter Try.func26, Try.ntmps26
     have A := Lib.hid (At3.place w (.int .i64 s) (.int .i64 p) (.slice a n cap) 28 w.heap.size rfl)
     have BB := Lib.hid (below1 w (.cells #[.int .i64 s, .int .i64 p, .slice a n cap] 28))
     go_wp2_with fail
     refine (within_any s p a n cap _ (by unfold maxLen; omega)).mono ?_
     rw [g3]
     rintro e w2 ⟨rfl, hb⟩
     replace A := Lib.hid (A.out.below hb)
     replace BB := Lib.hid (below_go BB.out hb BB.out.size)
     clear hb
     obtain ⟨za, ⟨q0, q1, q2⟩, _, _, _⟩ := A.out
     go_wp2
     go_ret
     exact ⟨ret_bool HE.out.symm, BB.out⟩
    ·have HOK : Hid (1 ≤ s ∧ s ≤ 8 ∧ limB p rs.length = true ∧ (2 ≤ s ∨ p = 0)) := Lib.hid ⟨g1, g2, by rw [HL.out]; exact g3, by omega⟩
     obtain ⟨m, hm⟩ : ∃ m : Nat, s = m := ⟨s.toNat, by omega⟩
     subst hm
     have m1 : 1 ≤ m := by omega
     have m8 : m ≤ 8 := by omega
     have n2 : n ≤ 200 := by unfold limB at g3; simp at g3; exact g3.2
     have HT : Hid (((m : Int) == 1) = false ∨ ((m : Int) == 1) = true ∧ (p != 0) = false) := Lib.hid (by
      by_cases hm1 : m = 1
      ·right; exact ⟨by rw [beq_iff_eq]; omega, by simp; omega⟩
      ·left; rw [beq_eq_false_iff_ne]; omega)
     clear g1 g2 g4
     go_enter Try.func26, Try.ntmps26
     have A := Lib.hid (At3.place w (.int .i64 m) (.int .i64 p) (.slice a n cap) 28 w.heap.size rfl)
     have BB := Lib.hid (below1 w (.cells #[.int .i64 m, .int .i64 p, .slice a n cap] 28))
     rcases HT.out with t4 | ⟨t4, t5⟩
     all_goals
      go_wp2_with fail
      refine (within_any m p a n cap _ (by unfold maxLen; omega)).mono ?_
      rw [g3]
      rintro e w2 ⟨rfl, hb⟩
      have F := Lib.hid ((AtFac.mk A.out BB.out).below hb)
      clear hb A BB
      obtain ⟨za, ⟨q0, q1, q2⟩, _, _, _⟩ := F.out.box
      go_wp2
      clear q0 q1 q2 za t4
      go_loopg [31] n (fun g i wr => ∃ k : Nat, k ≤ n ∧ g + k = n ∧ i = .int .i64 k ∧ (∀ j, j < k → okFac m rs j = true) ∧ AtFac w wr m p a n cap)
      case atStart => exact ⟨0, Nat.zero_le _, rfl, rfl, fun j hj => absurd hj (Nat.not_lt_zero _), F.out⟩
      case round =>
       obtain ⟨k, hk, hgk, rfl, hin, hF⟩ := hrel
       clear F
       have HIN := Lib.hid hin
       have F := Lib.hid hF
       clear hin hF
       by_cases hlt : k < n
       ·obtain ⟨b, off, rfl, hbl, hcl⟩ := R.out.cells (Nat.lt_of_le_of_lt (Nat.zero_le _) hlt)
        have HC : Hid (∀ W, Below w.heap.size w W → ∀ j, j < n → Cells8 W b (off + j * 8) (rowAt rs j)) := Lib.hid fun W h j hj i hi => (h.cell (by exact hbl)).trans (hcl j hj i hi)
        clear hbl hcl
        have hC := HC.out wr F.out.bel k hlt
        have HR8 := Lib.hid (H8.out.at (j := k) (by rw [HL.out]; exact hlt))
        obtain ⟨row, hrow⟩ : ∃ row, row = rowAt rs k := ⟨_, rfl⟩
        rw [← hrow] at hC HR8
        have HROW := Lib.hid hrow
        clear hrow
        obtain ⟨c0, c1, c2, c3, c4, c5, c6, c7⟩ := hC.flat
        clear hC
        have zb := F.out.bel.size
        have RI := Lib.hid (Row8.place wr .u8 row 53 wr.heap.size rfl HR8.out)
        replace F := Lib.hid (F.out.alloc (.cells #[.int .u8 (at8 row 0), .int .u8 (at8 row 1), .int .u8 (at8 row 2), .int .u8 (at8 row 3), .int .u8 (at8 row 4), .int .u8 (at8 row 5), .int .u8 (at8 row 6), .int .u8 (at8 row 7)] 53))
        go_upto_region 7 with fail
        obtain ⟨W, hW⟩ : ∃ W, W = wr.alloc (.cells #[.int .u8 (at8 row 0), .int .u8 (at8 row 1), .int .u8 (at8 row 2), .int .u8 (at8 row 3), .int .u8 (at8 row 4), .int .u8 (at8 row 5), .int .u8 (at8 row 6), .int .u8 (at8 row 7)] 53) := ⟨_, rfl⟩
        have ro := RI.out
        have ff := F.out
        rw [← hW] at ro ff ⊢
        clear RI F hW c0 c1 c2 c3 c4 c5 c6 c7
        obtain ⟨g5, hg5⟩ : ∃ g5, g5 = wr.heap.size := ⟨_, rfl⟩
        rw [← hg5] at ro zb ⊢
        clear hg5
        have RI := Lib.hid ro
        have F := Lib.hid ff
        clear ro ff
        obtain ⟨q, hq⟩ : ∃ q, q = (!simB m row || (decide (row = sameR m) || decide (row = halfR m))) := ⟨_, rfl⟩
        have HQ := Lib.hid hq
        clear hq
        go_cut [51] (fun s51 wx => s51 = .bool q ∧ Row8 wx g5 .u8 row ∧ AtFac w wx m p (some ⟨b, off, none⟩) n cap)
        case first =>
         replace RI := Lib.hid RI.out.drew
         replace F := Lib.hid F.out.drew
         by_cases hsb : simB m row = true
         ·by_cases h2 : row = sameR m
          ·have heq1 : ∀ W, Sem.run Try.prog (Op.equalIn 10000 53 (arr8 .u8 row) (arr8 .u8 (sameR m))) W = .ok true W := fun W => by rw [equal8 row (sameR m) HR8.out (mapR_len _ _ m8) W, decide_eq_true h2]
           have HV : Hid (q = true) := Lib.hid (by rw [HQ.out, hsb, decide_eq_true h2]; rfl)
           clear h2
           refine wp_region_held_drew (S := (fun w' => w'.cell? ⟨g5, 0, none⟩ = some (.int .u8 (at8 row 0)) ∧ w'.cell? ⟨g5, 1, none⟩ = some (.int .u8 (at8 row 1)) ∧ w'.cell? ⟨g5, 2, none⟩ = some (.int .u8 (at8 row 2)) ∧ w'.cell? ⟨g5, 3, none⟩ = some (.int .u8 (at8 row 3)) ∧ w'.cell? ⟨g5, 4, none⟩ = some (.int .u8 (at8 row 4)) ∧ w'.cell? ⟨g5, 5, none⟩ = some (.int .u8 (at8 row 5)) ∧ w'.cell? ⟨g5, 6, none⟩ = some (.int .u8 (at8 row 6)) ∧ w'.cell? ⟨g5, 7, none⟩ = some (.int .u8 (at8 row 7)))) (by kernel_rfl) ?_ (fun hHeld => ?_)
           ·with_reducible exact RI.out.flat
           refine wpAnyH_take (i := 0) (oi := { dst := some 36, op := Op.load 53 (Operand.tmp 5), type := 53, pos := "l03_normal.go:210", after := #[], guard := none }) (v := ?_) rfl (by kernel_rfl) (by kernel_rfl) (by kernel_rfl) (fun _ _ _ h => h) (Or.inl ⟨by rfl, ?_⟩) (by assumption) ?_
           rotate_left
           ·intro w hSw
            (try dsimp only at hSw)
            go_simp
            try with_reducible rfl
           try simp only [Act.put, List.setIfInBounds_toArray, List.set_cons_zero, List.set_cons_succ]
           refine wpAnyH_take (i := 1) (oi := { dst := some 37, op := Op.move (Operand.tmp 3), type := 2, pos := "l03_normal.go:210", after := #[], guard := none }) (v := ?_) rfl (by kernel_rfl) (by kernel_rfl) (by kernel_rfl) (fun _ _ _ h => h) (Or.inl ⟨by rfl, ?_⟩) (by assumption) ?_
           rotate_left
           ·intro w hSw
            (try dsimp only at hSw)
            go_simp
            try with_reducible rfl
           try simp only [Act.put, List.setIfInBounds_toArray, List.set_cons_zero, List.set_cons_succ]
           refine wpAnyH_ready (rs := [2]) (by kernel_rfl) (by simp) ?_
           refine AllReadyH.cons (o := { dst := some 38, op := Op.call { callee := Callee.value (Operand.func 44), args := #[Operand.tmp 36, Operand.tmp 37], argTypes := #[53, 2] }, type := 4, pos := "l03_normal.go:210", after := #[{ on := 0, ground := Ground.data }, { on := 1, ground := Ground.data }], guard := none }) rfl (fun K hK => ?_) AllReadyH.nil
           go_simp
           (refine (isSimple_any m row HR8.out _).mono ?_; rw [hsb]; rintro e w3 ⟨rfl, gg⟩; replace RI := Lib.hid (RI.out.below gg); replace F := Lib.hid (F.out.below gg))
           go_wp2_with fail
           refine hK.out _ _ ?_ (fun hHeld => ?_)
           ·with_reducible exact RI.out.flat
           clear hK K
           try simp only [Act.put, List.setIfInBounds_toArray, List.set_cons_zero, List.set_cons_succ]
           refine wpAnyH_take (i := 3) (oi := { dst := some 39, op := Op.unOp UnOp.not 4 (Operand.tmp 38), type := 4, pos := "l03_normal.go:210", after := #[{ on := 2, ground := Ground.data }], guard := none }) (v := ?_) rfl (by kernel_rfl) (by kernel_rfl) (by kernel_rfl) (fun _ _ _ h => h) (Or.inl ⟨by rfl, ?_⟩) (by assumption) ?_
           rotate_left
           ·intro w hSw
            (try dsimp only at hSw)
            go_simp
            try with_reducible rfl
           try simp only [Act.put, List.setIfInBounds_toArray, List.set_cons_zero, List.set_cons_succ]
           refine wpAnyH_take (i := 4) (oi := { dst := some 40, op := Op.move (Operand.tmp 39), type := 4, pos := "l03_normal.go:210", after := #[{ on := 3, ground := Ground.data }, { on := 2, ground := Ground.chain }], guard := none }) (v := ?_) rfl (by kernel_rfl) (by kernel_rfl) (by kernel_rfl) (fun _ _ _ h => h) (Or.inl ⟨by rfl, ?_⟩) (by assumption) ?_
           rotate_left
           ·intro w hSw
            (try dsimp only at hSw)
            go_simp
            try with_reducible rfl
           try simp only [Act.put, List.setIfInBounds_toArray, List.set_cons_zero, List.set_cons_succ]
           refine wpAnyH_take (i := 5) (oi := { dst := some 41, op := Op.load 53 (Operand.tmp 5), type := 53, pos := "l03_normal.go:210", after := #[{ on := 4, ground := Ground.guard }], guard := some (4, false) }) (v := ?_) rfl (by kernel_rfl) (by kernel_rfl) (by kernel_rfl) (fun _ _ _ h => h) (Or.inl ⟨by rfl, ?_⟩) (by assumption) ?_
           rotate_left
           ·intro w hSw
            (try dsimp only at hSw)
            go_simp
            try with_reducible rfl
           try simp only [Act.put, List.setIfInBounds_toArray, List.set_cons_zero, List.set_cons_succ]
           refine wpAnyH_take (i := 6) (oi := { dst := some 42, op := Op.move (Operand.tmp 3), type := 2, pos := "l03_normal.go:210", after := #[{ on := 4, ground := Ground.guard }], guard := some (4, false) }) (v := ?_) rfl (by kernel_rfl) (by kernel_rfl) (by kernel_rfl) (fun _ _ _ h => h) (Or.inl ⟨by rfl, ?_⟩) (by assumption) ?_
           rotate_left
           ·intro w hSw
            (try dsimp only at hSw)
            go_simp
            try with_reducible rfl
           try simp only [Act.put, List.setIfInBounds_toArray, List.set_cons_zero, List.set_cons_succ]
           refine wpAnyH_ready (rs := [7]) (by kernel_rfl) (by simp) ?_
           refine AllReadyH.cons (o := { dst := some 43, op := Op.call { callee := Callee.value (Operand.func 45), args := #[Operand.tmp 42], argTypes := #[2] }, type := 53, pos := "l03_normal.go:210", after := #[{ on := 6, ground := Ground.data }, { on := 4, ground := Ground.chain }, { on := 4, ground := Ground.guard }], guard := some (4, false) }) rfl (fun K hK => ?_) AllReadyH.nil
           go_simp
           (refine (nothing_any m m8 _).mono ?_; rintro e w4 ⟨rfl, gg⟩; replace RI := Lib.hid (RI.out.below gg); replace F := Lib.hid (F.out.below gg))
           go_wp2_with fail
           refine hK.out _ _ ?_ (fun hHeld => ?_)
           ·with_reducible exact RI.out.flat
           clear hK K
           try simp only [Act.put, List.setIfInBounds_toArray, List.set_cons_zero, List.set_cons_succ]
           refine wpAnyH_take (i := 8) (oi := { dst := some 44, op := Op.binOp BinOp.eql 53 (Operand.tmp 41) (Operand.tmp 43) 53, type := 4, pos := "l03_normal.go:210", after := #[{ on := 5, ground := Ground.data }, { on := 7, ground := Ground.data }, { on := 4, ground := Ground.guard }], guard := some (4, false) }) (v := ?_) rfl (by kernel_rfl) (by kernel_rfl) (by kernel_rfl) (fun _ _ _ h => h) (Or.inl ⟨by rfl, ?_⟩) (by assumption) ?_
           rotate_left
           ·intro w hSw
            (try dsimp only at hSw)
            go_simp
            try with_reducible rfl
           try simp only [Act.put, List.setIfInBounds_toArray, List.set_cons_zero, List.set_cons_succ]
           refine wpAnyH_take (i := 9) (oi := { dst := some 45, op := Op.pick (Operand.tmp 40) (Operand.const (Value.bool true)) (Operand.tmp 44), type := 4, pos := "l03_normal.go:210", after := #[{ on := 4, ground := Ground.data }, { on := 8, ground := Ground.data }], guard := none }) (v := ?_) rfl (by kernel_rfl) (by kernel_rfl) (by kernel_rfl) (fun _ _ _ h => h) (Or.inl ⟨by rfl, ?_⟩) (by assumption) ?_
           rotate_left
           ·intro w hSw
            (try dsimp only at hSw)
            go_simp
            try with_reducible rfl
           try simp only [Act.put, List.setIfInBounds_toArray, List.set_cons_zero, List.set_cons_succ]
           refine wpAnyH_take (i := 10) (oi := { dst := some 46, op := Op.move (Operand.tmp 45), type := 4, pos := "l03_normal.go:210", after := #[{ on := 9, ground := Ground.data }, { on := 7, ground := Ground.chain }], guard := none }) (v := ?_) rfl (by kernel_rfl) (by kernel_rfl) (by kernel_rfl) (fun _ _ _ h => h) (Or.inl ⟨by rfl, ?_⟩) (by assumption) ?_
           rotate_left
           ·intro w hSw
            (try dsimp only at hSw)
            go_simp
            try with_reducible rfl
           try simp only [Act.put, List.setIfInBounds_toArray, List.set_cons_zero, List.set_cons_succ]
           refine wpAnyH_take (i := 11) (oi := { dst := some 47, op := Op.load 53 (Operand.tmp 5), type := 53, pos := "l03_normal.go:210", after := #[{ on := 10, ground := Ground.guard }], guard := some (10, false) }) (v := undef) rfl (by kernel_rfl) (by kernel_rfl) (by kernel_rfl) (fun _ _ _ h => h) (Or.inr ⟨by rfl, rfl⟩) (by assumption) ?_
           try simp only [Act.put, List.setIfInBounds_toArray, List.set_cons_zero, List.set_cons_succ]
           refine wpAnyH_take (i := 12) (oi := { dst := some 48, op := Op.move (Operand.tmp 3), type := 2, pos := "l03_normal.go:210", after := #[{ on := 10, ground := Ground.guard }], guard := some (10, false) }) (v := undef) rfl (by kernel_rfl) (by kernel_rfl) (by kernel_rfl) (fun _ _ _ h => h) (Or.inr ⟨by rfl, rfl⟩) (by assumption) ?_
           try simp only [Act.put, List.setIfInBounds_toArray, List.set_cons_zero, List.set_cons_succ]
           refine wpAnyH_ready (rs := [13]) (by kernel_rfl) (by simp) ?_
           refine AllReadyH.cons (o := { dst := some 49, op := Op.call { callee := Callee.value (Operand.func 46), args := #[Operand.tmp 48], argTypes := #[2] }, type := 53, pos := "l03_normal.go:210", after := #[{ on := 12, ground := Ground.data }, { on := 10, ground := Ground.chain }, { on := 10, ground := Ground.guard }], guard := some (10, false) }) rfl (fun K hK => ?_) AllReadyH.nil
           go_simp
           refine hK.out _ _ ?_ (fun hHeld => ?_)
           ·with_reducible exact RI.out.flat
           clear hK K
           try simp only [Act.put, List.setIfInBounds_toArray, List.set_cons_zero, List.set_cons_succ]
           refine wpAnyH_take (i := 14) (oi := { dst := some 50, op := Op.binOp BinOp.eql 53 (Operand.tmp 47) (Operand.tmp 49) 53, type := 4, pos := "l03_normal.go:210", after := #[{ on := 11, ground := Ground.data }, { on := 13, ground := Ground.data }, { on := 10, ground := Ground.guard }], guard := some (10, false) }) (v := undef) rfl (by kernel_rfl) (by kernel_rfl) (by kernel_rfl) (fun _ _ _ h => h) (Or.inr ⟨by rfl, rfl⟩) (by assumption) ?_
           try simp only [Act.put, List.setIfInBounds_toArray, List.set_cons_zero, List.set_cons_succ]
           refine wpAnyH_take (i := 15) (oi := { dst := some 51, op := Op.pick (Operand.tmp 46) (Operand.const (Value.bool true)) (Operand.tmp 50), type := 4, pos := "l03_normal.go:210", after := #[{ on := 10, ground := Ground.data }, { on := 14, ground := Ground.data }], guard := none }) (v := ?_) rfl (by kernel_rfl) (by kernel_rfl) (by kernel_rfl) (fun _ _ _ h => h) (Or.inl ⟨by rfl, ?_⟩) (by assumption) ?_
           rotate_left
           ·intro w hSw
            (try dsimp only at hSw)
            go_simp
            try with_reducible rfl
           try simp only [Act.put, List.setIfInBounds_toArray, List.set_cons_zero, List.set_cons_succ]
           refine wpAnyH_done (by kernel_rfl) ?_ _
           go_wp2_with fail
           go_meet
           exact ⟨by rw [HV.out], RI.out, F.out⟩
          ·have heq1 : ∀ W, Sem.run Try.prog (Op.equalIn 10000 53 (arr8 .u8 row) (arr8 .u8 (sameR m))) W = .ok false W := fun W => by rw [equal8 row (sameR m) HR8.out (mapR_len _ _ m8) W, decide_eq_false h2]
           by_cases h3 : row = halfR m
           ·have heq2 : ∀ W, Sem.run Try.prog (Op.equalIn 10000 53 (arr8 .u8 row) (arr8 .u8 (halfR m))) W = .ok true W := fun W => by rw [equal8 row (halfR m) HR8.out (mapR_len _ _ m8) W, decide_eq_true h3]
            have HV : Hid (q = true) := Lib.hid (by rw [HQ.out, hsb, decide_eq_false h2, decide_eq_true h3]; rfl)
            clear h2 h3
            refine wp_region_held_drew (S := (fun w' => w'.cell? ⟨g5, 0, none⟩ = some (.int .u8 (at8 row 0)) ∧ w'.cell? ⟨g5, 1, none⟩ = some (.int .u8 (at8 row 1)) ∧ w'.cell? ⟨g5, 2, none⟩ = some (.int .u8 (at8 row 2)) ∧ w'.cell? ⟨g5, 3, none⟩ = some (.int .u8 (at8 row 3)) ∧ w'.cell? ⟨g5, 4, none⟩ = some (.int .u8 (at8 row 4)) ∧ w'.cell? ⟨g5, 5, none⟩ = some (.int .u8 (at8 row 5)) ∧ w'.cell? ⟨g5, 6, none⟩ = some (.int .u8 (at8 row 6)) ∧ w'.cell? ⟨g5, 7, none⟩ = some (.int .u8 (at8 row 7)))) (by kernel_rfl) ?_ (fun hHeld => ?_)
            ·with_reducible exact RI.out.flat
            refine wpAnyH_take (i := 0) (oi := { dst := some 36, op := Op.load 53 (Operand.tmp 5), type := 53, pos := "l03_normal.go:210", after := #[], guard := none }) (v := ?_) rfl (by kernel_rfl) (by kernel_rfl) (by kernel_rfl) (fun _ _ _ h => h) (Or.inl ⟨by rfl, ?_⟩) (by assumption) ?_
            rotate_left
            ·intro w hSw
             (try dsimp only at hSw)
             go_simp
             try with_reducible rfl
            try simp only [Act.put, List.setIfInBounds_toArray, List.set_cons_zero, List.set_cons_succ]
            refine wpAnyH_take (i := 1) (oi := { dst := some 37, op := Op.move (Operand.tmp 3), type := 2, pos := "l03_normal.go:210", after := #[], guard := none }) (v := ?_) rfl (by kernel_rfl) (by kernel_rfl) (by kernel_rfl) (fun _ _ _ h => h) (Or.inl ⟨by rfl, ?_⟩) (by assumption) ?_
            rotate_left
            ·intro w hSw
             (try dsimp only at hSw)
             go_simp
             try with_reducible rfl
            try simp only [Act.put, List.setIfInBounds_toArray, List.set_cons_zero, List.set_cons_succ]
            refine wpAnyH_ready (rs := [2]) (by kernel_rfl) (by simp) ?_
            refine AllReadyH.cons (o := { dst := some 38, op := Op.call { callee := Callee.value (Operand.func 44), args := #[Operand.tmp 36, Operand.tmp 37], argTypes := #[53, 2] }, type := 4, pos := "l03_normal.go:210", after := #[{ on := 0, ground := Ground.data }, { on := 1, ground := Ground.data }], guard := none }) rfl (fun K hK => ?_) AllReadyH.nil
            go_simp
            (refine (isSimple_any m row HR8.out _).mono ?_; rw [hsb]; rintro e w3 ⟨rfl, gg⟩; replace RI := Lib.hid (RI.out.below gg); replace F := Lib.hid (F.out.below gg))
            go_wp2_with fail
            refine hK.out _ _ ?_ (fun hHeld => ?_)
            ·with_reducible exact RI.out.flat
            clear hK K
            try simp only [Act.put, List.setIfInBounds_toArray, List.set_cons_zero, List.set_cons_succ]
            refine wpAnyH_take (i := 3) (oi := { dst := some 39, op := Op.unOp UnOp.not 4 (Operand.tmp 38), type := 4, pos := "l03_normal.go:210", after := #[{ on := 2, ground := Ground.data }], guard := none }) (v := ?_) rfl (by kernel_rfl) (by kernel_rfl) (by kernel_rfl) (fun _ _ _ h => h) (Or.inl ⟨by rfl, ?_⟩) (by assumption) ?_
            rotate_left
            ·intro w hSw
             (try dsimp only at hSw)
             go_simp
             try with_reducible rfl
            try simp only [Act.put, List.setIfInBounds_toArray, List.set_cons_zero, List.set_cons_succ]
            refine wpAnyH_take (i := 4) (oi := { dst := some 40, op := Op.move (Operand.tmp 39), type := 4, pos := "l03_normal.go:210", after := #[{ on := 3, ground := Ground.data }, { on := 2, ground := Ground.chain }], guard := none }) (v := ?_) rfl (by kernel_rfl) (by kernel_rfl) (by kernel_rfl) (fun _ _ _ h => h) (Or.inl ⟨by rfl, ?_⟩) (by assumption) ?_
            rotate_left
            ·intro w hSw
             (try dsimp only at hSw)
             go_simp
             try with_reducible rfl
            try simp only [Act.put, List.setIfInBounds_toArray, List.set_cons_zero, List.set_cons_succ]
            refine wpAnyH_take (i := 5) (oi := { dst := some 41, op := Op.load 53 (Operand.tmp 5), type := 53, pos := "l03_normal.go:210", after := #[{ on := 4, ground := Ground.guard }], guard := some (4, false) }) (v := ?_) rfl (by kernel_rfl) (by kernel_rfl) (by kernel_rfl) (fun _ _ _ h => h) (Or.inl ⟨by rfl, ?_⟩) (by assumption) ?_
            rotate_left
            ·intro w hSw
             (try dsimp only at hSw)
             go_simp
             try with_reducible rfl
            try simp only [Act.put, List.setIfInBounds_toArray, List.set_cons_zero, List.set_cons_succ]
            refine wpAnyH_take (i := 6) (oi := { dst := some 42, op := Op.move (Operand.tmp 3), type := 2, pos := "l03_normal.go:210", after := #[{ on := 4, ground := Ground.guard }], guard := some (4, false) }) (v := ?_) rfl (by kernel_rfl) (by kernel_rfl) (by kernel_rfl) (fun _ _ _ h => h) (Or.inl ⟨by rfl, ?_⟩) (by assumption) ?_
            rotate_left
            ·intro w hSw
             (try dsimp only at hSw)
             go_simp
             try with_reducible rfl
            try simp only [Act.put, List.setIfInBounds_toArray, List.set_cons_zero, List.set_cons_succ]
            refine wpAnyH_ready (rs := [7]) (by kernel_rfl) (by simp) ?_
            refine AllReadyH.cons (o := { dst := some 43, op := Op.call { callee := Callee.value (Operand.func 45), args := #[Operand.tmp 42], argTypes := #[2] }, type := 53, pos := "l03_normal.go:210", after := #[{ on := 6, ground := Ground.data }, { on := 4, ground := Ground.chain }, { on := 4, ground := Ground.guard }], guard := some (4, false) }) rfl (fun K hK => ?_) AllReadyH.nil
            go_simp
            (refine (nothing_any m m8 _).mono ?_; rintro e w4 ⟨rfl, gg⟩; replace RI := Lib.hid (RI.out.below gg); replace F := Lib.hid (F.out.below gg))
            go_wp2_with fail
            refine hK.out _ _ ?_ (fun hHeld => ?_)
            ·with_reducible exact RI.out.flat
            clear hK K
            try simp only [Act.put, List.setIfInBounds_toArray, List.set_cons_zero, List.set_cons_succ]
            refine wpAnyH_take (i := 8) (oi := { dst := some 44, op := Op.binOp BinOp.eql 53 (Operand.tmp 41) (Operand.tmp 43) 53, type := 4, pos := "l03_normal.go:210", after := #[{ on := 5, ground := Ground.data }, { on := 7, ground := Ground.data }, { on := 4, ground := Ground.guard }], guard := some (4, false) }) (v := ?_) rfl (by kernel_rfl) (by kernel_rfl) (by kernel_rfl) (fun _ _ _ h => h) (Or.inl ⟨by rfl, ?_⟩) (by assumption) ?_
            rotate_left
            ·intro w hSw
             (try dsimp only at hSw)
             go_simp
             try with_reducible rfl
            try simp only [Act.put, List.setIfInBounds_toArray, List.set_cons_zero, List.set_cons_succ]
            refine wpAnyH_take (i := 9) (oi := { dst := some 45, op := Op.pick (Operand.tmp 40) (Operand.const (Value.bool true)) (Operand.tmp 44), type := 4, pos := "l03_normal.go:210", after := #[{ on := 4, ground := Ground.data }, { on := 8, ground := Ground.data }], guard := none }) (v := ?_) rfl (by kernel_rfl) (by kernel_rfl) (by kernel_rfl) (fun _ _ _ h => h) (Or.inl ⟨by rfl, ?_⟩) (by assumption) ?_
            rotate_left
            ·intro w hSw
             (try dsimp only at hSw)
             go_simp
             try with_reducible rfl
            try simp only [Act.put, List.setIfInBounds_toArray, List.set_cons_zero, List.set_cons_succ]
            refine wpAnyH_take (i := 10) (oi := { dst := some 46, op := Op.move (Operand.tmp 45), type := 4, pos := "l03_normal.go:210", after := #[{ on := 9, ground := Ground.data }, { on := 7, ground := Ground.chain }], guard := none }) (v := ?_) rfl (by kernel_rfl) (by kernel_rfl) (by kernel_rfl) (fun _ _ _ h => h) (Or.inl ⟨by rfl, ?_⟩) (by assumption) ?_
            rotate_left
            ·intro w hSw
             (try dsimp only at hSw)
             go_simp
             try with_reducible rfl
            try simp only [Act.put, List.setIfInBounds_toArray, List.set_cons_zero, List.set_cons_succ]
            refine wpAnyH_take (i := 11) (oi := { dst := some 47, op := Op.load 53 (Operand.tmp 5), type := 53, pos := "l03_normal.go:210", after := #[{ on := 10, ground := Ground.guard }], guard := some (10, false) }) (v := ?_) rfl (by kernel_rfl) (by kernel_rfl) (by kernel_rfl) (fun _ _ _ h => h) (Or.inl ⟨by rfl, ?_⟩) (by assumption) ?_
            rotate_left
            ·intro w hSw
             (try dsimp only at hSw)
             go_simp
             try with_reducible rfl
            try simp only [Act.put, List.setIfInBounds_toArray, List.set_cons_zero, List.set_cons_succ]
            refine wpAnyH_take (i := 12) (oi := { dst := some 48, op := Op.move (Operand.tmp 3), type := 2, pos := "l03_normal.go:210", after := #[{ on := 10, ground := Ground.guard }], guard := some (10, false) }) (v := ?_) rfl (by kernel_rfl) (by kernel_rfl) (by kernel_rfl) (fun _ _ _ h => h) (Or.inl ⟨by rfl, ?_⟩) (by assumption) ?_
            rotate_left
            ·intro w hSw
             (try dsimp only at hSw)
             go_simp
             try with_reducible rfl
            try simp only [Act.put, List.setIfInBounds_toArray, List.set_cons_zero, List.set_cons_succ]
            refine wpAnyH_ready (rs := [13]) (by kernel_rfl) (by simp) ?_
            refine AllReadyH.cons (o := { dst := some 49, op := Op.call { callee := Callee.value (Operand.func 46), args := #[Operand.tmp 48], argTypes := #[2] }, type := 53, pos := "l03_normal.go:210", after := #[{ on := 12, ground := Ground.data }, { on := 10, ground := Ground.chain }, { on := 10, ground := Ground.guard }], guard := some (10, false) }) rfl (fun K hK => ?_) AllReadyH.nil
            go_simp
            (refine (halfTurn_any m m8 _).mono ?_; rintro e w5 ⟨rfl, gg⟩; replace RI := Lib.hid (RI.out.below gg); replace F := Lib.hid (F.out.below gg))
            go_wp2_with fail
            refine hK.out _ _ ?_ (fun hHeld => ?_)
            ·with_reducible exact RI.out.flat
            clear hK K
            try simp only [Act.put, List.setIfInBounds_toArray, List.set_cons_zero, List.set_cons_succ]
            refine wpAnyH_take (i := 14) (oi := { dst := some 50, op := Op.binOp BinOp.eql 53 (Operand.tmp 47) (Operand.tmp 49) 53, type := 4, pos := "l03_normal.go:210", after := #[{ on := 11, ground := Ground.data }, { on := 13, ground := Ground.data }, { on := 10, ground := Ground.guard }], guard := some (10, false) }) (v := ?_) rfl (by kernel_rfl) (by kernel_rfl) (by kernel_rfl) (fun _ _ _ h => h) (Or.inl ⟨by rfl, ?_⟩) (by assumption) ?_
            rotate_left
            ·intro w hSw
             (try dsimp only at hSw)
             go_simp
             try with_reducible rfl
            try simp only [Act.put, List.setIfInBounds_toArray, List.set_cons_zero, List.set_cons_succ]
            refine wpAnyH_take (i := 15) (oi := { dst := some 51, op := Op.pick (Operand.tmp 46) (Operand.const (Value.bool true)) (Operand.tmp 50), type := 4, pos := "l03_normal.go:210", after := #[{ on := 10, ground := Ground.data }, { on := 14, ground := Ground.data }], guard := none }) (v := ?_) rfl (by kernel_rfl) (by kernel_rfl) (by kernel_rfl) (fun _ _ _ h => h) (Or.inl ⟨by rfl, ?_⟩) (by assumption) ?_
            rotate_left
            ·intro w hSw
             (try dsimp only at hSw)
             go_simp
             try with_reducible rfl
            try simp only [Act.put, List.setIfInBounds_toArray, List.set_cons_zero, List.set_cons_succ]
            refine wpAnyH_done (by kernel_rfl) ?_ _
            go_wp2_with fail
            go_meet
            exact ⟨by rw [HV.out], RI.out, F.out⟩
           ·have heq2 : ∀ W, Sem.run Try.prog (Op.equalIn 10000 53 (arr8 .u8 row) (arr8 .u8 (halfR m))) W = .ok false W := fun W => by rw [equal8 row (halfR m) HR8.out (mapR_len _ _ m8) W, decide_eq_false h3]
            have HV : Hid (q = false) := Lib.hid (by rw [HQ.out, hsb, decide_eq_false h2, decide_eq_false h3]; rfl)
            clear h2 h3
            refine wp_region_held_drew (S := (fun w' => w'.cell? ⟨g5, 0, none⟩ = some (.int .u8 (at8 row 0)) ∧ w'.cell? ⟨g5, 1, none⟩ = some (.int .u8 (at8 row 1)) ∧ w'.cell? ⟨g5, 2, none⟩ = some (.int .u8 (at8 row 2)) ∧ w'.cell? ⟨g5, 3, none⟩ = some (.int .u8 (at8 row 3)) ∧ w'.cell? ⟨g5, 4, none⟩ = some (.int .u8 (at8 row 4)) ∧ w'.cell? ⟨g5, 5, none⟩ = some (.int .u8 (at8 row 5)) ∧ w'.cell? ⟨g5, 6, none⟩ = some (.int .u8 (at8 row 6)) ∧ w'.cell? ⟨g5, 7, none⟩ = some (.int .u8 (at8 row 7)))) (by kernel_rfl) ?_ (fun hHeld => ?_)
            ·with_reducible exact RI.out.flat
            refine wpAnyH_take (i := 0) (oi := { dst := some 36, op := Op.load 53 (Operand.tmp 5), type := 53, pos := "l03_normal.go:210", after := #[], guard := none }) (v := ?_) rfl (by kernel_rfl) (by kernel_rfl) (by kernel_rfl) (fun _ _ _ h => h) (Or.inl ⟨by rfl, ?_⟩) (by assumption) ?_
            rotate_left
            ·intro w hSw
             (try dsimp only at hSw)
             go_simp
             try with_reducible rfl
            try simp only [Act.put, List.setIfInBounds_toArray, List.set_cons_zero, List.set_cons_succ]
            refine wpAnyH_take (i := 1) (oi := { dst := some 37, op := Op.move (Operand.tmp 3), type := 2, pos := "l03_normal.go:210", after := #[], guard := none }) (v := ?_) rfl (by kernel_rfl) (by kernel_rfl) (by kernel_rfl) (fun _ _ _ h => h) (Or.inl ⟨by rfl, ?_⟩) (by assumption) ?_
            rotate_left
            ·intro w hSw
             (try dsimp only at hSw)
             go_simp
             try with_reducible rfl
            try simp only [Act.put, List.setIfInBounds_toArray, List.set_cons_zero, List.set_cons_succ]
            refine wpAnyH_ready (rs := [2]) (by kernel_rfl) (by simp) ?_
            refine AllReadyH.cons (o := { dst := some 38, op := Op.call { callee := Callee.value (Operand.func 44), args := #[Operand.tmp 36, Operand.tmp 37], argTypes := #[53, 2] }, type := 4, pos := "l03_normal.go:210", after := #[{ on := 0, ground := Ground.data }, { on := 1, ground := Ground.data }], guard := none }) rfl (fun K hK => ?_) AllReadyH.nil
            go_simp
            (refine (isSimple_any m row HR8.out _).mono ?_; rw [hsb]; rintro e w3 ⟨rfl, gg⟩; replace RI := Lib.hid (RI.out.below gg); replace F := Lib.hid (F.out.below gg))
            go_wp2_with fail
            refine hK.out _ _ ?_ (fun hHeld => ?_)
            ·with_reducible exact RI.out.flat
            clear hK K
            try simp only [Act.put, List.setIfInBounds_toArray, List.set_cons_zero, List.set_cons_succ]
            refine wpAnyH_take (i := 3) (oi := { dst := some 39, op := Op.unOp UnOp.not 4 (Operand.tmp 38), type := 4, pos := "l03_normal.go:210", after := #[{ on := 2, ground := Ground.data }], guard := none }) (v := ?_) rfl (by kernel_rfl) (by kernel_rfl) (by kernel_rfl) (fun _ _ _ h => h) (Or.inl ⟨by rfl, ?_⟩) (by assumption) ?_
            rotate_left
            ·intro w hSw
             (try dsimp only at hSw)
             go_simp
             try with_reducible rfl
            try simp only [Act.put, List.setIfInBounds_toArray, List.set_cons_zero, List.set_cons_succ]
            refine wpAnyH_take (i := 4) (oi := { dst := some 40, op := Op.move (Operand.tmp 39), type := 4, pos := "l03_normal.go:210", after := #[{ on := 3, ground := Ground.data }, { on := 2, ground := Ground.chain }], guard := none }) (v := ?_) rfl (by kernel_rfl) (by kernel_rfl) (by kernel_rfl) (fun _ _ _ h => h) (Or.inl ⟨by rfl, ?_⟩) (by assumption) ?_
            rotate_left
            ·intro w hSw
             (try dsimp only at hSw)
             go_simp
             try with_reducible rfl
            try simp only [Act.put, List.setIfInBounds_toArray, List.set_cons_zero, List.set_cons_succ]
            refine wpAnyH_take (i := 5) (oi := { dst := some 41, op := Op.load 53 (Operand.tmp 5), type := 53, pos := "l03_normal.go:210", after := #[{ on := 4, ground := Ground.guard }], guard := some (4, false) }) (v := ?_) rfl (by kernel_rfl) (by kernel_rfl) (by kernel_rfl) (fun _ _ _ h => h) (Or.inl ⟨by rfl, ?_⟩) (by assumption) ?_
            rotate_left
            ·intro w hSw
             (try dsimp only at hSw)
             go_simp
             try with_reducible rfl
            try simp only [Act.put, List.setIfInBounds_toArray, List.set_cons_zero, List.set_cons_succ]
            refine wpAnyH_take (i := 6) (oi := { dst := some 42, op := Op.move (Operand.tmp 3), type := 2, pos := "l03_normal.go:210", after := #[{ on := 4, ground := Ground.guard }], guard := some (4, false) }) (v := ?_) rfl (by kernel_rfl) (by kernel_rfl) (by kernel_rfl) (fun _ _ _ h => h) (Or.inl ⟨by rfl, ?_⟩) (by assumption) ?_
            rotate_left
            ·intro w hSw
             (try dsimp only at hSw)
             go_simp
             try with_reducible rfl
            try simp only [Act.put, List.setIfInBounds_toArray, List.set_cons_zero, List.set_cons_succ]
            refine wpAnyH_ready (rs := [7]) (by kernel_rfl) (by simp) ?_
            refine AllReadyH.cons (o := { dst := some 43, op := Op.call { callee := Callee.value (Operand.func 45), args := #[Operand.tmp 42], argTypes := #[2] }, type := 53, pos := "l03_normal.go:210", after := #[{ on := 6, ground := Ground.data }, { on := 4, ground := Ground.chain }, { on := 4, ground := Ground.guard }], guard := some (4, false) }) rfl (fun K hK => ?_) AllReadyH.nil
            go_simp
            (refine (nothing_any m m8 _).mono ?_; rintro e w4 ⟨rfl, gg⟩; replace RI := Lib.hid (RI.out.below gg); replace F := Lib.hid (F.out.below gg))
            go_wp2_with fail
            refine hK.out _ _ ?_ (fun hHeld => ?_)
            ·with_reducible exact RI.out.flat
            clear hK K
            try simp only [Act.put, List.setIfInBounds_toArray, List.set_cons_zero, List.set_cons_succ]
            refine wpAnyH_take (i := 8) (oi := { dst := some 44, op := Op.binOp BinOp.eql 53 (Operand.tmp 41) (Operand.tmp 43) 53, type := 4, pos := "l03_normal.go:210", after := #[{ on := 5, ground := Ground.data }, { on := 7, ground := Ground.data }, { on := 4, ground := Ground.guard }], guard := some (4, false) }) (v := ?_) rfl (by kernel_rfl) (by kernel_rfl) (by kernel_rfl) (fun _ _ _ h => h) (Or.inl ⟨by rfl, ?_⟩) (by assumption) ?_
            rotate_left
            ·intro w hSw
             (try dsimp only at hSw)
             go_simp
             try with_reducible rfl
            try simp only [Act.put, List.setIfInBounds_toArray, List.set_cons_zero, List.set_cons_succ]
            refine wpAnyH_take (i := 9) (oi := { dst := some 45, op := Op.pick (Operand.tmp 40) (Operand.const (Value.bool true)) (Operand.tmp 44), type := 4, pos := "l03_normal.go:210", after := #[{ on := 4, ground := Ground.data }, { on := 8, ground := Ground.data }], guard := none }) (v := ?_) rfl (by kernel_rfl) (by kernel_rfl) (by kernel_rfl) (fun _ _ _ h => h) (Or.inl ⟨by rfl, ?_⟩) (by assumption) ?_
            rotate_left
            ·intro w hSw
             (try dsimp only at hSw)
             go_simp
             try with_reducible rfl
            try simp only [Act.put, List.setIfInBounds_toArray, List.set_cons_zero, List.set_cons_succ]
            refine wpAnyH_take (i := 10) (oi := { dst := some 46, op := Op.move (Operand.tmp 45), type := 4, pos := "l03_normal.go:210", after := #[{ on := 9, ground := Ground.data }, { on := 7, ground := Ground.chain }], guard := none }) (v := ?_) rfl (by kernel_rfl) (by kernel_rfl) (by kernel_rfl) (fun _ _ _ h => h) (Or.inl ⟨by rfl, ?_⟩) (by assumption) ?_
            rotate_left
            ·intro w hSw
             (try dsimp only at hSw)
             go_simp
             try with_reducible rfl
            try simp only [Act.put, List.setIfInBounds_toArray, List.set_cons_zero, List.set_cons_succ]
            refine wpAnyH_take (i := 11) (oi := { dst := some 47, op := Op.load 53 (Operand.tmp 5), type := 53, pos := "l03_normal.go:210", after := #[{ on := 10, ground := Ground.guard }], guard := some (10, false) }) (v := ?_) rfl (by kernel_rfl) (by kernel_rfl) (by kernel_rfl) (fun _ _ _ h => h) (Or.inl ⟨by rfl, ?_⟩) (by assumption) ?_
            rotate_left
            ·intro w hSw
             (try dsimp only at hSw)
             go_simp
             try with_reducible rfl
            try simp only [Act.put, List.setIfInBounds_toArray, List.set_cons_zero, List.set_cons_succ]
            refine wpAnyH_take (i := 12) (oi := { dst := some 48, op := Op.move (Operand.tmp 3), type := 2, pos := "l03_normal.go:210", after := #[{ on := 10, ground := Ground.guard }], guard := some (10, false) }) (v := ?_) rfl (by kernel_rfl) (by kernel_rfl) (by kernel_rfl) (fun _ _ _ h => h) (Or.inl ⟨by rfl, ?_⟩) (by assumption) ?_
            rotate_left
            ·intro w hSw
             (try dsimp only at hSw)
             go_simp
             try with_reducible rfl
            try simp only [Act.put, List.setIfInBounds_toArray, List.set_cons_zero, List.set_cons_succ]
            refine wpAnyH_ready (rs := [13]) (by kernel_rfl) (by simp) ?_
            refine AllReadyH.cons (o := { dst := some 49, op := Op.call { callee := Callee.value (Operand.func 46), args := #[Operand.tmp 48], argTypes := #[2] }, type := 53, pos := "l03_normal.go:210", after := #[{ on := 12, ground := Ground.data }, { on := 10, ground := Ground.chain }, { on := 10, ground := Ground.guard }], guard := some (10, false) }) rfl (fun K hK => ?_) AllReadyH.nil
            go_simp
            (refine (halfTurn_any m m8 _).mono ?_; rintro e w5 ⟨rfl, gg⟩; replace RI := Lib.hid (RI.out.below gg); replace F := Lib.hid (F.out.below gg))
            go_wp2_with fail
            refine hK.out _ _ ?_ (fun hHeld => ?_)
            ·with_reducible exact RI.out.flat
            clear hK K
            try simp only [Act.put, List.setIfInBounds_toArray, List.set_cons_zero, List.set_cons_succ]
            refine wpAnyH_take (i := 14) (oi := { dst := some 50, op := Op.binOp BinOp.eql 53 (Operand.tmp 47) (Operand.tmp 49) 53, type := 4, pos := "l03_normal.go:210", after := #[{ on := 11, ground := Ground.data }, { on := 13, ground := Ground.data }, { on := 10, ground := Ground.guard }], guard := some (10, false) }) (v := ?_) rfl (by kernel_rfl) (by kernel_rfl) (by kernel_rfl) (fun _ _ _ h => h) (Or.inl ⟨by rfl, ?_⟩) (by assumption) ?_
            rotate_left
            ·intro w hSw
             (try dsimp only at hSw)
             go_simp
             try with_reducible rfl
            try simp only [Act.put, List.setIfInBounds_toArray, List.set_cons_zero, List.set_cons_succ]
            refine wpAnyH_take (i := 15) (oi := { dst := some 51, op := Op.pick (Operand.tmp 46) (Operand.const (Value.bool true)) (Operand.tmp 50), type := 4, pos := "l03_normal.go:210", after := #[{ on := 10, ground := Ground.data }, { on := 14, ground := Ground.data }], guard := none }) (v := ?_) rfl (by kernel_rfl) (by kernel_rfl) (by kernel_rfl) (fun _ _ _ h => h) (Or.inl ⟨by rfl, ?_⟩) (by assumption) ?_
            rotate_left
            ·intro w hSw
             (try dsimp only at hSw)
             go_simp
             try with_reducible rfl
            try simp only [Act.put, List.setIfInBounds_toArray, List.set_cons_zero, List.set_cons_succ]
            refine wpAnyH_done (by kernel_rfl) ?_ _
            go_wp2_with fail
            go_meet
            exact ⟨by rw [HV.out], RI.out, F.out⟩
         ·have hsb' : simB m row = false := by simpa using hsb
          clear hsb
          have hsb := hsb'
          clear hsb'
          have HV : Hid (q = true) := Lib.hid (by rw [HQ.out, hsb]; rfl)
          refine wp_region_held_drew (S := (fun w' => w'.cell? ⟨g5, 0, none⟩ = some (.int .u8 (at8 row 0)) ∧ w'.cell? ⟨g5, 1, none⟩ = some (.int .u8 (at8 row 1)) ∧ w'.cell? ⟨g5, 2, none⟩ = some (.int .u8 (at8 row 2)) ∧ w'.cell? ⟨g5, 3, none⟩ = some (.int .u8 (at8 row 3)) ∧ w'.cell? ⟨g5, 4, none⟩ = some (.int .u8 (at8 row 4)) ∧ w'.cell? ⟨g5, 5, none⟩ = some (.int .u8 (at8 row 5)) ∧ w'.cell? ⟨g5, 6, none⟩ = some (.int .u8 (at8 row 6)) ∧ w'.cell? ⟨g5, 7, none⟩ = some (.int .u8 (at8 row 7)))) (by kernel_rfl) ?_ (fun hHeld => ?_)
          ·with_reducible exact RI.out.flat
          refine wpAnyH_take (i := 0) (oi := { dst := some 36, op := Op.load 53 (Operand.tmp 5), type := 53, pos := "l03_normal.go:210", after := #[], guard := none }) (v := ?_) rfl (by kernel_rfl) (by kernel_rfl) (by kernel_rfl) (fun _ _ _ h => h) (Or.inl ⟨by rfl, ?_⟩) (by assumption) ?_
          rotate_left
          ·intro w hSw
           (try dsimp only at hSw)
           go_simp
           try with_reducible rfl
          try simp only [Act.put, List.setIfInBounds_toArray, List.set_cons_zero, List.set_cons_succ]
          refine wpAnyH_take (i := 1) (oi := { dst := some 37, op := Op.move (Operand.tmp 3), type := 2, pos := "l03_normal.go:210", after := #[], guard := none }) (v := ?_) rfl (by kernel_rfl) (by kernel_rfl) (by kernel_rfl) (fun _ _ _ h => h) (Or.inl ⟨by rfl, ?_⟩) (by assumption) ?_
          rotate_left
          ·intro w hSw
           (try dsimp only at hSw)
           go_simp
           try with_reducible rfl
          try simp only [Act.put, List.setIfInBounds_toArray, List.set_cons_zero, List.set_cons_succ]
          refine wpAnyH_ready (rs := [2]) (by kernel_rfl) (by simp) ?_
          refine AllReadyH.cons (o := { dst := some 38, op := Op.call { callee := Callee.value (Operand.func 44), args := #[Operand.tmp 36, Operand.tmp 37], argTypes := #[53, 2] }, type := 4, pos := "l03_normal.go:210", after := #[{ on := 0, ground := Ground.data }, { on := 1, ground := Ground.data }], guard := none }) rfl (fun K hK => ?_) AllReadyH.nil
          go_simp
          (refine (isSimple_any m row HR8.out _).mono ?_; rw [hsb]; rintro e w3 ⟨rfl, gg⟩; replace RI := Lib.hid (RI.out.below gg); replace F := Lib.hid (F.out.below gg))
          go_wp2_with fail
          refine hK.out _ _ ?_ (fun hHeld => ?_)
          ·with_reducible exact RI.out.flat
          clear hK K
          try simp only [Act.put, List.setIfInBounds_toArray, List.set_cons_zero, List.set_cons_succ]
          refine wpAnyH_take (i := 3) (oi := { dst := some 39, op := Op.unOp UnOp.not 4 (Operand.tmp 38), type := 4, pos := "l03_normal.go:210", after := #[{ on := 2, ground := Ground.data }], guard := none }) (v := ?_) rfl (by kernel_rfl) (by kernel_rfl) (by kernel_rfl) (fun _ _ _ h => h) (Or.inl ⟨by rfl, ?_⟩) (by assumption) ?_
          rotate_left
          ·intro w hSw
           (try dsimp only at hSw)
           go_simp
           try with_reducible rfl
          try simp only [Act.put, List.setIfInBounds_toArray, List.set_cons_zero, List.set_cons_succ]
          refine wpAnyH_take (i := 4) (oi := { dst := some 40, op := Op.move (Operand.tmp 39), type := 4, pos := "l03_normal.go:210", after := #[{ on := 3, ground := Ground.data }, { on := 2, ground := Ground.chain }], guard := none }) (v := ?_) rfl (by kernel_rfl) (by kernel_rfl) (by kernel_rfl) (fun _ _ _ h => h) (Or.inl ⟨by rfl, ?_⟩) (by assumption) ?_
          rotate_left
          ·intro w hSw
           (try dsimp only at hSw)
           go_simp
           try with_reducible rfl
          try simp only [Act.put, List.setIfInBounds_toArray, List.set_cons_zero, List.set_cons_succ]
          refine wpAnyH_take (i := 5) (oi := { dst := some 41, op := Op.load 53 (Operand.tmp 5), type := 53, pos := "l03_normal.go:210", after := #[{ on := 4, ground := Ground.guard }], guard := some (4, false) }) (v := undef) rfl (by kernel_rfl) (by kernel_rfl) (by kernel_rfl) (fun _ _ _ h => h) (Or.inr ⟨by rfl, rfl⟩) (by assumption) ?_
          try simp only [Act.put, List.setIfInBounds_toArray, List.set_cons_zero, List.set_cons_succ]
          refine wpAnyH_take (i := 6) (oi := { dst := some 42, op := Op.move (Operand.tmp 3), type := 2, pos := "l03_normal.go:210", after := #[{ on := 4, ground := Ground.guard }], guard := some (4, false) }) (v := undef) rfl (by kernel_rfl) (by kernel_rfl) (by kernel_rfl) (fun _ _ _ h => h) (Or.inr ⟨by rfl, rfl⟩) (by assumption) ?_
          try simp only [Act.put, List.setIfInBounds_toArray, List.set_cons_zero, List.set_cons_succ]
          refine wpAnyH_ready (rs := [7]) (by kernel_rfl) (by simp) ?_
          refine AllReadyH.cons (o := { dst := some 43, op := Op.call { callee := Callee.value (Operand.func 45), args := #[Operand.tmp 42], argTypes := #[2] }, type := 53, pos := "l03_normal.go:210", after := #[{ on := 6, ground := Ground.data }, { on := 4, ground := Ground.chain }, { on := 4, ground := Ground.guard }], guard := some (4, false) }) rfl (fun K hK => ?_) AllReadyH.nil
          go_simp
          refine hK.out _ _ ?_ (fun hHeld => ?_)
          ·with_reducible exact RI.out.flat
          clear hK K
          try simp only [Act.put, List.setIfInBounds_toArray, List.set_cons_zero, List.set_cons_succ]
          refine wpAnyH_take (i := 8) (oi := { dst := some 44, op := Op.binOp BinOp.eql 53 (Operand.tmp 41) (Operand.tmp 43) 53, type := 4, pos := "l03_normal.go:210", after := #[{ on := 5, ground := Ground.data }, { on := 7, ground := Ground.data }, { on := 4, ground := Ground.guard }], guard := some (4, false) }) (v := undef) rfl (by kernel_rfl) (by kernel_rfl) (by kernel_rfl) (fun _ _ _ h => h) (Or.inr ⟨by rfl, rfl⟩) (by assumption) ?_
          try simp only [Act.put, List.setIfInBounds_toArray, List.set_cons_zero, List.set_cons_succ]
          refine wpAnyH_take (i := 9) (oi := { dst := some 45, op := Op.pick (Operand.tmp 40) (Operand.const (Value.bool true)) (Operand.tmp 44), type := 4, pos := "l03_normal.go:210", after := #[{ on := 4, ground := Ground.data }, { on := 8, ground := Ground.data }], guard := none }) (v := ?_) rfl (by kernel_rfl) (by kernel_rfl) (by kernel_rfl) (fun _ _ _ h => h) (Or.inl ⟨by rfl, ?_⟩) (by assumption) ?_
          rotate_left
          ·intro w hSw
           (try dsimp only at hSw)
           go_simp
           try with_reducible rfl
          try simp only [Act.put, List.setIfInBounds_toArray, List.set_cons_zero, List.set_cons_succ]
          refine wpAnyH_take (i := 10) (oi := { dst := some 46, op := Op.move (Operand.tmp 45), type := 4, pos := "l03_normal.go:210", after := #[{ on := 9, ground := Ground.data }, { on := 7, ground := Ground.chain }], guard := none }) (v := ?_) rfl (by kernel_rfl) (by kernel_rfl) (by kernel_rfl) (fun _ _ _ h => h) (Or.inl ⟨by rfl, ?_⟩) (by assumption) ?_
          rotate_left
          ·intro w hSw
           (try dsimp only at hSw)
           go_simp
           try with_reducible rfl
          try simp only [Act.put, List.setIfInBounds_toArray, List.set_cons_zero, List.set_cons_succ]
          refine wpAnyH_take (i := 11) (oi := { dst := some 47, op := Op.load 53 (Operand.tmp 5), type := 53, pos := "l03_normal.go:210", after := #[{ on := 10, ground := Ground.guard }], guard := some (10, false) }) (v := undef) rfl (by kernel_rfl) (by kernel_rfl) (by kernel_rfl) (fun _ _ _ h => h) (Or.inr ⟨by rfl, rfl⟩) (by assumption) ?_
          try simp only [Act.put, List.setIfInBounds_toArray, List.set_cons_zero, List.set_cons_succ]
          refine wpAnyH_take (i := 12) (oi := { dst := some 48, op := Op.move (Operand.tmp 3), type := 2, pos := "l03_normal.go:210", after := #[{ on := 10, ground := Ground.guard }], guard := some (10, false) }) (v := undef) rfl (by kernel_rfl) (by kernel_rfl) (by kernel_rfl) (fun _ _ _ h => h) (Or.inr ⟨by rfl, rfl⟩) (by assumption) ?_
          try simp only [Act.put, List.setIfInBounds_toArray, List.set_cons_zero, List.set_cons_succ]
          refine wpAnyH_ready (rs := [13]) (by kernel_rfl) (by simp) ?_
          refine AllReadyH.cons (o := { dst := some 49, op := Op.call { callee := Callee.value (Operand.func 46), args := #[Operand.tmp 48], argTypes := #[2] }, type := 53, pos := "l03_normal.go:210", after := #[{ on := 12, ground := Ground.data }, { on := 10, ground := Ground.chain }, { on := 10, ground := Ground.guard }], guard := some (10, false) }) rfl (fun K hK => ?_) AllReadyH.nil
          go_simp
          refine hK.out _ _ ?_ (fun hHeld => ?_)
          ·with_reducible exact RI.out.flat
          clear hK K
          try simp only [Act.put, List.setIfInBounds_toArray, List.set_cons_zero, List.set_cons_succ]
          refine wpAnyH_take (i := 14) (oi := { dst := some 50, op := Op.binOp BinOp.eql 53 (Operand.tmp 47) (Operand.tmp 49) 53, type := 4, pos := "l03_normal.go:210", after := #[{ on := 11, ground := Ground.data }, { on := 13, ground := Ground.data }, { on := 10, ground := Ground.guard }], guard := some (10, false) }) (v := undef) rfl (by kernel_rfl) (by kernel_rfl) (by kernel_rfl) (fun _ _ _ h => h) (Or.inr ⟨by rfl, rfl⟩) (by assumption) ?_
          try simp only [Act.put, List.setIfInBounds_toArray, List.set_cons_zero, List.set_cons_succ]
          refine wpAnyH_take (i := 15) (oi := { dst := some 51, op := Op.pick (Operand.tmp 46) (Operand.const (Value.bool true)) (Operand.tmp 50), type := 4, pos := "l03_normal.go:210", after := #[{ on := 10, ground := Ground.data }, { on := 14, ground := Ground.data }], guard := none }) (v := ?_) rfl (by kernel_rfl) (by kernel_rfl) (by kernel_rfl) (fun _ _ _ h => h) (Or.inl ⟨by rfl, ?_⟩) (by assumption) ?_
          rotate_left
          ·intro w hSw
           (try dsimp only at hSw)
           go_simp
           try with_reducible rfl
          try simp only [Act.put, List.setIfInBounds_toArray, List.set_cons_zero, List.set_cons_succ]
          refine wpAnyH_done (by kernel_rfl) ?_ _
          go_wp2_with fail
          go_meet
          exact ⟨by rw [HV.out], RI.out, F.out⟩
        case rest =>
         obtain ⟨rfl, hRI, hF⟩ := hcut
         clear RI F
         have RI := Lib.hid hRI
         have F := Lib.hid hF
         clear hRI hF
         cases q with
         | true =>
          have HE : Hid (normB m p rs = false) := Lib.hid (normB_bad rfl k (by rw [HL.out]; exact hlt) (by
           have h := HQ.out
           cases h1 : simB m row with
           | false => exact okFac_no1 (by rw [← HROW.out]; exact h1)
           | true =>
            rw [h1] at h
            by_cases h2 : row = sameR m
            ·exact okFac_no2 (by rw [← HROW.out]; exact h2)
            ·by_cases h3 : row = halfR m
             ·exact okFac_no3 (by rw [← HROW.out]; exact h3)
             ·simp [h2, h3] at h))
          go_wp2
          go_ret
          exact ⟨ret_bool HE.out.symm, F.out.bel⟩
         | false =>
          have HG : Hid (simB m row = true ∧ row ≠ sameR m ∧ row ≠ halfR m) := Lib.hid (by
           have h := HQ.out
           cases h1 : simB m row with
           | false => rw [h1] at h; cases h
           | true =>
            rw [h1] at h
            refine ⟨rfl, fun h2 => ?_, fun h3 => ?_⟩
            ·simp [h2] at h
            ·simp [h3] at h)
          clear HQ
          go_upto_region 9 with fail
          obtain ⟨q2, hq2⟩ : ∃ q2, q2 = !okFac m rs k := ⟨_, rfl⟩
          have HQ2 := Lib.hid hq2
          clear hq2
          have SR : Hid (Sim m row) := Lib.hid (by
           obtain ⟨m', hm', h⟩ := (simB_iff _ _ HR8.out).1 HG.out.1
           have : m' = m := by omega
           subst this
           exact h)
          go_cut [65] (fun s65 wx => s65 = .bool q2 ∧ AtFac w wx m p (some ⟨b, off, none⟩) n cap)
          case first =>
           replace RI := Lib.hid RI.out.drew
           replace F := Lib.hid F.out.drew
           obtain rfl | ⟨k, rfl⟩ : k = 0 ∨ ∃ k', k = k' + 1 := by cases k <;> simp
           ·have HV : Hid (okFac m rs 0 = true) := Lib.hid (okFac_yes (by rw [← HROW.out]; exact HG.out.1) (by rw [← HROW.out]; exact HG.out.2.1) (by rw [← HROW.out]; exact HG.out.2.2) (.inl rfl))
            refine wp_region_held_drew (S := (fun w' => w'.cell? ⟨g5, 0, none⟩ = some (.int .u8 (at8 row 0)) ∧ w'.cell? ⟨g5, 1, none⟩ = some (.int .u8 (at8 row 1)) ∧ w'.cell? ⟨g5, 2, none⟩ = some (.int .u8 (at8 row 2)) ∧ w'.cell? ⟨g5, 3, none⟩ = some (.int .u8 (at8 row 3)) ∧ w'.cell? ⟨g5, 4, none⟩ = some (.int .u8 (at8 row 4)) ∧ w'.cell? ⟨g5, 5, none⟩ = some (.int .u8 (at8 row 5)) ∧ w'.cell? ⟨g5, 6, none⟩ = some (.int .u8 (at8 row 6)) ∧ w'.cell? ⟨g5, 7, none⟩ = some (.int .u8 (at8 row 7)))) (by kernel_rfl) ?_ (fun hHeld => ?_)
            ·with_reducible exact RI.out.flat
            refine wpAnyH_take (i := 0) (oi := { dst := some 52, op := Op.move (Operand.tmp 4), type := 3, pos := "l03_normal.go:213", after := #[], guard := none }) (v := ?_) rfl (by kernel_rfl) (by kernel_rfl) (by kernel_rfl) (fun _ _ _ h => h) (Or.inl ⟨by rfl, ?_⟩) (by assumption) ?_
            rotate_left
            ·intro w hSw
             (try dsimp only at hSw)
             go_simp
             try with_reducible rfl
            try simp only [Act.put, List.setIfInBounds_toArray, List.set_cons_zero, List.set_cons_succ]
            refine wpAnyH_take (i := 1) (oi := { dst := some 53, op := Op.binOp BinOp.gtr 3 (Operand.tmp 52) (Operand.const (Value.int IntKind.i64 0)) 3, type := 4, pos := "l03_normal.go:213", after := #[{ on := 0, ground := Ground.data }], guard := none }) (v := ?_) rfl (by kernel_rfl) (by kernel_rfl) (by kernel_rfl) (fun _ _ _ h => h) (Or.inl ⟨by rfl, ?_⟩) (by assumption) ?_
            rotate_left
            ·intro w hSw
             (try dsimp only at hSw)
             go_simp
             try with_reducible rfl
            try simp only [Act.put, List.setIfInBounds_toArray, List.set_cons_zero, List.set_cons_succ]
            refine wpAnyH_take (i := 2) (oi := { dst := some 54, op := Op.move (Operand.tmp 53), type := 4, pos := "l03_normal.go:213", after := #[{ on := 1, ground := Ground.data }], guard := none }) (v := ?_) rfl (by kernel_rfl) (by kernel_rfl) (by kernel_rfl) (fun _ _ _ h => h) (Or.inl ⟨by rfl, ?_⟩) (by assumption) ?_
            rotate_left
            ·intro w hSw
             (try dsimp only at hSw)
             go_simp
             try with_reducible rfl
            try simp only [Act.put, List.setIfInBounds_toArray, List.set_cons_zero, List.set_cons_succ]
            refine wpAnyH_take (i := 3) (oi := { dst := some 55, op := Op.fieldAddr 28 (Operand.tmp 1) 2, type := 0, pos := "l03_normal.go:213", after := #[{ on := 2, ground := Ground.guard }], guard := some (2, true) }) (v := undef) rfl (by kernel_rfl) (by kernel_rfl) (by kernel_rfl) (fun _ _ _ h => h) (Or.inr ⟨by rfl, rfl⟩) (by assumption) ?_
            try simp only [Act.put, List.setIfInBounds_toArray, List.set_cons_zero, List.set_cons_succ]
            refine wpAnyH_take (i := 4) (oi := { dst := some 56, op := Op.load 26 (Operand.tmp 55), type := 26, pos := "l03_normal.go:213", after := #[{ on := 3, ground := Ground.data }, { on := 2, ground := Ground.guard }], guard := some (2, true) }) (v := undef) rfl (by kernel_rfl) (by kernel_rfl) (by kernel_rfl) (fun _ _ _ h => h) (Or.inr ⟨by rfl, rfl⟩) (by assumption) ?_
            try simp only [Act.put, List.setIfInBounds_toArray, List.set_cons_zero, List.set_cons_succ]
            refine wpAnyH_take (i := 5) (oi := { dst := some 57, op := Op.move (Operand.tmp 4), type := 3, pos := "l03_normal.go:213", after := #[{ on := 2, ground := Ground.guard }], guard := some (2, true) }) (v := undef) rfl (by kernel_rfl) (by kernel_rfl) (by kernel_rfl) (fun _ _ _ h => h) (Or.inr ⟨by rfl, rfl⟩) (by assumption) ?_
            try simp only [Act.put, List.setIfInBounds_toArray, List.set_cons_zero, List.set_cons_succ]
            refine wpAnyH_take (i := 6) (oi := { dst := some 58, op := Op.binOp BinOp.sub 3 (Operand.tmp 57) (Operand.const (Value.int IntKind.i64 1)) 3, type := 3, pos := "l03_normal.go:213", after := #[{ on := 5, ground := Ground.data }, { on := 2, ground := Ground.guard }], guard := some (2, true) }) (v := undef) rfl (by kernel_rfl) (by kernel_rfl) (by kernel_rfl) (fun _ _ _ h => h) (Or.inr ⟨by rfl, rfl⟩) (by assumption) ?_
            try simp only [Act.put, List.setIfInBounds_toArray, List.set_cons_zero, List.set_cons_succ]
            refine wpAnyH_take (i := 7) (oi := { dst := some 59, op := Op.indexAddr 26 (Operand.tmp 56) (Operand.tmp 58), type := 0, pos := "l03_normal.go:213", after := #[{ on := 4, ground := Ground.data }, { on := 6, ground := Ground.data }, { on := 2, ground := Ground.guard }], guard := some (2, true) }) (v := undef) rfl (by kernel_rfl) (by kernel_rfl) (by kernel_rfl) (fun _ _ _ h => h) (Or.inr ⟨by rfl, rfl⟩) (by assumption) ?_
            try simp only [Act.put, List.setIfInBounds_toArray, List.set_cons_zero, List.set_cons_succ]
            refine wpAnyH_take (i := 8) (oi := { dst := some 60, op := Op.load 53 (Operand.tmp 59), type := 53, pos := "l03_normal.go:213", after := #[{ on := 7, ground := Ground.data }, { on := 2, ground := Ground.guard }], guard := some (2, true) }) (v := undef) rfl (by kernel_rfl) (by kernel_rfl) (by kernel_rfl) (fun _ _ _ h => h) (Or.inr ⟨by rfl, rfl⟩) (by assumption) ?_
            try simp only [Act.put, List.setIfInBounds_toArray, List.set_cons_zero, List.set_cons_succ]
            refine wpAnyH_take (i := 9) (oi := { dst := some 61, op := Op.load 53 (Operand.tmp 5), type := 53, pos := "l03_normal.go:213", after := #[{ on := 2, ground := Ground.guard }], guard := some (2, true) }) (v := undef) rfl (by kernel_rfl) (by kernel_rfl) (by kernel_rfl) (fun _ _ _ h => h) (Or.inr ⟨by rfl, rfl⟩) (by assumption) ?_
            try simp only [Act.put, List.setIfInBounds_toArray, List.set_cons_zero, List.set_cons_succ]
            refine wpAnyH_take (i := 10) (oi := { dst := some 62, op := Op.move (Operand.tmp 3), type := 2, pos := "l03_normal.go:213", after := #[{ on := 2, ground := Ground.guard }], guard := some (2, true) }) (v := undef) rfl (by kernel_rfl) (by kernel_rfl) (by kernel_rfl) (fun _ _ _ h => h) (Or.inr ⟨by rfl, rfl⟩) (by assumption) ?_
            try simp only [Act.put, List.setIfInBounds_toArray, List.set_cons_zero, List.set_cons_succ]
            refine wpAnyH_ready (rs := [11]) (by kernel_rfl) (by simp) ?_
            refine AllReadyH.cons (o := { dst := some 63, op := Op.call { callee := Callee.value (Operand.func 47), args := #[Operand.tmp 60, Operand.tmp 61, Operand.tmp 62], argTypes := #[53, 53, 2] }, type := 4, pos := "l03_normal.go:213", after := #[{ on := 8, ground := Ground.data }, { on := 9, ground := Ground.data }, { on := 10, ground := Ground.data }, { on := 2, ground := Ground.chain }, { on := 2, ground := Ground.guard }], guard := some (2, true) }) rfl (fun K hK => ?_) AllReadyH.nil
            go_simp
            refine hK.out _ _ ?_ (fun hHeld => ?_)
            ·with_reducible exact RI.out.flat
            clear hK K
            try simp only [Act.put, List.setIfInBounds_toArray, List.set_cons_zero, List.set_cons_succ]
            refine wpAnyH_take (i := 12) (oi := { dst := some 64, op := Op.unOp UnOp.not 4 (Operand.tmp 63), type := 4, pos := "l03_normal.go:213", after := #[{ on := 11, ground := Ground.data }, { on := 2, ground := Ground.guard }], guard := some (2, true) }) (v := undef) rfl (by kernel_rfl) (by kernel_rfl) (by kernel_rfl) (fun _ _ _ h => h) (Or.inr ⟨by rfl, rfl⟩) (by assumption) ?_
            try simp only [Act.put, List.setIfInBounds_toArray, List.set_cons_zero, List.set_cons_succ]
            refine wpAnyH_take (i := 13) (oi := { dst := some 65, op := Op.pick (Operand.tmp 54) (Operand.tmp 64) (Operand.const (Value.bool false)), type := 4, pos := "l03_normal.go:213", after := #[{ on := 2, ground := Ground.data }, { on := 12, ground := Ground.data }], guard := none }) (v := ?_) rfl (by kernel_rfl) (by kernel_rfl) (by kernel_rfl) (fun _ _ _ h => h) (Or.inl ⟨by rfl, ?_⟩) (by assumption) ?_
            rotate_left
            ·intro w hSw
             (try dsimp only at hSw)
             go_simp
             try with_reducible rfl
            try simp only [Act.put, List.setIfInBounds_toArray, List.set_cons_zero, List.set_cons_succ]
            refine wpAnyH_done (by kernel_rfl) ?_ _
            go_wp2_with fail
            go_meet
            exact ⟨by rw [HQ2.out, HV.out]; rfl, F.out⟩
           ·have SP : Hid (Sim m (rowAt rs k)) := Lib.hid (okFac_sim H8.out (by rw [HL.out]; omega) (HIN.out k (by omega)))
            have HCP : Hid (∀ W, Below w.heap.size w W → Cells8 W b (off + k * 8) (rowAt rs k)) := Lib.hid fun W h => HC.out W h k (by omega)
            obtain ⟨r, hr⟩ : ∃ r, r = weightB m (rowAt rs k) row := ⟨_, rfl⟩
            have HV : Hid (okFac m rs (k + 1) = r) := Lib.hid (by
             cases r with
             | true => exact okFac_yes (by rw [← HROW.out]; exact HG.out.1) (by rw [← HROW.out]; exact HG.out.2.1) (by rw [← HROW.out]; exact HG.out.2.2) (.inr (by rw [← HROW.out]; exact hr.symm))
             | false => exact okFac_no4 (by omega) (by rw [← HROW.out]; exact hr.symm))
            obtain ⟨prev, hprev⟩ : ∃ prev, prev = rowAt rs k := ⟨_, rfl⟩
            rw [← hprev] at SP HCP hr
            have HR := Lib.hid hr.symm
            clear hr hprev
            have CP := Lib.hid (HCP.out _ F.out.bel)
            have t0 : decide ((0 : Int) < (k : Int) + 1) = true := decide_eq_true (by omega)
            have hw1 : IntKind.i64.wrap (k : Int) = k := IntWalk.i64_in _ (by omega)
            have b1 : (k : Int) < (n : Int) := by omega
            have b0 : (0 : Int) ≤ (k : Int) := by omega
            refine wp_region_held_drew (S := (fun w' => (w'.cell? ⟨g5, 0, none⟩ = some (.int .u8 (at8 row 0)) ∧ w'.cell? ⟨g5, 1, none⟩ = some (.int .u8 (at8 row 1)) ∧ w'.cell? ⟨g5, 2, none⟩ = some (.int .u8 (at8 row 2)) ∧ w'.cell? ⟨g5, 3, none⟩ = some (.int .u8 (at8 row 3)) ∧ w'.cell? ⟨g5, 4, none⟩ = some (.int .u8 (at8 row 4)) ∧ w'.cell? ⟨g5, 5, none⟩ = some (.int .u8 (at8 row 5)) ∧ w'.cell? ⟨g5, 6, none⟩ = some (.int .u8 (at8 row 6)) ∧ w'.cell? ⟨g5, 7, none⟩ = some (.int .u8 (at8 row 7))) ∧ (w'.cell? ⟨b, off + k * 8, none⟩ = some (.int .u8 (at8 prev 0)) ∧ w'.cell? ⟨b, off + k * 8 + 1, none⟩ = some (.int .u8 (at8 prev 1)) ∧ w'.cell? ⟨b, off + k * 8 + 2, none⟩ = some (.int .u8 (at8 prev 2)) ∧ w'.cell? ⟨b, off + k * 8 + 3, none⟩ = some (.int .u8 (at8 prev 3)) ∧ w'.cell? ⟨b, off + k * 8 + 4, none⟩ = some (.int .u8 (at8 prev 4)) ∧ w'.cell? ⟨b, off + k * 8 + 5, none⟩ = some (.int .u8 (at8 prev 5)) ∧ w'.cell? ⟨b, off + k * 8 + 6, none⟩ = some (.int .u8 (at8 prev 6)) ∧ w'.cell? ⟨b, off + k * 8 + 7, none⟩ = some (.int .u8 (at8 prev 7))) ∧ w'.cell? ⟨w.heap.size, 2, none⟩ = some (.slice (some ⟨b, off, none⟩) n cap))) (by kernel_rfl) ?_ (fun hHeld => ?_)
            ·with_reducible exact ⟨RI.out.flat, CP.out.flat, (F.out.box).cell2⟩
            refine wpAnyH_take (i := 0) (oi := { dst := some 52, op := Op.move (Operand.tmp 4), type := 3, pos := "l03_normal.go:213", after := #[], guard := none }) (v := ?_) rfl (by kernel_rfl) (by kernel_rfl) (by kernel_rfl) (fun _ _ _ h => h) (Or.inl ⟨by rfl, ?_⟩) (by assumption) ?_
            rotate_left
            ·intro w hSw
             (try dsimp only at hSw)
             go_simp
             try with_reducible rfl
            try simp only [Act.put, List.setIfInBounds_toArray, List.set_cons_zero, List.set_cons_succ]
            refine wpAnyH_take (i := 1) (oi := { dst := some 53, op := Op.binOp BinOp.gtr 3 (Operand.tmp 52) (Operand.const (Value.int IntKind.i64 0)) 3, type := 4, pos := "l03_normal.go:213", after := #[{ on := 0, ground := Ground.data }], guard := none }) (v := ?_) rfl (by kernel_rfl) (by kernel_rfl) (by kernel_rfl) (fun _ _ _ h => h) (Or.inl ⟨by rfl, ?_⟩) (by assumption) ?_
            rotate_left
            ·intro w hSw
             (try dsimp only at hSw)
             go_simp
             try with_reducible rfl
            try simp only [Act.put, List.setIfInBounds_toArray, List.set_cons_zero, List.set_cons_succ]
            refine wpAnyH_take (i := 2) (oi := { dst := some 54, op := Op.move (Operand.tmp 53), type := 4, pos := "l03_normal.go:213", after := #[{ on := 1, ground := Ground.data }], guard := none }) (v := ?_) rfl (by kernel_rfl) (by kernel_rfl) (by kernel_rfl) (fun _ _ _ h => h) (Or.inl ⟨by rfl, ?_⟩) (by assumption) ?_
            rotate_left
            ·intro w hSw
             (try dsimp only at hSw)
             go_simp
             try with_reducible rfl
            try simp only [Act.put, List.setIfInBounds_toArray, List.set_cons_zero, List.set_cons_succ]
            refine wpAnyH_take (i := 3) (oi := { dst := some 55, op := Op.fieldAddr 28 (Operand.tmp 1) 2, type := 0, pos := "l03_normal.go:213", after := #[{ on := 2, ground := Ground.guard }], guard := some (2, true) }) (v := ?_) rfl (by kernel_rfl) (by kernel_rfl) (by kernel_rfl) (fun _ _ _ h => h) (Or.inl ⟨by rfl, ?_⟩) (by assumption) ?_
            rotate_left
            ·intro w hSw
             (try dsimp only at hSw)
             go_simp
             try with_reducible rfl
            try simp only [Act.put, List.setIfInBounds_toArray, List.set_cons_zero, List.set_cons_succ]
            refine wpAnyH_take (i := 4) (oi := { dst := some 56, op := Op.load 26 (Operand.tmp 55), type := 26, pos := "l03_normal.go:213", after := #[{ on := 3, ground := Ground.data }, { on := 2, ground := Ground.guard }], guard := some (2, true) }) (v := ?_) rfl (by kernel_rfl) (by kernel_rfl) (by kernel_rfl) (fun _ _ _ h => h) (Or.inl ⟨by rfl, ?_⟩) (by assumption) ?_
            rotate_left
            ·intro w hSw
             (try dsimp only at hSw)
             go_simp
             try with_reducible rfl
            try simp only [Act.put, List.setIfInBounds_toArray, List.set_cons_zero, List.set_cons_succ]
            refine wpAnyH_take (i := 5) (oi := { dst := some 57, op := Op.move (Operand.tmp 4), type := 3, pos := "l03_normal.go:213", after := #[{ on := 2, ground := Ground.guard }], guard := some (2, true) }) (v := ?_) rfl (by kernel_rfl) (by kernel_rfl) (by kernel_rfl) (fun _ _ _ h => h) (Or.inl ⟨by rfl, ?_⟩) (by assumption) ?_
            rotate_left
            ·intro w hSw
             (try dsimp only at hSw)
             go_simp
             try with_reducible rfl
            try simp only [Act.put, List.setIfInBounds_toArray, List.set_cons_zero, List.set_cons_succ]
            refine wpAnyH_take (i := 6) (oi := { dst := some 58, op := Op.binOp BinOp.sub 3 (Operand.tmp 57) (Operand.const (Value.int IntKind.i64 1)) 3, type := 3, pos := "l03_normal.go:213", after := #[{ on := 5, ground := Ground.data }, { on := 2, ground := Ground.guard }], guard := some (2, true) }) (v := ?_) rfl (by kernel_rfl) (by kernel_rfl) (by kernel_rfl) (fun _ _ _ h => h) (Or.inl ⟨by rfl, ?_⟩) (by assumption) ?_
            rotate_left
            ·intro w hSw
             (try dsimp only at hSw)
             go_simp
             try with_reducible rfl
            try simp only [Act.put, List.setIfInBounds_toArray, List.set_cons_zero, List.set_cons_succ]
            refine wpAnyH_take (i := 7) (oi := { dst := some 59, op := Op.indexAddr 26 (Operand.tmp 56) (Operand.tmp 58), type := 0, pos := "l03_normal.go:213", after := #[{ on := 4, ground := Ground.data }, { on := 6, ground := Ground.data }, { on := 2, ground := Ground.guard }], guard := some (2, true) }) (v := ?_) rfl (by kernel_rfl) (by kernel_rfl) (by kernel_rfl) (fun _ _ _ h => h) (Or.inl ⟨by rfl, ?_⟩) (by assumption) ?_
            rotate_left
            ·intro w hSw
             (try dsimp only at hSw)
             go_simp
             try with_reducible rfl
            try simp only [Act.put, List.setIfInBounds_toArray, List.set_cons_zero, List.set_cons_succ]
            refine wpAnyH_take (i := 8) (oi := { dst := some 60, op := Op.load 53 (Operand.tmp 59), type := 53, pos := "l03_normal.go:213", after := #[{ on := 7, ground := Ground.data }, { on := 2, ground := Ground.guard }], guard := some (2, true) }) (v := ?_) rfl (by kernel_rfl) (by kernel_rfl) (by kernel_rfl) (fun _ _ _ h => h) (Or.inl ⟨by rfl, ?_⟩) (by assumption) ?_
            rotate_left
            ·intro w hSw
             (try dsimp only at hSw)
             go_simp
             try with_reducible rfl
            try simp only [Act.put, List.setIfInBounds_toArray, List.set_cons_zero, List.set_cons_succ]
            refine wpAnyH_take (i := 9) (oi := { dst := some 61, op := Op.load 53 (Operand.tmp 5), type := 53, pos := "l03_normal.go:213", after := #[{ on := 2, ground := Ground.guard }], guard := some (2, true) }) (v := ?_) rfl (by kernel_rfl) (by kernel_rfl) (by kernel_rfl) (fun _ _ _ h => h) (Or.inl ⟨by rfl, ?_⟩) (by assumption) ?_
            rotate_left
            ·intro w hSw
             (try dsimp only at hSw)
             go_simp
             try with_reducible rfl
            try simp only [Act.put, List.setIfInBounds_toArray, List.set_cons_zero, List.set_cons_succ]
            refine wpAnyH_take (i := 10) (oi := { dst := some 62, op := Op.move (Operand.tmp 3), type := 2, pos := "l03_normal.go:213", after := #[{ on := 2, ground := Ground.guard }], guard := some (2, true) }) (v := ?_) rfl (by kernel_rfl) (by kernel_rfl) (by kernel_rfl) (fun _ _ _ h => h) (Or.inl ⟨by rfl, ?_⟩) (by assumption) ?_
            rotate_left
            ·intro w hSw
             (try dsimp only at hSw)
             go_simp
             try with_reducible rfl
            try simp only [Act.put, List.setIfInBounds_toArray, List.set_cons_zero, List.set_cons_succ]
            refine wpAnyH_ready (rs := [11]) (by kernel_rfl) (by simp) ?_
            refine AllReadyH.cons (o := { dst := some 63, op := Op.call { callee := Callee.value (Operand.func 47), args := #[Operand.tmp 60, Operand.tmp 61, Operand.tmp 62], argTypes := #[53, 53, 2] }, type := 4, pos := "l03_normal.go:213", after := #[{ on := 8, ground := Ground.data }, { on := 9, ground := Ground.data }, { on := 10, ground := Ground.data }, { on := 2, ground := Ground.chain }, { on := 2, ground := Ground.guard }], guard := some (2, true) }) rfl (fun K hK => ?_) AllReadyH.nil
            go_simp
            (refine (isWeighed_any m prev row SP.out SR.out _).mono ?_; rw [HR.out]; rintro e w3 ⟨rfl, gg⟩; replace RI := Lib.hid (RI.out.below gg); replace F := Lib.hid (F.out.below gg); replace CP := Lib.hid (HCP.out _ F.out.bel))
            go_wp2_with fail
            refine hK.out _ _ ?_ (fun hHeld => ?_)
            ·with_reducible exact ⟨RI.out.flat, CP.out.flat, (F.out.box).cell2⟩
            clear hK K
            try simp only [Act.put, List.setIfInBounds_toArray, List.set_cons_zero, List.set_cons_succ]
            refine wpAnyH_take (i := 12) (oi := { dst := some 64, op := Op.unOp UnOp.not 4 (Operand.tmp 63), type := 4, pos := "l03_normal.go:213", after := #[{ on := 11, ground := Ground.data }, { on := 2, ground := Ground.guard }], guard := some (2, true) }) (v := ?_) rfl (by kernel_rfl) (by kernel_rfl) (by kernel_rfl) (fun _ _ _ h => h) (Or.inl ⟨by rfl, ?_⟩) (by assumption) ?_
            rotate_left
            ·intro w hSw
             (try dsimp only at hSw)
             go_simp
             try with_reducible rfl
            try simp only [Act.put, List.setIfInBounds_toArray, List.set_cons_zero, List.set_cons_succ]
            refine wpAnyH_take (i := 13) (oi := { dst := some 65, op := Op.pick (Operand.tmp 54) (Operand.tmp 64) (Operand.const (Value.bool false)), type := 4, pos := "l03_normal.go:213", after := #[{ on := 2, ground := Ground.data }, { on := 12, ground := Ground.data }], guard := none }) (v := ?_) rfl (by kernel_rfl) (by kernel_rfl) (by kernel_rfl) (fun _ _ _ h => h) (Or.inl ⟨by rfl, ?_⟩) (by assumption) ?_
            rotate_left
            ·intro w hSw
             (try dsimp only at hSw)
             go_simp
             try with_reducible rfl
            try simp only [Act.put, List.setIfInBounds_toArray, List.set_cons_zero, List.set_cons_succ]
            refine wpAnyH_done (by kernel_rfl) ?_ _
            go_wp2_with fail
            go_meet
            exact ⟨by rw [HQ2.out, HV.out], F.out⟩
          case rest =>
           obtain ⟨rfl, hF⟩ := hcut
           clear RI F
           have F := Lib.hid hF
           clear hF
           cases q2 with
           | true =>
            have HE : Hid (normB m p rs = false) := Lib.hid (normB_bad rfl k (by rw [HL.out]; exact hlt) (by have := HQ2.out; simpa using this))
            go_wp2
            go_ret
            exact ⟨ret_bool HE.out.symm, F.out.bel⟩
           | false =>
            have HK : Hid (okFac m rs k = true) := Lib.hid (by have := HQ2.out; simpa using this)
            go_wp2
            go_roundg (gk - 1)
            case measure => omega
            case rel => exact ⟨k + 1, by omega, by omega, by go_num, fun j hj => by
             by_cases e : j = k
             ·rw [e]; exact HK.out
             ·exact HIN.out j (by omega), F.out⟩
       ·have hkn : k = n := by omega
        have HE : Hid (normB m p rs = true) := Lib.hid (normB_all rfl HOK.out fun j hj => HIN.out j (by rw [HL.out] at hj; omega))
        go_wp2
        go_ret
        exact ⟨ret_bool HE.out.symm, F.out.bel⟩
   ·have HE : Hid (normB s p rs = false) := Lib.hid (normB_head fun h => g3 (by rw [← HL.out]; exact h.2.2.1))
    have g4 : limB p n = false := by simpa using g3
    clear g3
    go_enter Try.func26, Try.ntmps26
    have BB := Lib.hid (below1 w (.cells #[.int .i64 s, .int .i64 p, .slice a n cap] 28))
    go_wp2_with fail
    refine (within_any s p a n cap _ (by unfold maxLen; omega)).mono ?_
    rw [g4]
    rintro e w2 ⟨rfl, hb⟩
    replace BB := Lib.hid (below_go BB.out hb BB.out.size)
    clear hb
    go_wp2
    go_ret
    exact ⟨ret_bool HE.out.symm, BB.out⟩
  ·have HE : Hid (normB s p rs = false) := Lib.hid (normB_head fun h => by omega)
   go_enter Try.func26, Try.ntmps26
   go_wp2
   go_ret
   exact ⟨ret_bool HE.out.symm, below1 w _⟩
 ·have HE : Hid (normB s p rs = false) := Lib.hid (normB_head fun h => by omega)
  go_enter Try.func26, Try.ntmps26
  go_wp2
  go_ret
  exact ⟨ret_bool HE.out.symm, below1 w _⟩

end Go.Proofs.Ytpkhddndapcpjaa

