/- The model: is it a normal form? -/
import Derived.Test.YtpkhddndapcpjaaIpINorm2
import Derived.Test.YtpkhddndapcpjaaIpSWgt
import Derived.Test.YtpkhddndapcpjaaIpSIs
import Derived.Test.YtpkhddndapcpjaaIpSB
namespace Go.Proofs.Ytpkhddndapcpjaa
open Go.RowKit Go.ChangeShapes

set_option maxRecDepth 100000 in
set_option maxHeartbeats 4000000 in
theorem l03Is_any (s p : Int) (a : Option Addr) (n cap : Nat) (rs : List (List Int)) (w : World) (hr : ReadsA w a n rs) (hy : BytesA rs) (hn : n ≤ 1048576) :
  Calls Try.prog 21 #[.agg #[.int .i64 s, .int .i64 p, .slice a n cap]] w fun e w' => e = .returned (.bool (normB s p rs)) ∧ Below w.heap.size w w' := by
 have HL := Lib.hid hr.len
 have H8 := Lib.hid hr.rows
 have HY := Lib.hid hy; clear hy
 have R := Lib.hid hr; clear hr
 cases g1 : inB s 1 8 with
 | false =>
  have HE : Hid (normB s p rs = false) := Lib.hid (normB_head fun h => by rw [inB_not] at g1; omega)
  go_enter Try.func21, Try.ntmps21
  have A := Lib.hid (At3.place w (.int .i64 s) (.int .i64 p) (.slice a n cap) 28 w.heap.size rfl)
  go_wp2_with (go_at_call 34; refine (l01In_any _ _ _ _).mono ?_; rw [g1]; rintro e w' ⟨rfl, rfl⟩)
  go_ret
  exact ⟨ret_bool HE.out.symm, below1 w _⟩
 | true =>
  cases g2 : inB p (-200) 200 with
  | false =>
   have HE : Hid (normB s p rs = false) := Lib.hid (normB_head fun h => by have := h.2.2.1; unfold limB at this; rw [g2] at this; cases this)
   go_enter Try.func21, Try.ntmps21
   go_wp2_with (go_at_call 34; refine (l01In_any _ _ _ _).mono ?_; (first | rw [g1] | rw [g2]); rintro e w' ⟨rfl, rfl⟩)
   go_ret
   exact ⟨ret_bool HE.out.symm, below1 w _⟩
  | true =>
   by_cases g3 : n ≤ 200
   ·have t3 : decide ((200 : Int) < (n : Int)) = false := decide_eq_false (by omega)
    by_cases g4 : s < 2 ∧ p ≠ 0
    ·have HE : Hid (normB s p rs = false) := Lib.hid (normB_head fun h => by omega)
     obtain ⟨g5, g6⟩ := g4
     have t4 : decide (s < 2) = true := decide_eq_true g5
     have t5 : (p != 0) = true := by rw [bne_iff_ne]; exact g6
     clear g5 g6
     go_enter Try.func21, Try.ntmps21
     go_wp2_with (go_at_call 34; refine (l01In_any _ _ _ _).mono ?_; (first | rw [g1] | rw [g2]); rintro e w' ⟨rfl, rfl⟩)
     go_ret
     exact ⟨ret_bool HE.out.symm, below1 w _⟩
    ·have HOK : Hid (1 ≤ s ∧ s ≤ 8 ∧ limB p rs.length = true ∧ (2 ≤ s ∨ p = 0)) := Lib.hid ⟨((inB_iff _ _ _).1 g1).1, ((inB_iff _ _ _).1 g1).2, by rw [HL.out]; unfold limB; rw [g2]; simpa using g3, by omega⟩
     obtain ⟨m, hm⟩ : ∃ m : Nat, s = m := ⟨s.toNat, by have := HOK.out.1; omega⟩
     subst hm
     have m1 : 1 ≤ m := by have := HOK.out.1; omega
     have m8 : m ≤ 8 := by have := HOK.out.2.1; omega
     have HT : Hid (decide ((m : Int) < 2) = false ∨ decide ((m : Int) < 2) = true ∧ (p != 0) = false) := Lib.hid (by
      by_cases hm1 : (m : Int) < 2
      ·right; exact ⟨decide_eq_true hm1, by simp; omega⟩
      ·left; exact decide_eq_false hm1)
     clear g4
     go_enter Try.func21, Try.ntmps21
     have A := Lib.hid (At3.place w (.int .i64 m) (.int .i64 p) (.slice a n cap) 28 w.heap.size rfl)
     have BB := Lib.hid (below1 w (.cells #[.int .i64 m, .int .i64 p, .slice a n cap] 28))
     rcases HT.out with t4 | ⟨t4, t5⟩
     all_goals
      have F := Lib.hid (AtFac.mk A.out BB.out)
      clear A BB
      go_wp2_with (go_at_call 34; refine (l01In_any _ _ _ _).mono ?_; (first | rw [g1] | rw [g2]); rintro e w' ⟨rfl, rfl⟩)
      clear t3 t4 g1 g2
      go_loopg [4] n (fun g i wr => ∃ k : Nat, k ≤ n ∧ g + k = n ∧ i = .int .i64 k ∧ (∀ j, j < k → okFac m rs j = true) ∧ AtFac w wr m p a n cap)
      case atStart => exact ⟨0, Nat.zero_le _, rfl, rfl, fun j hj => absurd hj (Nat.not_lt_zero _), F.out⟩
      case round =>
       obtain ⟨k, hk, hgk, rfl, hin, hF⟩ := hrel
       clear F
       have HIN := Lib.hid hin
       have F := Lib.hid hF
       clear hin hF
       obtain ⟨za, ⟨q0, q1, q2⟩, _, _, _⟩ := F.out.box
       by_cases hlt : k < n
       ·obtain ⟨b, off, rfl, hbl, hcl⟩ := R.out.cells (Nat.lt_of_le_of_lt (Nat.zero_le _) hlt)
        have HC : Hid (∀ W, Below w.heap.size w W → ∀ j, j < n → Cells8 W b (off + j * 8) (rowAt rs j)) := Lib.hid fun W h j hj i hi => (h.cell (by exact hbl)).trans (hcl j hj i hi)
        clear hbl hcl
        have hC := HC.out wr F.out.bel k hlt
        have HR8 := Lib.hid (H8.out.at (j := k) (by rw [HL.out]; exact hlt))
        have HB8 : Hid (Bytes8 (rowAt rs k)) := Lib.hid (HY.out _ (rowAt_mem (by rw [HL.out]; exact hlt)))
        obtain ⟨row, hrow⟩ : ∃ row, row = rowAt rs k := ⟨_, rfl⟩
        rw [← hrow] at hC HR8 HB8
        have HROW := Lib.hid hrow
        clear hrow
        obtain ⟨c0, c1, c2, c3, c4, c5, c6, c7⟩ := hC.flat
        clear hC
        have zb := F.out.bel.size
        have RI := Lib.hid (Row8.place wr .u8 row 53 wr.heap.size rfl HR8.out)
        replace F := Lib.hid (F.out.alloc (.cells #[.int .u8 (at8 row 0), .int .u8 (at8 row 1), .int .u8 (at8 row 2), .int .u8 (at8 row 3), .int .u8 (at8 row 4), .int .u8 (at8 row 5), .int .u8 (at8 row 6), .int .u8 (at8 row 7)] 53))
        go_upto_region 8 with fail
        obtain ⟨W, hW⟩ : ∃ W, W = wr.alloc (.cells #[.int .u8 (at8 row 0), .int .u8 (at8 row 1), .int .u8 (at8 row 2), .int .u8 (at8 row 3), .int .u8 (at8 row 4), .int .u8 (at8 row 5), .int .u8 (at8 row 6), .int .u8 (at8 row 7)] 53) := ⟨_, rfl⟩
        have ro := RI.out
        have ff := F.out
        rw [← hW] at ro ff ⊢
        clear RI F hW c0 c1 c2 c3 c4 c5 c6 c7 q0 q1 q2
        obtain ⟨g5, hg5⟩ : ∃ g5, g5 = wr.heap.size := ⟨_, rfl⟩
        rw [← hg5] at ro zb ⊢
        clear hg5
        have RI := Lib.hid ro
        have F := Lib.hid ff
        clear ro ff
        obtain ⟨q2, hq2⟩ : ∃ q2, q2 = !okFac m rs k := ⟨_, rfl⟩
        have HQ2 := Lib.hid hq2
        clear hq2
        go_cut [75] (fun s75 wx => s75 = .bool q2 ∧ AtFac w wx m p (some ⟨b, off, none⟩) n cap)
        case first =>
         replace RI := Lib.hid RI.out.drew
         replace F := Lib.hid F.out.drew
         by_cases hsb : simB m row = true
         ·by_cases h2 : row = sameR m
          ·have heq1 : ∀ W, Sem.run Try.prog (Op.equalIn 10000 53 (arr8 .u8 row) (arr8 .u8 (sameR m))) W = .ok true W := fun W => by rw [equal8 row (sameR m) HR8.out (mapR_len _ _ m8) W, decide_eq_true h2]
           have HV : Hid (okFac m rs k = false) := Lib.hid (okFac_no2 (by rw [← HROW.out]; exact h2))
           clear h2
           refine wp_region_held_drew (S := (fun w' => w'.cell? ⟨g5, 0, none⟩ = some (.int .u8 (at8 row 0)) ∧ w'.cell? ⟨g5, 1, none⟩ = some (.int .u8 (at8 row 1)) ∧ w'.cell? ⟨g5, 2, none⟩ = some (.int .u8 (at8 row 2)) ∧ w'.cell? ⟨g5, 3, none⟩ = some (.int .u8 (at8 row 3)) ∧ w'.cell? ⟨g5, 4, none⟩ = some (.int .u8 (at8 row 4)) ∧ w'.cell? ⟨g5, 5, none⟩ = some (.int .u8 (at8 row 5)) ∧ w'.cell? ⟨g5, 6, none⟩ = some (.int .u8 (at8 row 6)) ∧ w'.cell? ⟨g5, 7, none⟩ = some (.int .u8 (at8 row 7)))) (by kernel_rfl) ?_ (fun hHeld => ?_)
           ·with_reducible exact RI.out.flat
           refine wpAnyH_take (i := 0) (oi := { dst := some 44, op := Op.load 53 (Operand.tmp 5), type := 53, pos := "l03_normal.go:24", after := #[], guard := none }) (v := ?_) rfl (by kernel_rfl) (by kernel_rfl) (by kernel_rfl) (fun _ _ _ h => h) (Or.inl ⟨by rfl, ?_⟩) (by assumption) ?_
           rotate_left
           ·intro w hSw
            (try dsimp only at hSw)
            go_simp
            try with_reducible rfl
           try simp only [Act.put, List.setIfInBounds_toArray, List.set_cons_zero, List.set_cons_succ]
           refine wpAnyH_take (i := 1) (oi := { dst := some 45, op := Op.move (Operand.tmp 3), type := 2, pos := "l03_normal.go:24", after := #[], guard := none }) (v := ?_) rfl (by kernel_rfl) (by kernel_rfl) (by kernel_rfl) (fun _ _ _ h => h) (Or.inl ⟨by rfl, ?_⟩) (by assumption) ?_
           rotate_left
           ·intro w hSw
            (try dsimp only at hSw)
            go_simp
            try with_reducible rfl
           try simp only [Act.put, List.setIfInBounds_toArray, List.set_cons_zero, List.set_cons_succ]
           refine wpAnyH_ready (rs := [2]) (by kernel_rfl) (by simp) ?_
           refine AllReadyH.cons (o := { dst := some 46, op := Op.call { callee := Callee.value (Operand.func 35), args := #[Operand.tmp 44, Operand.tmp 45], argTypes := #[53, 2] }, type := 4, pos := "l03_normal.go:24", after := #[{ on := 0, ground := Ground.data }, { on := 1, ground := Ground.data }], guard := none }) rfl (fun K hK => ?_) AllReadyH.nil
           go_simp
           (refine (l02Is_any m row HR8.out HB8.out _).mono ?_; rw [hsb]; rintro e w3 ⟨rfl, gg⟩; replace RI := Lib.hid (RI.out.below gg); replace F := Lib.hid (F.out.below gg))
           go_wp2_with fail
           refine hK.out _ _ ?_ (fun hHeld => ?_)
           ·with_reducible exact RI.out.flat
           clear hK K
           try simp only [Act.put, List.setIfInBounds_toArray, List.set_cons_zero, List.set_cons_succ]
           refine wpAnyH_take (i := 3) (oi := { dst := some 47, op := Op.unOp UnOp.not 4 (Operand.tmp 46), type := 4, pos := "l03_normal.go:24", after := #[{ on := 2, ground := Ground.data }], guard := none }) (v := ?_) rfl (by kernel_rfl) (by kernel_rfl) (by kernel_rfl) (fun _ _ _ h => h) (Or.inl ⟨by rfl, ?_⟩) (by assumption) ?_
           rotate_left
           ·intro w hSw
            (try dsimp only at hSw)
            go_simp
            try with_reducible rfl
           try simp only [Act.put, List.setIfInBounds_toArray, List.set_cons_zero, List.set_cons_succ]
           refine wpAnyH_take (i := 4) (oi := { dst := some 48, op := Op.move (Operand.tmp 47), type := 4, pos := "l03_normal.go:24", after := #[{ on := 3, ground := Ground.data }, { on := 2, ground := Ground.chain }], guard := none }) (v := ?_) rfl (by kernel_rfl) (by kernel_rfl) (by kernel_rfl) (fun _ _ _ h => h) (Or.inl ⟨by rfl, ?_⟩) (by assumption) ?_
           rotate_left
           ·intro w hSw
            (try dsimp only at hSw)
            go_simp
            try with_reducible rfl
           try simp only [Act.put, List.setIfInBounds_toArray, List.set_cons_zero, List.set_cons_succ]
           refine wpAnyH_take (i := 5) (oi := { dst := some 49, op := Op.load 53 (Operand.tmp 5), type := 53, pos := "l03_normal.go:24", after := #[{ on := 4, ground := Ground.guard }], guard := some (4, false) }) (v := ?_) rfl (by kernel_rfl) (by kernel_rfl) (by kernel_rfl) (fun _ _ _ h => h) (Or.inl ⟨by rfl, ?_⟩) (by assumption) ?_
           rotate_left
           ·intro w hSw
            (try dsimp only at hSw)
            go_simp
            try with_reducible rfl
           try simp only [Act.put, List.setIfInBounds_toArray, List.set_cons_zero, List.set_cons_succ]
           refine wpAnyH_take (i := 6) (oi := { dst := some 50, op := Op.move (Operand.tmp 3), type := 2, pos := "l03_normal.go:24", after := #[{ on := 4, ground := Ground.guard }], guard := some (4, false) }) (v := ?_) rfl (by kernel_rfl) (by kernel_rfl) (by kernel_rfl) (fun _ _ _ h => h) (Or.inl ⟨by rfl, ?_⟩) (by assumption) ?_
           rotate_left
           ·intro w hSw
            (try dsimp only at hSw)
            go_simp
            try with_reducible rfl
           try simp only [Act.put, List.setIfInBounds_toArray, List.set_cons_zero, List.set_cons_succ]
           refine wpAnyH_ready (rs := [7]) (by kernel_rfl) (by simp) ?_
           refine AllReadyH.cons (o := { dst := some 51, op := Op.call { callee := Callee.value (Operand.func 36), args := #[Operand.tmp 50], argTypes := #[2] }, type := 53, pos := "l03_normal.go:24", after := #[{ on := 6, ground := Ground.data }, { on := 4, ground := Ground.chain }, { on := 4, ground := Ground.guard }], guard := some (4, false) }) rfl (fun K hK => ?_) AllReadyH.nil
           go_simp
           (refine (l02Same_any m m8 _).mono ?_; rintro e w4 ⟨rfl, gg⟩; replace RI := Lib.hid (RI.out.below gg); replace F := Lib.hid (F.out.below gg))
           go_wp2_with fail
           refine hK.out _ _ ?_ (fun hHeld => ?_)
           ·with_reducible exact RI.out.flat
           clear hK K
           try simp only [Act.put, List.setIfInBounds_toArray, List.set_cons_zero, List.set_cons_succ]
           refine wpAnyH_take (i := 8) (oi := { dst := some 52, op := Op.binOp BinOp.eql 53 (Operand.tmp 49) (Operand.tmp 51) 53, type := 4, pos := "l03_normal.go:24", after := #[{ on := 5, ground := Ground.data }, { on := 7, ground := Ground.data }, { on := 4, ground := Ground.guard }], guard := some (4, false) }) (v := ?_) rfl (by kernel_rfl) (by kernel_rfl) (by kernel_rfl) (fun _ _ _ h => h) (Or.inl ⟨by rfl, ?_⟩) (by assumption) ?_
           rotate_left
           ·intro w hSw
            (try dsimp only at hSw)
            go_simp
            try with_reducible rfl
           try simp only [Act.put, List.setIfInBounds_toArray, List.set_cons_zero, List.set_cons_succ]
           refine wpAnyH_take (i := 9) (oi := { dst := some 53, op := Op.pick (Operand.tmp 48) (Operand.const (Value.bool true)) (Operand.tmp 52), type := 4, pos := "l03_normal.go:24", after := #[{ on := 4, ground := Ground.data }, { on := 8, ground := Ground.data }], guard := none }) (v := ?_) rfl (by kernel_rfl) (by kernel_rfl) (by kernel_rfl) (fun _ _ _ h => h) (Or.inl ⟨by rfl, ?_⟩) (by assumption) ?_
           rotate_left
           ·intro w hSw
            (try dsimp only at hSw)
            go_simp
            try with_reducible rfl
           try simp only [Act.put, List.setIfInBounds_toArray, List.set_cons_zero, List.set_cons_succ]
           refine wpAnyH_take (i := 10) (oi := { dst := some 54, op := Op.move (Operand.tmp 53), type := 4, pos := "l03_normal.go:24", after := #[{ on := 9, ground := Ground.data }, { on := 7, ground := Ground.chain }], guard := none }) (v := ?_) rfl (by kernel_rfl) (by kernel_rfl) (by kernel_rfl) (fun _ _ _ h => h) (Or.inl ⟨by rfl, ?_⟩) (by assumption) ?_
           rotate_left
           ·intro w hSw
            (try dsimp only at hSw)
            go_simp
            try with_reducible rfl
           try simp only [Act.put, List.setIfInBounds_toArray, List.set_cons_zero, List.set_cons_succ]
           refine wpAnyH_take (i := 11) (oi := { dst := some 55, op := Op.load 53 (Operand.tmp 5), type := 53, pos := "l03_normal.go:24", after := #[{ on := 10, ground := Ground.guard }], guard := some (10, false) }) (v := undef) rfl (by kernel_rfl) (by kernel_rfl) (by kernel_rfl) (fun _ _ _ h => h) (Or.inr ⟨by rfl, rfl⟩) (by assumption) ?_
           try simp only [Act.put, List.setIfInBounds_toArray, List.set_cons_zero, List.set_cons_succ]
           refine wpAnyH_take (i := 12) (oi := { dst := some 56, op := Op.move (Operand.tmp 3), type := 2, pos := "l03_normal.go:24", after := #[{ on := 10, ground := Ground.guard }], guard := some (10, false) }) (v := undef) rfl (by kernel_rfl) (by kernel_rfl) (by kernel_rfl) (fun _ _ _ h => h) (Or.inr ⟨by rfl, rfl⟩) (by assumption) ?_
           try simp only [Act.put, List.setIfInBounds_toArray, List.set_cons_zero, List.set_cons_succ]
           refine wpAnyH_ready (rs := [13]) (by kernel_rfl) (by simp) ?_
           refine AllReadyH.cons (o := { dst := some 57, op := Op.call { callee := Callee.value (Operand.func 37), args := #[Operand.tmp 56], argTypes := #[2] }, type := 53, pos := "l03_normal.go:24", after := #[{ on := 12, ground := Ground.data }, { on := 10, ground := Ground.chain }, { on := 10, ground := Ground.guard }], guard := some (10, false) }) rfl (fun K hK => ?_) AllReadyH.nil
           go_simp
           refine hK.out _ _ ?_ (fun hHeld => ?_)
           ·with_reducible exact RI.out.flat
           clear hK K
           try simp only [Act.put, List.setIfInBounds_toArray, List.set_cons_zero, List.set_cons_succ]
           refine wpAnyH_take (i := 14) (oi := { dst := some 58, op := Op.binOp BinOp.eql 53 (Operand.tmp 55) (Operand.tmp 57) 53, type := 4, pos := "l03_normal.go:24", after := #[{ on := 11, ground := Ground.data }, { on := 13, ground := Ground.data }, { on := 10, ground := Ground.guard }], guard := some (10, false) }) (v := undef) rfl (by kernel_rfl) (by kernel_rfl) (by kernel_rfl) (fun _ _ _ h => h) (Or.inr ⟨by rfl, rfl⟩) (by assumption) ?_
           try simp only [Act.put, List.setIfInBounds_toArray, List.set_cons_zero, List.set_cons_succ]
           refine wpAnyH_take (i := 15) (oi := { dst := some 59, op := Op.pick (Operand.tmp 54) (Operand.const (Value.bool true)) (Operand.tmp 58), type := 4, pos := "l03_normal.go:24", after := #[{ on := 10, ground := Ground.data }, { on := 14, ground := Ground.data }], guard := none }) (v := ?_) rfl (by kernel_rfl) (by kernel_rfl) (by kernel_rfl) (fun _ _ _ h => h) (Or.inl ⟨by rfl, ?_⟩) (by assumption) ?_
           rotate_left
           ·intro w hSw
            (try dsimp only at hSw)
            go_simp
            try with_reducible rfl
           try simp only [Act.put, List.setIfInBounds_toArray, List.set_cons_zero, List.set_cons_succ]
           refine wpAnyH_take (i := 16) (oi := { dst := some 60, op := Op.move (Operand.tmp 59), type := 4, pos := "l03_normal.go:24", after := #[{ on := 15, ground := Ground.data }, { on := 13, ground := Ground.chain }], guard := none }) (v := ?_) rfl (by kernel_rfl) (by kernel_rfl) (by kernel_rfl) (fun _ _ _ h => h) (Or.inl ⟨by rfl, ?_⟩) (by assumption) ?_
           rotate_left
           ·intro w hSw
            (try dsimp only at hSw)
            go_simp
            try with_reducible rfl
           try simp only [Act.put, List.setIfInBounds_toArray, List.set_cons_zero, List.set_cons_succ]
           refine wpAnyH_take (i := 17) (oi := { dst := some 61, op := Op.move (Operand.tmp 4), type := 3, pos := "l03_normal.go:24", after := #[{ on := 16, ground := Ground.guard }], guard := some (16, false) }) (v := undef) rfl (by kernel_rfl) (by kernel_rfl) (by kernel_rfl) (fun _ _ _ h => h) (Or.inr ⟨by rfl, rfl⟩) (by assumption) ?_
           try simp only [Act.put, List.setIfInBounds_toArray, List.set_cons_zero, List.set_cons_succ]
           refine wpAnyH_take (i := 18) (oi := { dst := some 62, op := Op.binOp BinOp.gtr 3 (Operand.tmp 61) (Operand.const (Value.int IntKind.i64 0)) 3, type := 4, pos := "l03_normal.go:24", after := #[{ on := 17, ground := Ground.data }, { on := 16, ground := Ground.guard }], guard := some (16, false) }) (v := undef) rfl (by kernel_rfl) (by kernel_rfl) (by kernel_rfl) (fun _ _ _ h => h) (Or.inr ⟨by rfl, rfl⟩) (by assumption) ?_
           try simp only [Act.put, List.setIfInBounds_toArray, List.set_cons_zero, List.set_cons_succ]
           refine wpAnyH_take (i := 19) (oi := { dst := some 63, op := Op.move (Operand.tmp 62), type := 4, pos := "l03_normal.go:24", after := #[{ on := 18, ground := Ground.data }, { on := 16, ground := Ground.chain }, { on := 16, ground := Ground.guard }], guard := some (16, false) }) (v := undef) rfl (by kernel_rfl) (by kernel_rfl) (by kernel_rfl) (fun _ _ _ h => h) (Or.inr ⟨by rfl, rfl⟩) (by assumption) ?_
           try simp only [Act.put, List.setIfInBounds_toArray, List.set_cons_zero, List.set_cons_succ]
           refine wpAnyH_take (i := 20) (oi := { dst := some 64, op := Op.fieldAddr 28 (Operand.tmp 1) 2, type := 0, pos := "l03_normal.go:24", after := #[{ on := 19, ground := Ground.guard }], guard := some (19, true) }) (v := undef) rfl (by kernel_rfl) (by kernel_rfl) (by kernel_rfl) (fun _ _ _ h => h) (Or.inr ⟨by rfl, rfl⟩) (by assumption) ?_
           try simp only [Act.put, List.setIfInBounds_toArray, List.set_cons_zero, List.set_cons_succ]
           refine wpAnyH_take (i := 21) (oi := { dst := some 65, op := Op.load 26 (Operand.tmp 64), type := 26, pos := "l03_normal.go:24", after := #[{ on := 20, ground := Ground.data }, { on := 19, ground := Ground.guard }], guard := some (19, true) }) (v := undef) rfl (by kernel_rfl) (by kernel_rfl) (by kernel_rfl) (fun _ _ _ h => h) (Or.inr ⟨by rfl, rfl⟩) (by assumption) ?_
           try simp only [Act.put, List.setIfInBounds_toArray, List.set_cons_zero, List.set_cons_succ]
           refine wpAnyH_take (i := 22) (oi := { dst := some 66, op := Op.move (Operand.tmp 4), type := 3, pos := "l03_normal.go:24", after := #[{ on := 19, ground := Ground.guard }], guard := some (19, true) }) (v := undef) rfl (by kernel_rfl) (by kernel_rfl) (by kernel_rfl) (fun _ _ _ h => h) (Or.inr ⟨by rfl, rfl⟩) (by assumption) ?_
           try simp only [Act.put, List.setIfInBounds_toArray, List.set_cons_zero, List.set_cons_succ]
           refine wpAnyH_take (i := 23) (oi := { dst := some 67, op := Op.binOp BinOp.sub 3 (Operand.tmp 66) (Operand.const (Value.int IntKind.i64 1)) 3, type := 3, pos := "l03_normal.go:24", after := #[{ on := 22, ground := Ground.data }, { on := 19, ground := Ground.guard }], guard := some (19, true) }) (v := undef) rfl (by kernel_rfl) (by kernel_rfl) (by kernel_rfl) (fun _ _ _ h => h) (Or.inr ⟨by rfl, rfl⟩) (by assumption) ?_
           try simp only [Act.put, List.setIfInBounds_toArray, List.set_cons_zero, List.set_cons_succ]
           refine wpAnyH_take (i := 24) (oi := { dst := some 68, op := Op.indexAddr 26 (Operand.tmp 65) (Operand.tmp 67), type := 0, pos := "l03_normal.go:24", after := #[{ on := 21, ground := Ground.data }, { on := 23, ground := Ground.data }, { on := 19, ground := Ground.guard }], guard := some (19, true) }) (v := undef) rfl (by kernel_rfl) (by kernel_rfl) (by kernel_rfl) (fun _ _ _ h => h) (Or.inr ⟨by rfl, rfl⟩) (by assumption) ?_
           try simp only [Act.put, List.setIfInBounds_toArray, List.set_cons_zero, List.set_cons_succ]
           refine wpAnyH_take (i := 25) (oi := { dst := some 69, op := Op.load 53 (Operand.tmp 68), type := 53, pos := "l03_normal.go:24", after := #[{ on := 24, ground := Ground.data }, { on := 19, ground := Ground.guard }], guard := some (19, true) }) (v := undef) rfl (by kernel_rfl) (by kernel_rfl) (by kernel_rfl) (fun _ _ _ h => h) (Or.inr ⟨by rfl, rfl⟩) (by assumption) ?_
           try simp only [Act.put, List.setIfInBounds_toArray, List.set_cons_zero, List.set_cons_succ]
           refine wpAnyH_take (i := 26) (oi := { dst := some 70, op := Op.load 53 (Operand.tmp 5), type := 53, pos := "l03_normal.go:24", after := #[{ on := 19, ground := Ground.guard }], guard := some (19, true) }) (v := undef) rfl (by kernel_rfl) (by kernel_rfl) (by kernel_rfl) (fun _ _ _ h => h) (Or.inr ⟨by rfl, rfl⟩) (by assumption) ?_
           try simp only [Act.put, List.setIfInBounds_toArray, List.set_cons_zero, List.set_cons_succ]
           refine wpAnyH_take (i := 27) (oi := { dst := some 71, op := Op.move (Operand.tmp 3), type := 2, pos := "l03_normal.go:24", after := #[{ on := 19, ground := Ground.guard }], guard := some (19, true) }) (v := undef) rfl (by kernel_rfl) (by kernel_rfl) (by kernel_rfl) (fun _ _ _ h => h) (Or.inr ⟨by rfl, rfl⟩) (by assumption) ?_
           try simp only [Act.put, List.setIfInBounds_toArray, List.set_cons_zero, List.set_cons_succ]
           refine wpAnyH_ready (rs := [28]) (by kernel_rfl) (by simp) ?_
           refine AllReadyH.cons (o := { dst := some 72, op := Op.call { callee := Callee.value (Operand.func 38), args := #[Operand.tmp 69, Operand.tmp 70, Operand.tmp 71], argTypes := #[53, 53, 2] }, type := 4, pos := "l03_normal.go:24", after := #[{ on := 25, ground := Ground.data }, { on := 26, ground := Ground.data }, { on := 27, ground := Ground.data }, { on := 19, ground := Ground.chain }, { on := 19, ground := Ground.guard }], guard := some (19, true) }) rfl (fun K hK => ?_) AllReadyH.nil
           go_simp
           refine hK.out _ _ ?_ (fun hHeld => ?_)
           ·with_reducible exact RI.out.flat
           clear hK K
           try simp only [Act.put, List.setIfInBounds_toArray, List.set_cons_zero, List.set_cons_succ]
           refine wpAnyH_take (i := 29) (oi := { dst := some 73, op := Op.unOp UnOp.not 4 (Operand.tmp 72), type := 4, pos := "l03_normal.go:24", after := #[{ on := 28, ground := Ground.data }, { on := 19, ground := Ground.guard }], guard := some (19, true) }) (v := undef) rfl (by kernel_rfl) (by kernel_rfl) (by kernel_rfl) (fun _ _ _ h => h) (Or.inr ⟨by rfl, rfl⟩) (by assumption) ?_
           try simp only [Act.put, List.setIfInBounds_toArray, List.set_cons_zero, List.set_cons_succ]
           refine wpAnyH_take (i := 30) (oi := { dst := some 74, op := Op.pick (Operand.tmp 63) (Operand.tmp 73) (Operand.const (Value.bool false)), type := 4, pos := "l03_normal.go:24", after := #[{ on := 19, ground := Ground.data }, { on := 29, ground := Ground.data }, { on := 16, ground := Ground.guard }], guard := some (16, false) }) (v := undef) rfl (by kernel_rfl) (by kernel_rfl) (by kernel_rfl) (fun _ _ _ h => h) (Or.inr ⟨by rfl, rfl⟩) (by assumption) ?_
           try simp only [Act.put, List.setIfInBounds_toArray, List.set_cons_zero, List.set_cons_succ]
           refine wpAnyH_take (i := 31) (oi := { dst := some 75, op := Op.pick (Operand.tmp 60) (Operand.const (Value.bool true)) (Operand.tmp 74), type := 4, pos := "l03_normal.go:24", after := #[{ on := 16, ground := Ground.data }, { on := 30, ground := Ground.data }], guard := none }) (v := ?_) rfl (by kernel_rfl) (by kernel_rfl) (by kernel_rfl) (fun _ _ _ h => h) (Or.inl ⟨by rfl, ?_⟩) (by assumption) ?_
           rotate_left
           ·intro w hSw
            (try dsimp only at hSw)
            go_simp
            try with_reducible rfl
           try simp only [Act.put, List.setIfInBounds_toArray, List.set_cons_zero, List.set_cons_succ]
           refine wpAnyH_done (by kernel_rfl) ?_ _
           go_wp2_with fail
           go_meet
           exact ⟨by rw [HQ2.out, HV.out]; rfl, F.out⟩
          ·have heq1 : ∀ W, Sem.run Try.prog (Op.equalIn 10000 53 (arr8 .u8 row) (arr8 .u8 (sameR m))) W = .ok false W := fun W => by rw [equal8 row (sameR m) HR8.out (mapR_len _ _ m8) W, decide_eq_false h2]
           by_cases h3 : row = halfR m
           ·have heq2 : ∀ W, Sem.run Try.prog (Op.equalIn 10000 53 (arr8 .u8 row) (arr8 .u8 (halfR m))) W = .ok true W := fun W => by rw [equal8 row (halfR m) HR8.out (mapR_len _ _ m8) W, decide_eq_true h3]
            have HV : Hid (okFac m rs k = false) := Lib.hid (okFac_no3 (by rw [← HROW.out]; exact h3))
            clear h2 h3
            refine wp_region_held_drew (S := (fun w' => w'.cell? ⟨g5, 0, none⟩ = some (.int .u8 (at8 row 0)) ∧ w'.cell? ⟨g5, 1, none⟩ = some (.int .u8 (at8 row 1)) ∧ w'.cell? ⟨g5, 2, none⟩ = some (.int .u8 (at8 row 2)) ∧ w'.cell? ⟨g5, 3, none⟩ = some (.int .u8 (at8 row 3)) ∧ w'.cell? ⟨g5, 4, none⟩ = some (.int .u8 (at8 row 4)) ∧ w'.cell? ⟨g5, 5, none⟩ = some (.int .u8 (at8 row 5)) ∧ w'.cell? ⟨g5, 6, none⟩ = some (.int .u8 (at8 row 6)) ∧ w'.cell? ⟨g5, 7, none⟩ = some (.int .u8 (at8 row 7)))) (by kernel_rfl) ?_ (fun hHeld => ?_)
            ·with_reducible exact RI.out.flat
            refine wpAnyH_take (i := 0) (oi := { dst := some 44, op := Op.load 53 (Operand.tmp 5), type := 53, pos := "l03_normal.go:24", after := #[], guard := none }) (v := ?_) rfl (by kernel_rfl) (by kernel_rfl) (by kernel_rfl) (fun _ _ _ h => h) (Or.inl ⟨by rfl, ?_⟩) (by assumption) ?_
            rotate_left
            ·intro w hSw
             (try dsimp only at hSw)
             go_simp
             try with_reducible rfl
            try simp only [Act.put, List.setIfInBounds_toArray, List.set_cons_zero, List.set_cons_succ]
            refine wpAnyH_take (i := 1) (oi := { dst := some 45, op := Op.move (Operand.tmp 3), type := 2, pos := "l03_normal.go:24", after := #[], guard := none }) (v := ?_) rfl (by kernel_rfl) (by kernel_rfl) (by kernel_rfl) (fun _ _ _ h => h) (Or.inl ⟨by rfl, ?_⟩) (by assumption) ?_
            rotate_left
            ·intro w hSw
             (try dsimp only at hSw)
             go_simp
             try with_reducible rfl
            try simp only [Act.put, List.setIfInBounds_toArray, List.set_cons_zero, List.set_cons_succ]
            refine wpAnyH_ready (rs := [2]) (by kernel_rfl) (by simp) ?_
            refine AllReadyH.cons (o := { dst := some 46, op := Op.call { callee := Callee.value (Operand.func 35), args := #[Operand.tmp 44, Operand.tmp 45], argTypes := #[53, 2] }, type := 4, pos := "l03_normal.go:24", after := #[{ on := 0, ground := Ground.data }, { on := 1, ground := Ground.data }], guard := none }) rfl (fun K hK => ?_) AllReadyH.nil
            go_simp
            (refine (l02Is_any m row HR8.out HB8.out _).mono ?_; rw [hsb]; rintro e w3 ⟨rfl, gg⟩; replace RI := Lib.hid (RI.out.below gg); replace F := Lib.hid (F.out.below gg))
            go_wp2_with fail
            refine hK.out _ _ ?_ (fun hHeld => ?_)
            ·with_reducible exact RI.out.flat
            clear hK K
            try simp only [Act.put, List.setIfInBounds_toArray, List.set_cons_zero, List.set_cons_succ]
            refine wpAnyH_take (i := 3) (oi := { dst := some 47, op := Op.unOp UnOp.not 4 (Operand.tmp 46), type := 4, pos := "l03_normal.go:24", after := #[{ on := 2, ground := Ground.data }], guard := none }) (v := ?_) rfl (by kernel_rfl) (by kernel_rfl) (by kernel_rfl) (fun _ _ _ h => h) (Or.inl ⟨by rfl, ?_⟩) (by assumption) ?_
            rotate_left
            ·intro w hSw
             (try dsimp only at hSw)
             go_simp
             try with_reducible rfl
            try simp only [Act.put, List.setIfInBounds_toArray, List.set_cons_zero, List.set_cons_succ]
            refine wpAnyH_take (i := 4) (oi := { dst := some 48, op := Op.move (Operand.tmp 47), type := 4, pos := "l03_normal.go:24", after := #[{ on := 3, ground := Ground.data }, { on := 2, ground := Ground.chain }], guard := none }) (v := ?_) rfl (by kernel_rfl) (by kernel_rfl) (by kernel_rfl) (fun _ _ _ h => h) (Or.inl ⟨by rfl, ?_⟩) (by assumption) ?_
            rotate_left
            ·intro w hSw
             (try dsimp only at hSw)
             go_simp
             try with_reducible rfl
            try simp only [Act.put, List.setIfInBounds_toArray, List.set_cons_zero, List.set_cons_succ]
            refine wpAnyH_take (i := 5) (oi := { dst := some 49, op := Op.load 53 (Operand.tmp 5), type := 53, pos := "l03_normal.go:24", after := #[{ on := 4, ground := Ground.guard }], guard := some (4, false) }) (v := ?_) rfl (by kernel_rfl) (by kernel_rfl) (by kernel_rfl) (fun _ _ _ h => h) (Or.inl ⟨by rfl, ?_⟩) (by assumption) ?_
            rotate_left
            ·intro w hSw
             (try dsimp only at hSw)
             go_simp
             try with_reducible rfl
            try simp only [Act.put, List.setIfInBounds_toArray, List.set_cons_zero, List.set_cons_succ]
            refine wpAnyH_take (i := 6) (oi := { dst := some 50, op := Op.move (Operand.tmp 3), type := 2, pos := "l03_normal.go:24", after := #[{ on := 4, ground := Ground.guard }], guard := some (4, false) }) (v := ?_) rfl (by kernel_rfl) (by kernel_rfl) (by kernel_rfl) (fun _ _ _ h => h) (Or.inl ⟨by rfl, ?_⟩) (by assumption) ?_
            rotate_left
            ·intro w hSw
             (try dsimp only at hSw)
             go_simp
             try with_reducible rfl
            try simp only [Act.put, List.setIfInBounds_toArray, List.set_cons_zero, List.set_cons_succ]
            refine wpAnyH_ready (rs := [7]) (by kernel_rfl) (by simp) ?_
            refine AllReadyH.cons (o := { dst := some 51, op := Op.call { callee := Callee.value (Operand.func 36), args := #[Operand.tmp 50], argTypes := #[2] }, type := 53, pos := "l03_normal.go:24", after := #[{ on := 6, ground := Ground.data }, { on := 4, ground := Ground.chain }, { on := 4, ground := Ground.guard }], guard := some (4, false) }) rfl (fun K hK => ?_) AllReadyH.nil
            go_simp
            (refine (l02Same_any m m8 _).mono ?_; rintro e w4 ⟨rfl, gg⟩; replace RI := Lib.hid (RI.out.below gg); replace F := Lib.hid (F.out.below gg))
            go_wp2_with fail
            refine hK.out _ _ ?_ (fun hHeld => ?_)
            ·with_reducible exact RI.out.flat
            clear hK K
            try simp only [Act.put, List.setIfInBounds_toArray, List.set_cons_zero, List.set_cons_succ]
            refine wpAnyH_take (i := 8) (oi := { dst := some 52, op := Op.binOp BinOp.eql 53 (Operand.tmp 49) (Operand.tmp 51) 53, type := 4, pos := "l03_normal.go:24", after := #[{ on := 5, ground := Ground.data }, { on := 7, ground := Ground.data }, { on := 4, ground := Ground.guard }], guard := some (4, false) }) (v := ?_) rfl (by kernel_rfl) (by kernel_rfl) (by kernel_rfl) (fun _ _ _ h => h) (Or.inl ⟨by rfl, ?_⟩) (by assumption) ?_
            rotate_left
            ·intro w hSw
             (try dsimp only at hSw)
             go_simp
             try with_reducible rfl
            try simp only [Act.put, List.setIfInBounds_toArray, List.set_cons_zero, List.set_cons_succ]
            refine wpAnyH_take (i := 9) (oi := { dst := some 53, op := Op.pick (Operand.tmp 48) (Operand.const (Value.bool true)) (Operand.tmp 52), type := 4, pos := "l03_normal.go:24", after := #[{ on := 4, ground := Ground.data }, { on := 8, ground := Ground.data }], guard := none }) (v := ?_) rfl (by kernel_rfl) (by kernel_rfl) (by kernel_rfl) (fun _ _ _ h => h) (Or.inl ⟨by rfl, ?_⟩) (by assumption) ?_
            rotate_left
            ·intro w hSw
             (try dsimp only at hSw)
             go_simp
             try with_reducible rfl
            try simp only [Act.put, List.setIfInBounds_toArray, List.set_cons_zero, List.set_cons_succ]
            refine wpAnyH_take (i := 10) (oi := { dst := some 54, op := Op.move (Operand.tmp 53), type := 4, pos := "l03_normal.go:24", after := #[{ on := 9, ground := Ground.data }, { on := 7, ground := Ground.chain }], guard := none }) (v := ?_) rfl (by kernel_rfl) (by kernel_rfl) (by kernel_rfl) (fun _ _ _ h => h) (Or.inl ⟨by rfl, ?_⟩) (by assumption) ?_
            rotate_left
            ·intro w hSw
             (try dsimp only at hSw)
             go_simp
             try with_reducible rfl
            try simp only [Act.put, List.setIfInBounds_toArray, List.set_cons_zero, List.set_cons_succ]
            refine wpAnyH_take (i := 11) (oi := { dst := some 55, op := Op.load 53 (Operand.tmp 5), type := 53, pos := "l03_normal.go:24", after := #[{ on := 10, ground := Ground.guard }], guard := some (10, false) }) (v := ?_) rfl (by kernel_rfl) (by kernel_rfl) (by kernel_rfl) (fun _ _ _ h => h) (Or.inl ⟨by rfl, ?_⟩) (by assumption) ?_
            rotate_left
            ·intro w hSw
             (try dsimp only at hSw)
             go_simp
             try with_reducible rfl
            try simp only [Act.put, List.setIfInBounds_toArray, List.set_cons_zero, List.set_cons_succ]
            refine wpAnyH_take (i := 12) (oi := { dst := some 56, op := Op.move (Operand.tmp 3), type := 2, pos := "l03_normal.go:24", after := #[{ on := 10, ground := Ground.guard }], guard := some (10, false) }) (v := ?_) rfl (by kernel_rfl) (by kernel_rfl) (by kernel_rfl) (fun _ _ _ h => h) (Or.inl ⟨by rfl, ?_⟩) (by assumption) ?_
            rotate_left
            ·intro w hSw
             (try dsimp only at hSw)
             go_simp
             try with_reducible rfl
            try simp only [Act.put, List.setIfInBounds_toArray, List.set_cons_zero, List.set_cons_succ]
            refine wpAnyH_ready (rs := [13]) (by kernel_rfl) (by simp) ?_
            refine AllReadyH.cons (o := { dst := some 57, op := Op.call { callee := Callee.value (Operand.func 37), args := #[Operand.tmp 56], argTypes := #[2] }, type := 53, pos := "l03_normal.go:24", after := #[{ on := 12, ground := Ground.data }, { on := 10, ground := Ground.chain }, { on := 10, ground := Ground.guard }], guard := some (10, false) }) rfl (fun K hK => ?_) AllReadyH.nil
            go_simp
            (refine (l02Half_any m m8 _).mono ?_; rintro e w5 ⟨rfl, gg⟩; replace RI := Lib.hid (RI.out.below gg); replace F := Lib.hid (F.out.below gg))
            go_wp2_with fail
            refine hK.out _ _ ?_ (fun hHeld => ?_)
            ·with_reducible exact RI.out.flat
            clear hK K
            try simp only [Act.put, List.setIfInBounds_toArray, List.set_cons_zero, List.set_cons_succ]
            refine wpAnyH_take (i := 14) (oi := { dst := some 58, op := Op.binOp BinOp.eql 53 (Operand.tmp 55) (Operand.tmp 57) 53, type := 4, pos := "l03_normal.go:24", after := #[{ on := 11, ground := Ground.data }, { on := 13, ground := Ground.data }, { on := 10, ground := Ground.guard }], guard := some (10, false) }) (v := ?_) rfl (by kernel_rfl) (by kernel_rfl) (by kernel_rfl) (fun _ _ _ h => h) (Or.inl ⟨by rfl, ?_⟩) (by assumption) ?_
            rotate_left
            ·intro w hSw
             (try dsimp only at hSw)
             go_simp
             try with_reducible rfl
            try simp only [Act.put, List.setIfInBounds_toArray, List.set_cons_zero, List.set_cons_succ]
            refine wpAnyH_take (i := 15) (oi := { dst := some 59, op := Op.pick (Operand.tmp 54) (Operand.const (Value.bool true)) (Operand.tmp 58), type := 4, pos := "l03_normal.go:24", after := #[{ on := 10, ground := Ground.data }, { on := 14, ground := Ground.data }], guard := none }) (v := ?_) rfl (by kernel_rfl) (by kernel_rfl) (by kernel_rfl) (fun _ _ _ h => h) (Or.inl ⟨by rfl, ?_⟩) (by assumption) ?_
            rotate_left
            ·intro w hSw
             (try dsimp only at hSw)
             go_simp
             try with_reducible rfl
            try simp only [Act.put, List.setIfInBounds_toArray, List.set_cons_zero, List.set_cons_succ]
            refine wpAnyH_take (i := 16) (oi := { dst := some 60, op := Op.move (Operand.tmp 59), type := 4, pos := "l03_normal.go:24", after := #[{ on := 15, ground := Ground.data }, { on := 13, ground := Ground.chain }], guard := none }) (v := ?_) rfl (by kernel_rfl) (by kernel_rfl) (by kernel_rfl) (fun _ _ _ h => h) (Or.inl ⟨by rfl, ?_⟩) (by assumption) ?_
            rotate_left
            ·intro w hSw
             (try dsimp only at hSw)
             go_simp
             try with_reducible rfl
            try simp only [Act.put, List.setIfInBounds_toArray, List.set_cons_zero, List.set_cons_succ]
            refine wpAnyH_take (i := 17) (oi := { dst := some 61, op := Op.move (Operand.tmp 4), type := 3, pos := "l03_normal.go:24", after := #[{ on := 16, ground := Ground.guard }], guard := some (16, false) }) (v := undef) rfl (by kernel_rfl) (by kernel_rfl) (by kernel_rfl) (fun _ _ _ h => h) (Or.inr ⟨by rfl, rfl⟩) (by assumption) ?_
            try simp only [Act.put, List.setIfInBounds_toArray, List.set_cons_zero, List.set_cons_succ]
            refine wpAnyH_take (i := 18) (oi := { dst := some 62, op := Op.binOp BinOp.gtr 3 (Operand.tmp 61) (Operand.const (Value.int IntKind.i64 0)) 3, type := 4, pos := "l03_normal.go:24", after := #[{ on := 17, ground := Ground.data }, { on := 16, ground := Ground.guard }], guard := some (16, false) }) (v := undef) rfl (by kernel_rfl) (by kernel_rfl) (by kernel_rfl) (fun _ _ _ h => h) (Or.inr ⟨by rfl, rfl⟩) (by assumption) ?_
            try simp only [Act.put, List.setIfInBounds_toArray, List.set_cons_zero, List.set_cons_succ]
            refine wpAnyH_take (i := 19) (oi := { dst := some 63, op := Op.move (Operand.tmp 62), type := 4, pos := "l03_normal.go:24", after := #[{ on := 18, ground := Ground.data }, { on := 16, ground := Ground.chain }, { on := 16, ground := Ground.guard }], guard := some (16, false) }) (v := undef) rfl (by kernel_rfl) (by kernel_rfl) (by kernel_rfl) (fun _ _ _ h => h) (Or.inr ⟨by rfl, rfl⟩) (by assumption) ?_
            try simp only [Act.put, List.setIfInBounds_toArray, List.set_cons_zero, List.set_cons_succ]
            refine wpAnyH_take (i := 20) (oi := { dst := some 64, op := Op.fieldAddr 28 (Operand.tmp 1) 2, type := 0, pos := "l03_normal.go:24", after := #[{ on := 19, ground := Ground.guard }], guard := some (19, true) }) (v := undef) rfl (by kernel_rfl) (by kernel_rfl) (by kernel_rfl) (fun _ _ _ h => h) (Or.inr ⟨by rfl, rfl⟩) (by assumption) ?_
            try simp only [Act.put, List.setIfInBounds_toArray, List.set_cons_zero, List.set_cons_succ]
            refine wpAnyH_take (i := 21) (oi := { dst := some 65, op := Op.load 26 (Operand.tmp 64), type := 26, pos := "l03_normal.go:24", after := #[{ on := 20, ground := Ground.data }, { on := 19, ground := Ground.guard }], guard := some (19, true) }) (v := undef) rfl (by kernel_rfl) (by kernel_rfl) (by kernel_rfl) (fun _ _ _ h => h) (Or.inr ⟨by rfl, rfl⟩) (by assumption) ?_
            try simp only [Act.put, List.setIfInBounds_toArray, List.set_cons_zero, List.set_cons_succ]
            refine wpAnyH_take (i := 22) (oi := { dst := some 66, op := Op.move (Operand.tmp 4), type := 3, pos := "l03_normal.go:24", after := #[{ on := 19, ground := Ground.guard }], guard := some (19, true) }) (v := undef) rfl (by kernel_rfl) (by kernel_rfl) (by kernel_rfl) (fun _ _ _ h => h) (Or.inr ⟨by rfl, rfl⟩) (by assumption) ?_
            try simp only [Act.put, List.setIfInBounds_toArray, List.set_cons_zero, List.set_cons_succ]
            refine wpAnyH_take (i := 23) (oi := { dst := some 67, op := Op.binOp BinOp.sub 3 (Operand.tmp 66) (Operand.const (Value.int IntKind.i64 1)) 3, type := 3, pos := "l03_normal.go:24", after := #[{ on := 22, ground := Ground.data }, { on := 19, ground := Ground.guard }], guard := some (19, true) }) (v := undef) rfl (by kernel_rfl) (by kernel_rfl) (by kernel_rfl) (fun _ _ _ h => h) (Or.inr ⟨by rfl, rfl⟩) (by assumption) ?_
            try simp only [Act.put, List.setIfInBounds_toArray, List.set_cons_zero, List.set_cons_succ]
            refine wpAnyH_take (i := 24) (oi := { dst := some 68, op := Op.indexAddr 26 (Operand.tmp 65) (Operand.tmp 67), type := 0, pos := "l03_normal.go:24", after := #[{ on := 21, ground := Ground.data }, { on := 23, ground := Ground.data }, { on := 19, ground := Ground.guard }], guard := some (19, true) }) (v := undef) rfl (by kernel_rfl) (by kernel_rfl) (by kernel_rfl) (fun _ _ _ h => h) (Or.inr ⟨by rfl, rfl⟩) (by assumption) ?_
            try simp only [Act.put, List.setIfInBounds_toArray, List.set_cons_zero, List.set_cons_succ]
            refine wpAnyH_take (i := 25) (oi := { dst := some 69, op := Op.load 53 (Operand.tmp 68), type := 53, pos := "l03_normal.go:24", after := #[{ on := 24, ground := Ground.data }, { on := 19, ground := Ground.guard }], guard := some (19, true) }) (v := undef) rfl (by kernel_rfl) (by kernel_rfl) (by kernel_rfl) (fun _ _ _ h => h) (Or.inr ⟨by rfl, rfl⟩) (by assumption) ?_
            try simp only [Act.put, List.setIfInBounds_toArray, List.set_cons_zero, List.set_cons_succ]
            refine wpAnyH_take (i := 26) (oi := { dst := some 70, op := Op.load 53 (Operand.tmp 5), type := 53, pos := "l03_normal.go:24", after := #[{ on := 19, ground := Ground.guard }], guard := some (19, true) }) (v := undef) rfl (by kernel_rfl) (by kernel_rfl) (by kernel_rfl) (fun _ _ _ h => h) (Or.inr ⟨by rfl, rfl⟩) (by assumption) ?_
            try simp only [Act.put, List.setIfInBounds_toArray, List.set_cons_zero, List.set_cons_succ]
            refine wpAnyH_take (i := 27) (oi := { dst := some 71, op := Op.move (Operand.tmp 3), type := 2, pos := "l03_normal.go:24", after := #[{ on := 19, ground := Ground.guard }], guard := some (19, true) }) (v := undef) rfl (by kernel_rfl) (by kernel_rfl) (by kernel_rfl) (fun _ _ _ h => h) (Or.inr ⟨by rfl, rfl⟩) (by assumption) ?_
            try simp only [Act.put, List.setIfInBounds_toArray, List.set_cons_zero, List.set_cons_succ]
            refine wpAnyH_ready (rs := [28]) (by kernel_rfl) (by simp) ?_
            refine AllReadyH.cons (o := { dst := some 72, op := Op.call { callee := Callee.value (Operand.func 38), args := #[Operand.tmp 69, Operand.tmp 70, Operand.tmp 71], argTypes := #[53, 53, 2] }, type := 4, pos := "l03_normal.go:24", after := #[{ on := 25, ground := Ground.data }, { on := 26, ground := Ground.data }, { on := 27, ground := Ground.data }, { on := 19, ground := Ground.chain }, { on := 19, ground := Ground.guard }], guard := some (19, true) }) rfl (fun K hK => ?_) AllReadyH.nil
            go_simp
            refine hK.out _ _ ?_ (fun hHeld => ?_)
            ·with_reducible exact RI.out.flat
            clear hK K
            try simp only [Act.put, List.setIfInBounds_toArray, List.set_cons_zero, List.set_cons_succ]
            refine wpAnyH_take (i := 29) (oi := { dst := some 73, op := Op.unOp UnOp.not 4 (Operand.tmp 72), type := 4, pos := "l03_normal.go:24", after := #[{ on := 28, ground := Ground.data }, { on := 19, ground := Ground.guard }], guard := some (19, true) }) (v := undef) rfl (by kernel_rfl) (by kernel_rfl) (by kernel_rfl) (fun _ _ _ h => h) (Or.inr ⟨by rfl, rfl⟩) (by assumption) ?_
            try simp only [Act.put, List.setIfInBounds_toArray, List.set_cons_zero, List.set_cons_succ]
            refine wpAnyH_take (i := 30) (oi := { dst := some 74, op := Op.pick (Operand.tmp 63) (Operand.tmp 73) (Operand.const (Value.bool false)), type := 4, pos := "l03_normal.go:24", after := #[{ on := 19, ground := Ground.data }, { on := 29, ground := Ground.data }, { on := 16, ground := Ground.guard }], guard := some (16, false) }) (v := undef) rfl (by kernel_rfl) (by kernel_rfl) (by kernel_rfl) (fun _ _ _ h => h) (Or.inr ⟨by rfl, rfl⟩) (by assumption) ?_
            try simp only [Act.put, List.setIfInBounds_toArray, List.set_cons_zero, List.set_cons_succ]
            refine wpAnyH_take (i := 31) (oi := { dst := some 75, op := Op.pick (Operand.tmp 60) (Operand.const (Value.bool true)) (Operand.tmp 74), type := 4, pos := "l03_normal.go:24", after := #[{ on := 16, ground := Ground.data }, { on := 30, ground := Ground.data }], guard := none }) (v := ?_) rfl (by kernel_rfl) (by kernel_rfl) (by kernel_rfl) (fun _ _ _ h => h) (Or.inl ⟨by rfl, ?_⟩) (by assumption) ?_
            rotate_left
            ·intro w hSw
             (try dsimp only at hSw)
             go_simp
             try with_reducible rfl
            try simp only [Act.put, List.setIfInBounds_toArray, List.set_cons_zero, List.set_cons_succ]
            refine wpAnyH_done (by kernel_rfl) ?_ _
            go_wp2_with fail
            go_meet
            exact ⟨by rw [HQ2.out, HV.out]; rfl, F.out⟩
           ·have heq2 : ∀ W, Sem.run Try.prog (Op.equalIn 10000 53 (arr8 .u8 row) (arr8 .u8 (halfR m))) W = .ok false W := fun W => by rw [equal8 row (halfR m) HR8.out (mapR_len _ _ m8) W, decide_eq_false h3]
            have SR : Hid (Sim m row) := Lib.hid (by
             obtain ⟨m', hm', h⟩ := (simB_iff _ _ HR8.out).1 hsb
             have : m' = m := by omega
             subst this
             exact h)
            have HG : Hid (simB m row = true ∧ row ≠ sameR m ∧ row ≠ halfR m) := Lib.hid ⟨hsb, h2, h3⟩
            clear h2 h3
            obtain rfl | ⟨k, rfl⟩ : k = 0 ∨ ∃ k', k = k' + 1 := by cases k <;> simp
            ·have HV : Hid (okFac m rs 0 = true) := Lib.hid (okFac_yes (by rw [← HROW.out]; exact HG.out.1) (by rw [← HROW.out]; exact HG.out.2.1) (by rw [← HROW.out]; exact HG.out.2.2) (.inl rfl))
             refine wp_region_held_drew (S := (fun w' => w'.cell? ⟨g5, 0, none⟩ = some (.int .u8 (at8 row 0)) ∧ w'.cell? ⟨g5, 1, none⟩ = some (.int .u8 (at8 row 1)) ∧ w'.cell? ⟨g5, 2, none⟩ = some (.int .u8 (at8 row 2)) ∧ w'.cell? ⟨g5, 3, none⟩ = some (.int .u8 (at8 row 3)) ∧ w'.cell? ⟨g5, 4, none⟩ = some (.int .u8 (at8 row 4)) ∧ w'.cell? ⟨g5, 5, none⟩ = some (.int .u8 (at8 row 5)) ∧ w'.cell? ⟨g5, 6, none⟩ = some (.int .u8 (at8 row 6)) ∧ w'.cell? ⟨g5, 7, none⟩ = some (.int .u8 (at8 row 7)))) (by kernel_rfl) ?_ (fun hHeld => ?_)
             ·with_reducible exact RI.out.flat
             refine wpAnyH_take (i := 0) (oi := { dst := some 44, op := Op.load 53 (Operand.tmp 5), type := 53, pos := "l03_normal.go:24", after := #[], guard := none }) (v := ?_) rfl (by kernel_rfl) (by kernel_rfl) (by kernel_rfl) (fun _ _ _ h => h) (Or.inl ⟨by rfl, ?_⟩) (by assumption) ?_
             rotate_left
             ·intro w hSw
              (try dsimp only at hSw)
              go_simp
              try with_reducible rfl
             try simp only [Act.put, List.setIfInBounds_toArray, List.set_cons_zero, List.set_cons_succ]
             refine wpAnyH_take (i := 1) (oi := { dst := some 45, op := Op.move (Operand.tmp 3), type := 2, pos := "l03_normal.go:24", after := #[], guard := none }) (v := ?_) rfl (by kernel_rfl) (by kernel_rfl) (by kernel_rfl) (fun _ _ _ h => h) (Or.inl ⟨by rfl, ?_⟩) (by assumption) ?_
             rotate_left
             ·intro w hSw
              (try dsimp only at hSw)
              go_simp
              try with_reducible rfl
             try simp only [Act.put, List.setIfInBounds_toArray, List.set_cons_zero, List.set_cons_succ]
             refine wpAnyH_ready (rs := [2]) (by kernel_rfl) (by simp) ?_
             refine AllReadyH.cons (o := { dst := some 46, op := Op.call { callee := Callee.value (Operand.func 35), args := #[Operand.tmp 44, Operand.tmp 45], argTypes := #[53, 2] }, type := 4, pos := "l03_normal.go:24", after := #[{ on := 0, ground := Ground.data }, { on := 1, ground := Ground.data }], guard := none }) rfl (fun K hK => ?_) AllReadyH.nil
             go_simp
             (refine (l02Is_any m row HR8.out HB8.out _).mono ?_; rw [hsb]; rintro e w3 ⟨rfl, gg⟩; replace RI := Lib.hid (RI.out.below gg); replace F := Lib.hid (F.out.below gg))
             go_wp2_with fail
             refine hK.out _ _ ?_ (fun hHeld => ?_)
             ·with_reducible exact RI.out.flat
             clear hK K
             try simp only [Act.put, List.setIfInBounds_toArray, List.set_cons_zero, List.set_cons_succ]
             refine wpAnyH_take (i := 3) (oi := { dst := some 47, op := Op.unOp UnOp.not 4 (Operand.tmp 46), type := 4, pos := "l03_normal.go:24", after := #[{ on := 2, ground := Ground.data }], guard := none }) (v := ?_) rfl (by kernel_rfl) (by kernel_rfl) (by kernel_rfl) (fun _ _ _ h => h) (Or.inl ⟨by rfl, ?_⟩) (by assumption) ?_
             rotate_left
             ·intro w hSw
              (try dsimp only at hSw)
              go_simp
              try with_reducible rfl
             try simp only [Act.put, List.setIfInBounds_toArray, List.set_cons_zero, List.set_cons_succ]
             refine wpAnyH_take (i := 4) (oi := { dst := some 48, op := Op.move (Operand.tmp 47), type := 4, pos := "l03_normal.go:24", after := #[{ on := 3, ground := Ground.data }, { on := 2, ground := Ground.chain }], guard := none }) (v := ?_) rfl (by kernel_rfl) (by kernel_rfl) (by kernel_rfl) (fun _ _ _ h => h) (Or.inl ⟨by rfl, ?_⟩) (by assumption) ?_
             rotate_left
             ·intro w hSw
              (try dsimp only at hSw)
              go_simp
              try with_reducible rfl
             try simp only [Act.put, List.setIfInBounds_toArray, List.set_cons_zero, List.set_cons_succ]
             refine wpAnyH_take (i := 5) (oi := { dst := some 49, op := Op.load 53 (Operand.tmp 5), type := 53, pos := "l03_normal.go:24", after := #[{ on := 4, ground := Ground.guard }], guard := some (4, false) }) (v := ?_) rfl (by kernel_rfl) (by kernel_rfl) (by kernel_rfl) (fun _ _ _ h => h) (Or.inl ⟨by rfl, ?_⟩) (by assumption) ?_
             rotate_left
             ·intro w hSw
              (try dsimp only at hSw)
              go_simp
              try with_reducible rfl
             try simp only [Act.put, List.setIfInBounds_toArray, List.set_cons_zero, List.set_cons_succ]
             refine wpAnyH_take (i := 6) (oi := { dst := some 50, op := Op.move (Operand.tmp 3), type := 2, pos := "l03_normal.go:24", after := #[{ on := 4, ground := Ground.guard }], guard := some (4, false) }) (v := ?_) rfl (by kernel_rfl) (by kernel_rfl) (by kernel_rfl) (fun _ _ _ h => h) (Or.inl ⟨by rfl, ?_⟩) (by assumption) ?_
             rotate_left
             ·intro w hSw
              (try dsimp only at hSw)
              go_simp
              try with_reducible rfl
             try simp only [Act.put, List.setIfInBounds_toArray, List.set_cons_zero, List.set_cons_succ]
             refine wpAnyH_ready (rs := [7]) (by kernel_rfl) (by simp) ?_
             refine AllReadyH.cons (o := { dst := some 51, op := Op.call { callee := Callee.value (Operand.func 36), args := #[Operand.tmp 50], argTypes := #[2] }, type := 53, pos := "l03_normal.go:24", after := #[{ on := 6, ground := Ground.data }, { on := 4, ground := Ground.chain }, { on := 4, ground := Ground.guard }], guard := some (4, false) }) rfl (fun K hK => ?_) AllReadyH.nil
             go_simp
             (refine (l02Same_any m m8 _).mono ?_; rintro e w4 ⟨rfl, gg⟩; replace RI := Lib.hid (RI.out.below gg); replace F := Lib.hid (F.out.below gg))
             go_wp2_with fail
             refine hK.out _ _ ?_ (fun hHeld => ?_)
             ·with_reducible exact RI.out.flat
             clear hK K
             try simp only [Act.put, List.setIfInBounds_toArray, List.set_cons_zero, List.set_cons_succ]
             refine wpAnyH_take (i := 8) (oi := { dst := some 52, op := Op.binOp BinOp.eql 53 (Operand.tmp 49) (Operand.tmp 51) 53, type := 4, pos := "l03_normal.go:24", after := #[{ on := 5, ground := Ground.data }, { on := 7, ground := Ground.data }, { on := 4, ground := Ground.guard }], guard := some (4, false) }) (v := ?_) rfl (by kernel_rfl) (by kernel_rfl) (by kernel_rfl) (fun _ _ _ h => h) (Or.inl ⟨by rfl, ?_⟩) (by assumption) ?_
             rotate_left
             ·intro w hSw
              (try dsimp only at hSw)
              go_simp
              try with_reducible rfl
             try simp only [Act.put, List.setIfInBounds_toArray, List.set_cons_zero, List.set_cons_succ]
             refine wpAnyH_take (i := 9) (oi := { dst := some 53, op := Op.pick (Operand.tmp 48) (Operand.const (Value.bool true)) (Operand.tmp 52), type := 4, pos := "l03_normal.go:24", after := #[{ on := 4, ground := Ground.data }, { on := 8, ground := Ground.data }], guard := none }) (v := ?_) rfl (by kernel_rfl) (by kernel_rfl) (by kernel_rfl) (fun _ _ _ h => h) (Or.inl ⟨by rfl, ?_⟩) (by assumption) ?_
             rotate_left
             ·intro w hSw
              (try dsimp only at hSw)
              go_simp
              try with_reducible rfl
             try simp only [Act.put, List.setIfInBounds_toArray, List.set_cons_zero, List.set_cons_succ]
             refine wpAnyH_take (i := 10) (oi := { dst := some 54, op := Op.move (Operand.tmp 53), type := 4, pos := "l03_normal.go:24", after := #[{ on := 9, ground := Ground.data }, { on := 7, ground := Ground.chain }], guard := none }) (v := ?_) rfl (by kernel_rfl) (by kernel_rfl) (by kernel_rfl) (fun _ _ _ h => h) (Or.inl ⟨by rfl, ?_⟩) (by assumption) ?_
             rotate_left
             ·intro w hSw
              (try dsimp only at hSw)
              go_simp
              try with_reducible rfl
             try simp only [Act.put, List.setIfInBounds_toArray, List.set_cons_zero, List.set_cons_succ]
             refine wpAnyH_take (i := 11) (oi := { dst := some 55, op := Op.load 53 (Operand.tmp 5), type := 53, pos := "l03_normal.go:24", after := #[{ on := 10, ground := Ground.guard }], guard := some (10, false) }) (v := ?_) rfl (by kernel_rfl) (by kernel_rfl) (by kernel_rfl) (fun _ _ _ h => h) (Or.inl ⟨by rfl, ?_⟩) (by assumption) ?_
             rotate_left
             ·intro w hSw
              (try dsimp only at hSw)
              go_simp
              try with_reducible rfl
             try simp only [Act.put, List.setIfInBounds_toArray, List.set_cons_zero, List.set_cons_succ]
             refine wpAnyH_take (i := 12) (oi := { dst := some 56, op := Op.move (Operand.tmp 3), type := 2, pos := "l03_normal.go:24", after := #[{ on := 10, ground := Ground.guard }], guard := some (10, false) }) (v := ?_) rfl (by kernel_rfl) (by kernel_rfl) (by kernel_rfl) (fun _ _ _ h => h) (Or.inl ⟨by rfl, ?_⟩) (by assumption) ?_
             rotate_left
             ·intro w hSw
              (try dsimp only at hSw)
              go_simp
              try with_reducible rfl
             try simp only [Act.put, List.setIfInBounds_toArray, List.set_cons_zero, List.set_cons_succ]
             refine wpAnyH_ready (rs := [13]) (by kernel_rfl) (by simp) ?_
             refine AllReadyH.cons (o := { dst := some 57, op := Op.call { callee := Callee.value (Operand.func 37), args := #[Operand.tmp 56], argTypes := #[2] }, type := 53, pos := "l03_normal.go:24", after := #[{ on := 12, ground := Ground.data }, { on := 10, ground := Ground.chain }, { on := 10, ground := Ground.guard }], guard := some (10, false) }) rfl (fun K hK => ?_) AllReadyH.nil
             go_simp
             (refine (l02Half_any m m8 _).mono ?_; rintro e w5 ⟨rfl, gg⟩; replace RI := Lib.hid (RI.out.below gg); replace F := Lib.hid (F.out.below gg))
             go_wp2_with fail
             refine hK.out _ _ ?_ (fun hHeld => ?_)
             ·with_reducible exact RI.out.flat
             clear hK K
             try simp only [Act.put, List.setIfInBounds_toArray, List.set_cons_zero, List.set_cons_succ]
             refine wpAnyH_take (i := 14) (oi := { dst := some 58, op := Op.binOp BinOp.eql 53 (Operand.tmp 55) (Operand.tmp 57) 53, type := 4, pos := "l03_normal.go:24", after := #[{ on := 11, ground := Ground.data }, { on := 13, ground := Ground.data }, { on := 10, ground := Ground.guard }], guard := some (10, false) }) (v := ?_) rfl (by kernel_rfl) (by kernel_rfl) (by kernel_rfl) (fun _ _ _ h => h) (Or.inl ⟨by rfl, ?_⟩) (by assumption) ?_
             rotate_left
             ·intro w hSw
              (try dsimp only at hSw)
              go_simp
              try with_reducible rfl
             try simp only [Act.put, List.setIfInBounds_toArray, List.set_cons_zero, List.set_cons_succ]
             refine wpAnyH_take (i := 15) (oi := { dst := some 59, op := Op.pick (Operand.tmp 54) (Operand.const (Value.bool true)) (Operand.tmp 58), type := 4, pos := "l03_normal.go:24", after := #[{ on := 10, ground := Ground.data }, { on := 14, ground := Ground.data }], guard := none }) (v := ?_) rfl (by kernel_rfl) (by kernel_rfl) (by kernel_rfl) (fun _ _ _ h => h) (Or.inl ⟨by rfl, ?_⟩) (by assumption) ?_
             rotate_left
             ·intro w hSw
              (try dsimp only at hSw)
              go_simp
              try with_reducible rfl
             try simp only [Act.put, List.setIfInBounds_toArray, List.set_cons_zero, List.set_cons_succ]
             refine wpAnyH_take (i := 16) (oi := { dst := some 60, op := Op.move (Operand.tmp 59), type := 4, pos := "l03_normal.go:24", after := #[{ on := 15, ground := Ground.data }, { on := 13, ground := Ground.chain }], guard := none }) (v := ?_) rfl (by kernel_rfl) (by kernel_rfl) (by kernel_rfl) (fun _ _ _ h => h) (Or.inl ⟨by rfl, ?_⟩) (by assumption) ?_
             rotate_left
             ·intro w hSw
              (try dsimp only at hSw)
              go_simp
              try with_reducible rfl
             try simp only [Act.put, List.setIfInBounds_toArray, List.set_cons_zero, List.set_cons_succ]
             refine wpAnyH_take (i := 17) (oi := { dst := some 61, op := Op.move (Operand.tmp 4), type := 3, pos := "l03_normal.go:24", after := #[{ on := 16, ground := Ground.guard }], guard := some (16, false) }) (v := ?_) rfl (by kernel_rfl) (by kernel_rfl) (by kernel_rfl) (fun _ _ _ h => h) (Or.inl ⟨by rfl, ?_⟩) (by assumption) ?_
             rotate_left
             ·intro w hSw
              (try dsimp only at hSw)
              go_simp
              try with_reducible rfl
             try simp only [Act.put, List.setIfInBounds_toArray, List.set_cons_zero, List.set_cons_succ]
             refine wpAnyH_take (i := 18) (oi := { dst := some 62, op := Op.binOp BinOp.gtr 3 (Operand.tmp 61) (Operand.const (Value.int IntKind.i64 0)) 3, type := 4, pos := "l03_normal.go:24", after := #[{ on := 17, ground := Ground.data }, { on := 16, ground := Ground.guard }], guard := some (16, false) }) (v := ?_) rfl (by kernel_rfl) (by kernel_rfl) (by kernel_rfl) (fun _ _ _ h => h) (Or.inl ⟨by rfl, ?_⟩) (by assumption) ?_
             rotate_left
             ·intro w hSw
              (try dsimp only at hSw)
              go_simp
              try with_reducible rfl
             try simp only [Act.put, List.setIfInBounds_toArray, List.set_cons_zero, List.set_cons_succ]
             refine wpAnyH_take (i := 19) (oi := { dst := some 63, op := Op.move (Operand.tmp 62), type := 4, pos := "l03_normal.go:24", after := #[{ on := 18, ground := Ground.data }, { on := 16, ground := Ground.chain }, { on := 16, ground := Ground.guard }], guard := some (16, false) }) (v := ?_) rfl (by kernel_rfl) (by kernel_rfl) (by kernel_rfl) (fun _ _ _ h => h) (Or.inl ⟨by rfl, ?_⟩) (by assumption) ?_
             rotate_left
             ·intro w hSw
              (try dsimp only at hSw)
              go_simp
              try with_reducible rfl
             try simp only [Act.put, List.setIfInBounds_toArray, List.set_cons_zero, List.set_cons_succ]
             refine wpAnyH_take (i := 20) (oi := { dst := some 64, op := Op.fieldAddr 28 (Operand.tmp 1) 2, type := 0, pos := "l03_normal.go:24", after := #[{ on := 19, ground := Ground.guard }], guard := some (19, true) }) (v := undef) rfl (by kernel_rfl) (by kernel_rfl) (by kernel_rfl) (fun _ _ _ h => h) (Or.inr ⟨by rfl, rfl⟩) (by assumption) ?_
             try simp only [Act.put, List.setIfInBounds_toArray, List.set_cons_zero, List.set_cons_succ]
             refine wpAnyH_take (i := 21) (oi := { dst := some 65, op := Op.load 26 (Operand.tmp 64), type := 26, pos := "l03_normal.go:24", after := #[{ on := 20, ground := Ground.data }, { on := 19, ground := Ground.guard }], guard := some (19, true) }) (v := undef) rfl (by kernel_rfl) (by kernel_rfl) (by kernel_rfl) (fun _ _ _ h => h) (Or.inr ⟨by rfl, rfl⟩) (by assumption) ?_
             try simp only [Act.put, List.setIfInBounds_toArray, List.set_cons_zero, List.set_cons_succ]
             refine wpAnyH_take (i := 22) (oi := { dst := some 66, op := Op.move (Operand.tmp 4), type := 3, pos := "l03_normal.go:24", after := #[{ on := 19, ground := Ground.guard }], guard := some (19, true) }) (v := undef) rfl (by kernel_rfl) (by kernel_rfl) (by kernel_rfl) (fun _ _ _ h => h) (Or.inr ⟨by rfl, rfl⟩) (by assumption) ?_
             try simp only [Act.put, List.setIfInBounds_toArray, List.set_cons_zero, List.set_cons_succ]
             refine wpAnyH_take (i := 23) (oi := { dst := some 67, op := Op.binOp BinOp.sub 3 (Operand.tmp 66) (Operand.const (Value.int IntKind.i64 1)) 3, type := 3, pos := "l03_normal.go:24", after := #[{ on := 22, ground := Ground.data }, { on := 19, ground := Ground.guard }], guard := some (19, true) }) (v := undef) rfl (by kernel_rfl) (by kernel_rfl) (by kernel_rfl) (fun _ _ _ h => h) (Or.inr ⟨by rfl, rfl⟩) (by assumption) ?_
             try simp only [Act.put, List.setIfInBounds_toArray, List.set_cons_zero, List.set_cons_succ]
             refine wpAnyH_take (i := 24) (oi := { dst := some 68, op := Op.indexAddr 26 (Operand.tmp 65) (Operand.tmp 67), type := 0, pos := "l03_normal.go:24", after := #[{ on := 21, ground := Ground.data }, { on := 23, ground := Ground.data }, { on := 19, ground := Ground.guard }], guard := some (19, true) }) (v := undef) rfl (by kernel_rfl) (by kernel_rfl) (by kernel_rfl) (fun _ _ _ h => h) (Or.inr ⟨by rfl, rfl⟩) (by assumption) ?_
             try simp only [Act.put, List.setIfInBounds_toArray, List.set_cons_zero, List.set_cons_succ]
             refine wpAnyH_take (i := 25) (oi := { dst := some 69, op := Op.load 53 (Operand.tmp 68), type := 53, pos := "l03_normal.go:24", after := #[{ on := 24, ground := Ground.data }, { on := 19, ground := Ground.guard }], guard := some (19, true) }) (v := undef) rfl (by kernel_rfl) (by kernel_rfl) (by kernel_rfl) (fun _ _ _ h => h) (Or.inr ⟨by rfl, rfl⟩) (by assumption) ?_
             try simp only [Act.put, List.setIfInBounds_toArray, List.set_cons_zero, List.set_cons_succ]
             refine wpAnyH_take (i := 26) (oi := { dst := some 70, op := Op.load 53 (Operand.tmp 5), type := 53, pos := "l03_normal.go:24", after := #[{ on := 19, ground := Ground.guard }], guard := some (19, true) }) (v := undef) rfl (by kernel_rfl) (by kernel_rfl) (by kernel_rfl) (fun _ _ _ h => h) (Or.inr ⟨by rfl, rfl⟩) (by assumption) ?_
             try simp only [Act.put, List.setIfInBounds_toArray, List.set_cons_zero, List.set_cons_succ]
             refine wpAnyH_take (i := 27) (oi := { dst := some 71, op := Op.move (Operand.tmp 3), type := 2, pos := "l03_normal.go:24", after := #[{ on := 19, ground := Ground.guard }], guard := some (19, true) }) (v := undef) rfl (by kernel_rfl) (by kernel_rfl) (by kernel_rfl) (fun _ _ _ h => h) (Or.inr ⟨by rfl, rfl⟩) (by assumption) ?_
             try simp only [Act.put, List.setIfInBounds_toArray, List.set_cons_zero, List.set_cons_succ]
             refine wpAnyH_ready (rs := [28]) (by kernel_rfl) (by simp) ?_
             refine AllReadyH.cons (o := { dst := some 72, op := Op.call { callee := Callee.value (Operand.func 38), args := #[Operand.tmp 69, Operand.tmp 70, Operand.tmp 71], argTypes := #[53, 53, 2] }, type := 4, pos := "l03_normal.go:24", after := #[{ on := 25, ground := Ground.data }, { on := 26, ground := Ground.data }, { on := 27, ground := Ground.data }, { on := 19, ground := Ground.chain }, { on := 19, ground := Ground.guard }], guard := some (19, true) }) rfl (fun K hK => ?_) AllReadyH.nil
             go_simp
             refine hK.out _ _ ?_ (fun hHeld => ?_)
             ·with_reducible exact RI.out.flat
             clear hK K
             try simp only [Act.put, List.setIfInBounds_toArray, List.set_cons_zero, List.set_cons_succ]
             refine wpAnyH_take (i := 29) (oi := { dst := some 73, op := Op.unOp UnOp.not 4 (Operand.tmp 72), type := 4, pos := "l03_normal.go:24", after := #[{ on := 28, ground := Ground.data }, { on := 19, ground := Ground.guard }], guard := some (19, true) }) (v := undef) rfl (by kernel_rfl) (by kernel_rfl) (by kernel_rfl) (fun _ _ _ h => h) (Or.inr ⟨by rfl, rfl⟩) (by assumption) ?_
             try simp only [Act.put, List.setIfInBounds_toArray, List.set_cons_zero, List.set_cons_succ]
             refine wpAnyH_take (i := 30) (oi := { dst := some 74, op := Op.pick (Operand.tmp 63) (Operand.tmp 73) (Operand.const (Value.bool false)), type := 4, pos := "l03_normal.go:24", after := #[{ on := 19, ground := Ground.data }, { on := 29, ground := Ground.data }, { on := 16, ground := Ground.guard }], guard := some (16, false) }) (v := ?_) rfl (by kernel_rfl) (by kernel_rfl) (by kernel_rfl) (fun _ _ _ h => h) (Or.inl ⟨by rfl, ?_⟩) (by assumption) ?_
             rotate_left
             ·intro w hSw
              (try dsimp only at hSw)
              go_simp
              try with_reducible rfl
             try simp only [Act.put, List.setIfInBounds_toArray, List.set_cons_zero, List.set_cons_succ]
             refine wpAnyH_take (i := 31) (oi := { dst := some 75, op := Op.pick (Operand.tmp 60) (Operand.const (Value.bool true)) (Operand.tmp 74), type := 4, pos := "l03_normal.go:24", after := #[{ on := 16, ground := Ground.data }, { on := 30, ground := Ground.data }], guard := none }) (v := ?_) rfl (by kernel_rfl) (by kernel_rfl) (by kernel_rfl) (fun _ _ _ h => h) (Or.inl ⟨by rfl, ?_⟩) (by assumption) ?_
             rotate_left
             ·intro w hSw
              (try dsimp only at hSw)
              go_simp
              try with_reducible rfl
             try simp only [Act.put, List.setIfInBounds_toArray, List.set_cons_zero, List.set_cons_succ]
             refine wpAnyH_done (by kernel_rfl) ?_ _
             go_wp2_with fail
             go_meet
             exact ⟨by rw [HQ2.out, HV.out]; rfl, F.out⟩
            ·have SP : Hid (Sim m (rowAt rs k)) := Lib.hid (okFac_sim H8.out (by rw [HL.out]; omega) (HIN.out k (by omega)))
             have HCP : Hid (∀ W, Below w.heap.size w W → Cells8 W b (off + k * 8) (rowAt rs k)) := Lib.hid fun W h => HC.out W h k (by omega)
             obtain ⟨r, hr⟩ : ∃ r, r = weightB m (rowAt rs k) row := ⟨_, rfl⟩
             have HV : Hid (okFac m rs (k + 1) = r) := Lib.hid (by
              cases r with
              | true => exact okFac_yes (by rw [← HROW.out]; exact HG.out.1) (by rw [← HROW.out]; exact HG.out.2.1) (by rw [← HROW.out]; exact HG.out.2.2) (.inr (by rw [← HROW.out]; exact hr.symm))
              | false => exact okFac_no4 (by omega) (by rw [← HROW.out]; exact hr.symm))
             obtain ⟨prev, hprev⟩ : ∃ prev, prev = rowAt rs k := ⟨_, rfl⟩
             rw [← hprev] at SP HCP hr
             have HR := Lib.hid hr.symm
             clear hr hprev
             have CP := Lib.hid (HCP.out _ F.out.bel)
             have t0 : decide ((0 : Int) < (k : Int) + 1) = true := decide_eq_true (by omega)
             have hw1 : IntKind.i64.wrap (k : Int) = k := IntWalk.i64_in _ (by omega)
             have b1 : (k : Int) < (n : Int) := by omega
             have b0 : (0 : Int) ≤ (k : Int) := by omega
             refine wp_region_held_drew (S := (fun w' => (w'.cell? ⟨g5, 0, none⟩ = some (.int .u8 (at8 row 0)) ∧ w'.cell? ⟨g5, 1, none⟩ = some (.int .u8 (at8 row 1)) ∧ w'.cell? ⟨g5, 2, none⟩ = some (.int .u8 (at8 row 2)) ∧ w'.cell? ⟨g5, 3, none⟩ = some (.int .u8 (at8 row 3)) ∧ w'.cell? ⟨g5, 4, none⟩ = some (.int .u8 (at8 row 4)) ∧ w'.cell? ⟨g5, 5, none⟩ = some (.int .u8 (at8 row 5)) ∧ w'.cell? ⟨g5, 6, none⟩ = some (.int .u8 (at8 row 6)) ∧ w'.cell? ⟨g5, 7, none⟩ = some (.int .u8 (at8 row 7))) ∧ (w'.cell? ⟨b, off + k * 8, none⟩ = some (.int .u8 (at8 prev 0)) ∧ w'.cell? ⟨b, off + k * 8 + 1, none⟩ = some (.int .u8 (at8 prev 1)) ∧ w'.cell? ⟨b, off + k * 8 + 2, none⟩ = some (.int .u8 (at8 prev 2)) ∧ w'.cell? ⟨b, off + k * 8 + 3, none⟩ = some (.int .u8 (at8 prev 3)) ∧ w'.cell? ⟨b, off + k * 8 + 4, none⟩ = some (.int .u8 (at8 prev 4)) ∧ w'.cell? ⟨b, off + k * 8 + 5, none⟩ = some (.int .u8 (at8 prev 5)) ∧ w'.cell? ⟨b, off + k * 8 + 6, none⟩ = some (.int .u8 (at8 prev 6)) ∧ w'.cell? ⟨b, off + k * 8 + 7, none⟩ = some (.int .u8 (at8 prev 7))) ∧ w'.cell? ⟨w.heap.size, 2, none⟩ = some (.slice (some ⟨b, off, none⟩) n cap))) (by kernel_rfl) ?_ (fun hHeld => ?_)
             ·with_reducible exact ⟨RI.out.flat, CP.out.flat, (F.out.box).cell2⟩
             refine wpAnyH_take (i := 0) (oi := { dst := some 44, op := Op.load 53 (Operand.tmp 5), type := 53, pos := "l03_normal.go:24", after := #[], guard := none }) (v := ?_) rfl (by kernel_rfl) (by kernel_rfl) (by kernel_rfl) (fun _ _ _ h => h) (Or.inl ⟨by rfl, ?_⟩) (by assumption) ?_
             rotate_left
             ·intro w hSw
              (try dsimp only at hSw)
              go_simp
              try with_reducible rfl
             try simp only [Act.put, List.setIfInBounds_toArray, List.set_cons_zero, List.set_cons_succ]
             refine wpAnyH_take (i := 1) (oi := { dst := some 45, op := Op.move (Operand.tmp 3), type := 2, pos := "l03_normal.go:24", after := #[], guard := none }) (v := ?_) rfl (by kernel_rfl) (by kernel_rfl) (by kernel_rfl) (fun _ _ _ h => h) (Or.inl ⟨by rfl, ?_⟩) (by assumption) ?_
             rotate_left
             ·intro w hSw
              (try dsimp only at hSw)
              go_simp
              try with_reducible rfl
             try simp only [Act.put, List.setIfInBounds_toArray, List.set_cons_zero, List.set_cons_succ]
             refine wpAnyH_ready (rs := [2]) (by kernel_rfl) (by simp) ?_
             refine AllReadyH.cons (o := { dst := some 46, op := Op.call { callee := Callee.value (Operand.func 35), args := #[Operand.tmp 44, Operand.tmp 45], argTypes := #[53, 2] }, type := 4, pos := "l03_normal.go:24", after := #[{ on := 0, ground := Ground.data }, { on := 1, ground := Ground.data }], guard := none }) rfl (fun K hK => ?_) AllReadyH.nil
             go_simp
             (refine (l02Is_any m row HR8.out HB8.out _).mono ?_; rw [hsb]; rintro e w3 ⟨rfl, gg⟩; replace RI := Lib.hid (RI.out.below gg); replace F := Lib.hid (F.out.below gg); replace CP := Lib.hid (HCP.out _ F.out.bel))
             go_wp2_with fail
             refine hK.out _ _ ?_ (fun hHeld => ?_)
             ·with_reducible exact ⟨RI.out.flat, CP.out.flat, (F.out.box).cell2⟩
             clear hK K
             try simp only [Act.put, List.setIfInBounds_toArray, List.set_cons_zero, List.set_cons_succ]
             refine wpAnyH_take (i := 3) (oi := { dst := some 47, op := Op.unOp UnOp.not 4 (Operand.tmp 46), type := 4, pos := "l03_normal.go:24", after := #[{ on := 2, ground := Ground.data }], guard := none }) (v := ?_) rfl (by kernel_rfl) (by kernel_rfl) (by kernel_rfl) (fun _ _ _ h => h) (Or.inl ⟨by rfl, ?_⟩) (by assumption) ?_
             rotate_left
             ·intro w hSw
              (try dsimp only at hSw)
              go_simp
              try with_reducible rfl
             try simp only [Act.put, List.setIfInBounds_toArray, List.set_cons_zero, List.set_cons_succ]
             refine wpAnyH_take (i := 4) (oi := { dst := some 48, op := Op.move (Operand.tmp 47), type := 4, pos := "l03_normal.go:24", after := #[{ on := 3, ground := Ground.data }, { on := 2, ground := Ground.chain }], guard := none }) (v := ?_) rfl (by kernel_rfl) (by kernel_rfl) (by kernel_rfl) (fun _ _ _ h => h) (Or.inl ⟨by rfl, ?_⟩) (by assumption) ?_
             rotate_left
             ·intro w hSw
              (try dsimp only at hSw)
              go_simp
              try with_reducible rfl
             try simp only [Act.put, List.setIfInBounds_toArray, List.set_cons_zero, List.set_cons_succ]
             refine wpAnyH_take (i := 5) (oi := { dst := some 49, op := Op.load 53 (Operand.tmp 5), type := 53, pos := "l03_normal.go:24", after := #[{ on := 4, ground := Ground.guard }], guard := some (4, false) }) (v := ?_) rfl (by kernel_rfl) (by kernel_rfl) (by kernel_rfl) (fun _ _ _ h => h) (Or.inl ⟨by rfl, ?_⟩) (by assumption) ?_
             rotate_left
             ·intro w hSw
              (try dsimp only at hSw)
              go_simp
              try with_reducible rfl
             try simp only [Act.put, List.setIfInBounds_toArray, List.set_cons_zero, List.set_cons_succ]
             refine wpAnyH_take (i := 6) (oi := { dst := some 50, op := Op.move (Operand.tmp 3), type := 2, pos := "l03_normal.go:24", after := #[{ on := 4, ground := Ground.guard }], guard := some (4, false) }) (v := ?_) rfl (by kernel_rfl) (by kernel_rfl) (by kernel_rfl) (fun _ _ _ h => h) (Or.inl ⟨by rfl, ?_⟩) (by assumption) ?_
             rotate_left
             ·intro w hSw
              (try dsimp only at hSw)
              go_simp
              try with_reducible rfl
             try simp only [Act.put, List.setIfInBounds_toArray, List.set_cons_zero, List.set_cons_succ]
             refine wpAnyH_ready (rs := [7]) (by kernel_rfl) (by simp) ?_
             refine AllReadyH.cons (o := { dst := some 51, op := Op.call { callee := Callee.value (Operand.func 36), args := #[Operand.tmp 50], argTypes := #[2] }, type := 53, pos := "l03_normal.go:24", after := #[{ on := 6, ground := Ground.data }, { on := 4, ground := Ground.chain }, { on := 4, ground := Ground.guard }], guard := some (4, false) }) rfl (fun K hK => ?_) AllReadyH.nil
             go_simp
             (refine (l02Same_any m m8 _).mono ?_; rintro e w4 ⟨rfl, gg⟩; replace RI := Lib.hid (RI.out.below gg); replace F := Lib.hid (F.out.below gg); replace CP := Lib.hid (HCP.out _ F.out.bel))
             go_wp2_with fail
             refine hK.out _ _ ?_ (fun hHeld => ?_)
             ·with_reducible exact ⟨RI.out.flat, CP.out.flat, (F.out.box).cell2⟩
             clear hK K
             try simp only [Act.put, List.setIfInBounds_toArray, List.set_cons_zero, List.set_cons_succ]
             refine wpAnyH_take (i := 8) (oi := { dst := some 52, op := Op.binOp BinOp.eql 53 (Operand.tmp 49) (Operand.tmp 51) 53, type := 4, pos := "l03_normal.go:24", after := #[{ on := 5, ground := Ground.data }, { on := 7, ground := Ground.data }, { on := 4, ground := Ground.guard }], guard := some (4, false) }) (v := ?_) rfl (by kernel_rfl) (by kernel_rfl) (by kernel_rfl) (fun _ _ _ h => h) (Or.inl ⟨by rfl, ?_⟩) (by assumption) ?_
             rotate_left
             ·intro w hSw
              (try dsimp only at hSw)
              go_simp
              try with_reducible rfl
             try simp only [Act.put, List.setIfInBounds_toArray, List.set_cons_zero, List.set_cons_succ]
             refine wpAnyH_take (i := 9) (oi := { dst := some 53, op := Op.pick (Operand.tmp 48) (Operand.const (Value.bool true)) (Operand.tmp 52), type := 4, pos := "l03_normal.go:24", after := #[{ on := 4, ground := Ground.data }, { on := 8, ground := Ground.data }], guard := none }) (v := ?_) rfl (by kernel_rfl) (by kernel_rfl) (by kernel_rfl) (fun _ _ _ h => h) (Or.inl ⟨by rfl, ?_⟩) (by assumption) ?_
             rotate_left
             ·intro w hSw
              (try dsimp only at hSw)
              go_simp
              try with_reducible rfl
             try simp only [Act.put, List.setIfInBounds_toArray, List.set_cons_zero, List.set_cons_succ]
             refine wpAnyH_take (i := 10) (oi := { dst := some 54, op := Op.move (Operand.tmp 53), type := 4, pos := "l03_normal.go:24", after := #[{ on := 9, ground := Ground.data }, { on := 7, ground := Ground.chain }], guard := none }) (v := ?_) rfl (by kernel_rfl) (by kernel_rfl) (by kernel_rfl) (fun _ _ _ h => h) (Or.inl ⟨by rfl, ?_⟩) (by assumption) ?_
             rotate_left
             ·intro w hSw
              (try dsimp only at hSw)
              go_simp
              try with_reducible rfl
             try simp only [Act.put, List.setIfInBounds_toArray, List.set_cons_zero, List.set_cons_succ]
             refine wpAnyH_take (i := 11) (oi := { dst := some 55, op := Op.load 53 (Operand.tmp 5), type := 53, pos := "l03_normal.go:24", after := #[{ on := 10, ground := Ground.guard }], guard := some (10, false) }) (v := ?_) rfl (by kernel_rfl) (by kernel_rfl) (by kernel_rfl) (fun _ _ _ h => h) (Or.inl ⟨by rfl, ?_⟩) (by assumption) ?_
             rotate_left
             ·intro w hSw
              (try dsimp only at hSw)
              go_simp
              try with_reducible rfl
             try simp only [Act.put, List.setIfInBounds_toArray, List.set_cons_zero, List.set_cons_succ]
             refine wpAnyH_take (i := 12) (oi := { dst := some 56, op := Op.move (Operand.tmp 3), type := 2, pos := "l03_normal.go:24", after := #[{ on := 10, ground := Ground.guard }], guard := some (10, false) }) (v := ?_) rfl (by kernel_rfl) (by kernel_rfl) (by kernel_rfl) (fun _ _ _ h => h) (Or.inl ⟨by rfl, ?_⟩) (by assumption) ?_
             rotate_left
             ·intro w hSw
              (try dsimp only at hSw)
              go_simp
              try with_reducible rfl
             try simp only [Act.put, List.setIfInBounds_toArray, List.set_cons_zero, List.set_cons_succ]
             refine wpAnyH_ready (rs := [13]) (by kernel_rfl) (by simp) ?_
             refine AllReadyH.cons (o := { dst := some 57, op := Op.call { callee := Callee.value (Operand.func 37), args := #[Operand.tmp 56], argTypes := #[2] }, type := 53, pos := "l03_normal.go:24", after := #[{ on := 12, ground := Ground.data }, { on := 10, ground := Ground.chain }, { on := 10, ground := Ground.guard }], guard := some (10, false) }) rfl (fun K hK => ?_) AllReadyH.nil
             go_simp
             (refine (l02Half_any m m8 _).mono ?_; rintro e w5 ⟨rfl, gg⟩; replace RI := Lib.hid (RI.out.below gg); replace F := Lib.hid (F.out.below gg); replace CP := Lib.hid (HCP.out _ F.out.bel))
             go_wp2_with fail
             refine hK.out _ _ ?_ (fun hHeld => ?_)
             ·with_reducible exact ⟨RI.out.flat, CP.out.flat, (F.out.box).cell2⟩
             clear hK K
             try simp only [Act.put, List.setIfInBounds_toArray, List.set_cons_zero, List.set_cons_succ]
             refine wpAnyH_take (i := 14) (oi := { dst := some 58, op := Op.binOp BinOp.eql 53 (Operand.tmp 55) (Operand.tmp 57) 53, type := 4, pos := "l03_normal.go:24", after := #[{ on := 11, ground := Ground.data }, { on := 13, ground := Ground.data }, { on := 10, ground := Ground.guard }], guard := some (10, false) }) (v := ?_) rfl (by kernel_rfl) (by kernel_rfl) (by kernel_rfl) (fun _ _ _ h => h) (Or.inl ⟨by rfl, ?_⟩) (by assumption) ?_
             rotate_left
             ·intro w hSw
              (try dsimp only at hSw)
              go_simp
              try with_reducible rfl
             try simp only [Act.put, List.setIfInBounds_toArray, List.set_cons_zero, List.set_cons_succ]
             refine wpAnyH_take (i := 15) (oi := { dst := some 59, op := Op.pick (Operand.tmp 54) (Operand.const (Value.bool true)) (Operand.tmp 58), type := 4, pos := "l03_normal.go:24", after := #[{ on := 10, ground := Ground.data }, { on := 14, ground := Ground.data }], guard := none }) (v := ?_) rfl (by kernel_rfl) (by kernel_rfl) (by kernel_rfl) (fun _ _ _ h => h) (Or.inl ⟨by rfl, ?_⟩) (by assumption) ?_
             rotate_left
             ·intro w hSw
              (try dsimp only at hSw)
              go_simp
              try with_reducible rfl
             try simp only [Act.put, List.setIfInBounds_toArray, List.set_cons_zero, List.set_cons_succ]
             refine wpAnyH_take (i := 16) (oi := { dst := some 60, op := Op.move (Operand.tmp 59), type := 4, pos := "l03_normal.go:24", after := #[{ on := 15, ground := Ground.data }, { on := 13, ground := Ground.chain }], guard := none }) (v := ?_) rfl (by kernel_rfl) (by kernel_rfl) (by kernel_rfl) (fun _ _ _ h => h) (Or.inl ⟨by rfl, ?_⟩) (by assumption) ?_
             rotate_left
             ·intro w hSw
              (try dsimp only at hSw)
              go_simp
              try with_reducible rfl
             try simp only [Act.put, List.setIfInBounds_toArray, List.set_cons_zero, List.set_cons_succ]
             refine wpAnyH_take (i := 17) (oi := { dst := some 61, op := Op.move (Operand.tmp 4), type := 3, pos := "l03_normal.go:24", after := #[{ on := 16, ground := Ground.guard }], guard := some (16, false) }) (v := ?_) rfl (by kernel_rfl) (by kernel_rfl) (by kernel_rfl) (fun _ _ _ h => h) (Or.inl ⟨by rfl, ?_⟩) (by assumption) ?_
             rotate_left
             ·intro w hSw
              (try dsimp only at hSw)
              go_simp
              try with_reducible rfl
             try simp only [Act.put, List.setIfInBounds_toArray, List.set_cons_zero, List.set_cons_succ]
             refine wpAnyH_take (i := 18) (oi := { dst := some 62, op := Op.binOp BinOp.gtr 3 (Operand.tmp 61) (Operand.const (Value.int IntKind.i64 0)) 3, type := 4, pos := "l03_normal.go:24", after := #[{ on := 17, ground := Ground.data }, { on := 16, ground := Ground.guard }], guard := some (16, false) }) (v := ?_) rfl (by kernel_rfl) (by kernel_rfl) (by kernel_rfl) (fun _ _ _ h => h) (Or.inl ⟨by rfl, ?_⟩) (by assumption) ?_
             rotate_left
             ·intro w hSw
              (try dsimp only at hSw)
              go_simp
              try with_reducible rfl
             try simp only [Act.put, List.setIfInBounds_toArray, List.set_cons_zero, List.set_cons_succ]
             refine wpAnyH_take (i := 19) (oi := { dst := some 63, op := Op.move (Operand.tmp 62), type := 4, pos := "l03_normal.go:24", after := #[{ on := 18, ground := Ground.data }, { on := 16, ground := Ground.chain }, { on := 16, ground := Ground.guard }], guard := some (16, false) }) (v := ?_) rfl (by kernel_rfl) (by kernel_rfl) (by kernel_rfl) (fun _ _ _ h => h) (Or.inl ⟨by rfl, ?_⟩) (by assumption) ?_
             rotate_left
             ·intro w hSw
              (try dsimp only at hSw)
              go_simp
              try with_reducible rfl
             try simp only [Act.put, List.setIfInBounds_toArray, List.set_cons_zero, List.set_cons_succ]
             refine wpAnyH_take (i := 20) (oi := { dst := some 64, op := Op.fieldAddr 28 (Operand.tmp 1) 2, type := 0, pos := "l03_normal.go:24", after := #[{ on := 19, ground := Ground.guard }], guard := some (19, true) }) (v := ?_) rfl (by kernel_rfl) (by kernel_rfl) (by kernel_rfl) (fun _ _ _ h => h) (Or.inl ⟨by rfl, ?_⟩) (by assumption) ?_
             rotate_left
             ·intro w hSw
              (try dsimp only at hSw)
              go_simp
              try with_reducible rfl
             try simp only [Act.put, List.setIfInBounds_toArray, List.set_cons_zero, List.set_cons_succ]
             refine wpAnyH_take (i := 21) (oi := { dst := some 65, op := Op.load 26 (Operand.tmp 64), type := 26, pos := "l03_normal.go:24", after := #[{ on := 20, ground := Ground.data }, { on := 19, ground := Ground.guard }], guard := some (19, true) }) (v := ?_) rfl (by kernel_rfl) (by kernel_rfl) (by kernel_rfl) (fun _ _ _ h => h) (Or.inl ⟨by rfl, ?_⟩) (by assumption) ?_
             rotate_left
             ·intro w hSw
              (try dsimp only at hSw)
              go_simp
              try with_reducible rfl
             try simp only [Act.put, List.setIfInBounds_toArray, List.set_cons_zero, List.set_cons_succ]
             refine wpAnyH_take (i := 22) (oi := { dst := some 66, op := Op.move (Operand.tmp 4), type := 3, pos := "l03_normal.go:24", after := #[{ on := 19, ground := Ground.guard }], guard := some (19, true) }) (v := ?_) rfl (by kernel_rfl) (by kernel_rfl) (by kernel_rfl) (fun _ _ _ h => h) (Or.inl ⟨by rfl, ?_⟩) (by assumption) ?_
             rotate_left
             ·intro w hSw
              (try dsimp only at hSw)
              go_simp
              try with_reducible rfl
             try simp only [Act.put, List.setIfInBounds_toArray, List.set_cons_zero, List.set_cons_succ]
             refine wpAnyH_take (i := 23) (oi := { dst := some 67, op := Op.binOp BinOp.sub 3 (Operand.tmp 66) (Operand.const (Value.int IntKind.i64 1)) 3, type := 3, pos := "l03_normal.go:24", after := #[{ on := 22, ground := Ground.data }, { on := 19, ground := Ground.guard }], guard := some (19, true) }) (v := ?_) rfl (by kernel_rfl) (by kernel_rfl) (by kernel_rfl) (fun _ _ _ h => h) (Or.inl ⟨by rfl, ?_⟩) (by assumption) ?_
             rotate_left
             ·intro w hSw
              (try dsimp only at hSw)
              go_simp
              try with_reducible rfl
             try simp only [Act.put, List.setIfInBounds_toArray, List.set_cons_zero, List.set_cons_succ]
             refine wpAnyH_take (i := 24) (oi := { dst := some 68, op := Op.indexAddr 26 (Operand.tmp 65) (Operand.tmp 67), type := 0, pos := "l03_normal.go:24", after := #[{ on := 21, ground := Ground.data }, { on := 23, ground := Ground.data }, { on := 19, ground := Ground.guard }], guard := some (19, true) }) (v := ?_) rfl (by kernel_rfl) (by kernel_rfl) (by kernel_rfl) (fun _ _ _ h => h) (Or.inl ⟨by rfl, ?_⟩) (by assumption) ?_
             rotate_left
             ·intro w hSw
              (try dsimp only at hSw)
              go_simp
              try with_reducible rfl
             try simp only [Act.put, List.setIfInBounds_toArray, List.set_cons_zero, List.set_cons_succ]
             refine wpAnyH_take (i := 25) (oi := { dst := some 69, op := Op.load 53 (Operand.tmp 68), type := 53, pos := "l03_normal.go:24", after := #[{ on := 24, ground := Ground.data }, { on := 19, ground := Ground.guard }], guard := some (19, true) }) (v := ?_) rfl (by kernel_rfl) (by kernel_rfl) (by kernel_rfl) (fun _ _ _ h => h) (Or.inl ⟨by rfl, ?_⟩) (by assumption) ?_
             rotate_left
             ·intro w hSw
              (try dsimp only at hSw)
              go_simp
              try with_reducible rfl
             try simp only [Act.put, List.setIfInBounds_toArray, List.set_cons_zero, List.set_cons_succ]
             refine wpAnyH_take (i := 26) (oi := { dst := some 70, op := Op.load 53 (Operand.tmp 5), type := 53, pos := "l03_normal.go:24", after := #[{ on := 19, ground := Ground.guard }], guard := some (19, true) }) (v := ?_) rfl (by kernel_rfl) (by kernel_rfl) (by kernel_rfl) (fun _ _ _ h => h) (Or.inl ⟨by rfl, ?_⟩) (by assumption) ?_
             rotate_left
             ·intro w hSw
              (try dsimp only at hSw)
              go_simp
              try with_reducible rfl
             try simp only [Act.put, List.setIfInBounds_toArray, List.set_cons_zero, List.set_cons_succ]
             refine wpAnyH_take (i := 27) (oi := { dst := some 71, op := Op.move (Operand.tmp 3), type := 2, pos := "l03_normal.go:24", after := #[{ on := 19, ground := Ground.guard }], guard := some (19, true) }) (v := ?_) rfl (by kernel_rfl) (by kernel_rfl) (by kernel_rfl) (fun _ _ _ h => h) (Or.inl ⟨by rfl, ?_⟩) (by assumption) ?_
             rotate_left
             ·intro w hSw
              (try dsimp only at hSw)
              go_simp
              try with_reducible rfl
             try simp only [Act.put, List.setIfInBounds_toArray, List.set_cons_zero, List.set_cons_succ]
             refine wpAnyH_ready (rs := [28]) (by kernel_rfl) (by simp) ?_
             refine AllReadyH.cons (o := { dst := some 72, op := Op.call { callee := Callee.value (Operand.func 38), args := #[Operand.tmp 69, Operand.tmp 70, Operand.tmp 71], argTypes := #[53, 53, 2] }, type := 4, pos := "l03_normal.go:24", after := #[{ on := 25, ground := Ground.data }, { on := 26, ground := Ground.data }, { on := 27, ground := Ground.data }, { on := 19, ground := Ground.chain }, { on := 19, ground := Ground.guard }], guard := some (19, true) }) rfl (fun K hK => ?_) AllReadyH.nil
             go_simp
             (refine (l03Weighted_any m prev row SP.out HR8.out _).mono ?_; rw [HR.out]; rintro e w6 ⟨rfl, gg⟩; replace RI := Lib.hid (RI.out.below gg); replace F := Lib.hid (F.out.below gg); replace CP := Lib.hid (HCP.out _ F.out.bel))
             go_wp2_with fail
             refine hK.out _ _ ?_ (fun hHeld => ?_)
             ·with_reducible exact ⟨RI.out.flat, CP.out.flat, (F.out.box).cell2⟩
             clear hK K
             try simp only [Act.put, List.setIfInBounds_toArray, List.set_cons_zero, List.set_cons_succ]
             refine wpAnyH_take (i := 29) (oi := { dst := some 73, op := Op.unOp UnOp.not 4 (Operand.tmp 72), type := 4, pos := "l03_normal.go:24", after := #[{ on := 28, ground := Ground.data }, { on := 19, ground := Ground.guard }], guard := some (19, true) }) (v := ?_) rfl (by kernel_rfl) (by kernel_rfl) (by kernel_rfl) (fun _ _ _ h => h) (Or.inl ⟨by rfl, ?_⟩) (by assumption) ?_
             rotate_left
             ·intro w hSw
              (try dsimp only at hSw)
              go_simp
              try with_reducible rfl
             try simp only [Act.put, List.setIfInBounds_toArray, List.set_cons_zero, List.set_cons_succ]
             refine wpAnyH_take (i := 30) (oi := { dst := some 74, op := Op.pick (Operand.tmp 63) (Operand.tmp 73) (Operand.const (Value.bool false)), type := 4, pos := "l03_normal.go:24", after := #[{ on := 19, ground := Ground.data }, { on := 29, ground := Ground.data }, { on := 16, ground := Ground.guard }], guard := some (16, false) }) (v := ?_) rfl (by kernel_rfl) (by kernel_rfl) (by kernel_rfl) (fun _ _ _ h => h) (Or.inl ⟨by rfl, ?_⟩) (by assumption) ?_
             rotate_left
             ·intro w hSw
              (try dsimp only at hSw)
              go_simp
              try with_reducible rfl
             try simp only [Act.put, List.setIfInBounds_toArray, List.set_cons_zero, List.set_cons_succ]
             refine wpAnyH_take (i := 31) (oi := { dst := some 75, op := Op.pick (Operand.tmp 60) (Operand.const (Value.bool true)) (Operand.tmp 74), type := 4, pos := "l03_normal.go:24", after := #[{ on := 16, ground := Ground.data }, { on := 30, ground := Ground.data }], guard := none }) (v := ?_) rfl (by kernel_rfl) (by kernel_rfl) (by kernel_rfl) (fun _ _ _ h => h) (Or.inl ⟨by rfl, ?_⟩) (by assumption) ?_
             rotate_left
             ·intro w hSw
              (try dsimp only at hSw)
              go_simp
              try with_reducible rfl
             try simp only [Act.put, List.setIfInBounds_toArray, List.set_cons_zero, List.set_cons_succ]
             refine wpAnyH_done (by kernel_rfl) ?_ _
             go_wp2_with fail
             go_meet
             exact ⟨by rw [HQ2.out, HV.out], F.out⟩
         ·have hsb' : simB m row = false := by simpa using hsb
          clear hsb
          have hsb := hsb'
          clear hsb'
          have HV : Hid (okFac m rs k = false) := Lib.hid (okFac_no1 (by rw [← HROW.out]; exact hsb))
          refine wp_region_held_drew (S := (fun w' => w'.cell? ⟨g5, 0, none⟩ = some (.int .u8 (at8 row 0)) ∧ w'.cell? ⟨g5, 1, none⟩ = some (.int .u8 (at8 row 1)) ∧ w'.cell? ⟨g5, 2, none⟩ = some (.int .u8 (at8 row 2)) ∧ w'.cell? ⟨g5, 3, none⟩ = some (.int .u8 (at8 row 3)) ∧ w'.cell? ⟨g5, 4, none⟩ = some (.int .u8 (at8 row 4)) ∧ w'.cell? ⟨g5, 5, none⟩ = some (.int .u8 (at8 row 5)) ∧ w'.cell? ⟨g5, 6, none⟩ = some (.int .u8 (at8 row 6)) ∧ w'.cell? ⟨g5, 7, none⟩ = some (.int .u8 (at8 row 7)))) (by kernel_rfl) ?_ (fun hHeld => ?_)
          ·with_reducible exact RI.out.flat
          refine wpAnyH_take (i := 0) (oi := { dst := some 44, op := Op.load 53 (Operand.tmp 5), type := 53, pos := "l03_normal.go:24", after := #[], guard := none }) (v := ?_) rfl (by kernel_rfl) (by kernel_rfl) (by kernel_rfl) (fun _ _ _ h => h) (Or.inl ⟨by rfl, ?_⟩) (by assumption) ?_
          rotate_left
          ·intro w hSw
           (try dsimp only at hSw)
           go_simp
           try with_reducible rfl
          try simp only [Act.put, List.setIfInBounds_toArray, List.set_cons_zero, List.set_cons_succ]
          refine wpAnyH_take (i := 1) (oi := { dst := some 45, op := Op.move (Operand.tmp 3), type := 2, pos := "l03_normal.go:24", after := #[], guard := none }) (v := ?_) rfl (by kernel_rfl) (by kernel_rfl) (by kernel_rfl) (fun _ _ _ h => h) (Or.inl ⟨by rfl, ?_⟩) (by assumption) ?_
          rotate_left
          ·intro w hSw
           (try dsimp only at hSw)
           go_simp
           try with_reducible rfl
          try simp only [Act.put, List.setIfInBounds_toArray, List.set_cons_zero, List.set_cons_succ]
          refine wpAnyH_ready (rs := [2]) (by kernel_rfl) (by simp) ?_
          refine AllReadyH.cons (o := { dst := some 46, op := Op.call { callee := Callee.value (Operand.func 35), args := #[Operand.tmp 44, Operand.tmp 45], argTypes := #[53, 2] }, type := 4, pos := "l03_normal.go:24", after := #[{ on := 0, ground := Ground.data }, { on := 1, ground := Ground.data }], guard := none }) rfl (fun K hK => ?_) AllReadyH.nil
          go_simp
          (refine (l02Is_any m row HR8.out HB8.out _).mono ?_; rw [hsb]; rintro e w3 ⟨rfl, gg⟩; replace RI := Lib.hid (RI.out.below gg); replace F := Lib.hid (F.out.below gg))
          go_wp2_with fail
          refine hK.out _ _ ?_ (fun hHeld => ?_)
          ·with_reducible exact RI.out.flat
          clear hK K
          try simp only [Act.put, List.setIfInBounds_toArray, List.set_cons_zero, List.set_cons_succ]
          refine wpAnyH_take (i := 3) (oi := { dst := some 47, op := Op.unOp UnOp.not 4 (Operand.tmp 46), type := 4, pos := "l03_normal.go:24", after := #[{ on := 2, ground := Ground.data }], guard := none }) (v := ?_) rfl (by kernel_rfl) (by kernel_rfl) (by kernel_rfl) (fun _ _ _ h => h) (Or.inl ⟨by rfl, ?_⟩) (by assumption) ?_
          rotate_left
          ·intro w hSw
           (try dsimp only at hSw)
           go_simp
           try with_reducible rfl
          try simp only [Act.put, List.setIfInBounds_toArray, List.set_cons_zero, List.set_cons_succ]
          refine wpAnyH_take (i := 4) (oi := { dst := some 48, op := Op.move (Operand.tmp 47), type := 4, pos := "l03_normal.go:24", after := #[{ on := 3, ground := Ground.data }, { on := 2, ground := Ground.chain }], guard := none }) (v := ?_) rfl (by kernel_rfl) (by kernel_rfl) (by kernel_rfl) (fun _ _ _ h => h) (Or.inl ⟨by rfl, ?_⟩) (by assumption) ?_
          rotate_left
          ·intro w hSw
           (try dsimp only at hSw)
           go_simp
           try with_reducible rfl
          try simp only [Act.put, List.setIfInBounds_toArray, List.set_cons_zero, List.set_cons_succ]
          refine wpAnyH_take (i := 5) (oi := { dst := some 49, op := Op.load 53 (Operand.tmp 5), type := 53, pos := "l03_normal.go:24", after := #[{ on := 4, ground := Ground.guard }], guard := some (4, false) }) (v := undef) rfl (by kernel_rfl) (by kernel_rfl) (by kernel_rfl) (fun _ _ _ h => h) (Or.inr ⟨by rfl, rfl⟩) (by assumption) ?_
          try simp only [Act.put, List.setIfInBounds_toArray, List.set_cons_zero, List.set_cons_succ]
          refine wpAnyH_take (i := 6) (oi := { dst := some 50, op := Op.move (Operand.tmp 3), type := 2, pos := "l03_normal.go:24", after := #[{ on := 4, ground := Ground.guard }], guard := some (4, false) }) (v := undef) rfl (by kernel_rfl) (by kernel_rfl) (by kernel_rfl) (fun _ _ _ h => h) (Or.inr ⟨by rfl, rfl⟩) (by assumption) ?_
          try simp only [Act.put, List.setIfInBounds_toArray, List.set_cons_zero, List.set_cons_succ]
          refine wpAnyH_ready (rs := [7]) (by kernel_rfl) (by simp) ?_
          refine AllReadyH.cons (o := { dst := some 51, op := Op.call { callee := Callee.value (Operand.func 36), args := #[Operand.tmp 50], argTypes := #[2] }, type := 53, pos := "l03_normal.go:24", after := #[{ on := 6, ground := Ground.data }, { on := 4, ground := Ground.chain }, { on := 4, ground := Ground.guard }], guard := some (4, false) }) rfl (fun K hK => ?_) AllReadyH.nil
          go_simp
          refine hK.out _ _ ?_ (fun hHeld => ?_)
          ·with_reducible exact RI.out.flat
          clear hK K
          try simp only [Act.put, List.setIfInBounds_toArray, List.set_cons_zero, List.set_cons_succ]
          refine wpAnyH_take (i := 8) (oi := { dst := some 52, op := Op.binOp BinOp.eql 53 (Operand.tmp 49) (Operand.tmp 51) 53, type := 4, pos := "l03_normal.go:24", after := #[{ on := 5, ground := Ground.data }, { on := 7, ground := Ground.data }, { on := 4, ground := Ground.guard }], guard := some (4, false) }) (v := undef) rfl (by kernel_rfl) (by kernel_rfl) (by kernel_rfl) (fun _ _ _ h => h) (Or.inr ⟨by rfl, rfl⟩) (by assumption) ?_
          try simp only [Act.put, List.setIfInBounds_toArray, List.set_cons_zero, List.set_cons_succ]
          refine wpAnyH_take (i := 9) (oi := { dst := some 53, op := Op.pick (Operand.tmp 48) (Operand.const (Value.bool true)) (Operand.tmp 52), type := 4, pos := "l03_normal.go:24", after := #[{ on := 4, ground := Ground.data }, { on := 8, ground := Ground.data }], guard := none }) (v := ?_) rfl (by kernel_rfl) (by kernel_rfl) (by kernel_rfl) (fun _ _ _ h => h) (Or.inl ⟨by rfl, ?_⟩) (by assumption) ?_
          rotate_left
          ·intro w hSw
           (try dsimp only at hSw)
           go_simp
           try with_reducible rfl
          try simp only [Act.put, List.setIfInBounds_toArray, List.set_cons_zero, List.set_cons_succ]
          refine wpAnyH_take (i := 10) (oi := { dst := some 54, op := Op.move (Operand.tmp 53), type := 4, pos := "l03_normal.go:24", after := #[{ on := 9, ground := Ground.data }, { on := 7, ground := Ground.chain }], guard := none }) (v := ?_) rfl (by kernel_rfl) (by kernel_rfl) (by kernel_rfl) (fun _ _ _ h => h) (Or.inl ⟨by rfl, ?_⟩) (by assumption) ?_
          rotate_left
          ·intro w hSw
           (try dsimp only at hSw)
           go_simp
           try with_reducible rfl
          try simp only [Act.put, List.setIfInBounds_toArray, List.set_cons_zero, List.set_cons_succ]
          refine wpAnyH_take (i := 11) (oi := { dst := some 55, op := Op.load 53 (Operand.tmp 5), type := 53, pos := "l03_normal.go:24", after := #[{ on := 10, ground := Ground.guard }], guard := some (10, false) }) (v := undef) rfl (by kernel_rfl) (by kernel_rfl) (by kernel_rfl) (fun _ _ _ h => h) (Or.inr ⟨by rfl, rfl⟩) (by assumption) ?_
          try simp only [Act.put, List.setIfInBounds_toArray, List.set_cons_zero, List.set_cons_succ]
          refine wpAnyH_take (i := 12) (oi := { dst := some 56, op := Op.move (Operand.tmp 3), type := 2, pos := "l03_normal.go:24", after := #[{ on := 10, ground := Ground.guard }], guard := some (10, false) }) (v := undef) rfl (by kernel_rfl) (by kernel_rfl) (by kernel_rfl) (fun _ _ _ h => h) (Or.inr ⟨by rfl, rfl⟩) (by assumption) ?_
          try simp only [Act.put, List.setIfInBounds_toArray, List.set_cons_zero, List.set_cons_succ]
          refine wpAnyH_ready (rs := [13]) (by kernel_rfl) (by simp) ?_
          refine AllReadyH.cons (o := { dst := some 57, op := Op.call { callee := Callee.value (Operand.func 37), args := #[Operand.tmp 56], argTypes := #[2] }, type := 53, pos := "l03_normal.go:24", after := #[{ on := 12, ground := Ground.data }, { on := 10, ground := Ground.chain }, { on := 10, ground := Ground.guard }], guard := some (10, false) }) rfl (fun K hK => ?_) AllReadyH.nil
          go_simp
          refine hK.out _ _ ?_ (fun hHeld => ?_)
          ·with_reducible exact RI.out.flat
          clear hK K
          try simp only [Act.put, List.setIfInBounds_toArray, List.set_cons_zero, List.set_cons_succ]
          refine wpAnyH_take (i := 14) (oi := { dst := some 58, op := Op.binOp BinOp.eql 53 (Operand.tmp 55) (Operand.tmp 57) 53, type := 4, pos := "l03_normal.go:24", after := #[{ on := 11, ground := Ground.data }, { on := 13, ground := Ground.data }, { on := 10, ground := Ground.guard }], guard := some (10, false) }) (v := undef) rfl (by kernel_rfl) (by kernel_rfl) (by kernel_rfl) (fun _ _ _ h => h) (Or.inr ⟨by rfl, rfl⟩) (by assumption) ?_
          try simp only [Act.put, List.setIfInBounds_toArray, List.set_cons_zero, List.set_cons_succ]
          refine wpAnyH_take (i := 15) (oi := { dst := some 59, op := Op.pick (Operand.tmp 54) (Operand.const (Value.bool true)) (Operand.tmp 58), type := 4, pos := "l03_normal.go:24", after := #[{ on := 10, ground := Ground.data }, { on := 14, ground := Ground.data }], guard := none }) (v := ?_) rfl (by kernel_rfl) (by kernel_rfl) (by kernel_rfl) (fun _ _ _ h => h) (Or.inl ⟨by rfl, ?_⟩) (by assumption) ?_
          rotate_left
          ·intro w hSw
           (try dsimp only at hSw)
           go_simp
           try with_reducible rfl
          try simp only [Act.put, List.setIfInBounds_toArray, List.set_cons_zero, List.set_cons_succ]
          refine wpAnyH_take (i := 16) (oi := { dst := some 60, op := Op.move (Operand.tmp 59), type := 4, pos := "l03_normal.go:24", after := #[{ on := 15, ground := Ground.data }, { on := 13, ground := Ground.chain }], guard := none }) (v := ?_) rfl (by kernel_rfl) (by kernel_rfl) (by kernel_rfl) (fun _ _ _ h => h) (Or.inl ⟨by rfl, ?_⟩) (by assumption) ?_
          rotate_left
          ·intro w hSw
           (try dsimp only at hSw)
           go_simp
           try with_reducible rfl
          try simp only [Act.put, List.setIfInBounds_toArray, List.set_cons_zero, List.set_cons_succ]
          refine wpAnyH_take (i := 17) (oi := { dst := some 61, op := Op.move (Operand.tmp 4), type := 3, pos := "l03_normal.go:24", after := #[{ on := 16, ground := Ground.guard }], guard := some (16, false) }) (v := undef) rfl (by kernel_rfl) (by kernel_rfl) (by kernel_rfl) (fun _ _ _ h => h) (Or.inr ⟨by rfl, rfl⟩) (by assumption) ?_
          try simp only [Act.put, List.setIfInBounds_toArray, List.set_cons_zero, List.set_cons_succ]
          refine wpAnyH_take (i := 18) (oi := { dst := some 62, op := Op.binOp BinOp.gtr 3 (Operand.tmp 61) (Operand.const (Value.int IntKind.i64 0)) 3, type := 4, pos := "l03_normal.go:24", after := #[{ on := 17, ground := Ground.data }, { on := 16, ground := Ground.guard }], guard := some (16, false) }) (v := undef) rfl (by kernel_rfl) (by kernel_rfl) (by kernel_rfl) (fun _ _ _ h => h) (Or.inr ⟨by rfl, rfl⟩) (by assumption) ?_
          try simp only [Act.put, List.setIfInBounds_toArray, List.set_cons_zero, List.set_cons_succ]
          refine wpAnyH_take (i := 19) (oi := { dst := some 63, op := Op.move (Operand.tmp 62), type := 4, pos := "l03_normal.go:24", after := #[{ on := 18, ground := Ground.data }, { on := 16, ground := Ground.chain }, { on := 16, ground := Ground.guard }], guard := some (16, false) }) (v := undef) rfl (by kernel_rfl) (by kernel_rfl) (by kernel_rfl) (fun _ _ _ h => h) (Or.inr ⟨by rfl, rfl⟩) (by assumption) ?_
          try simp only [Act.put, List.setIfInBounds_toArray, List.set_cons_zero, List.set_cons_succ]
          refine wpAnyH_take (i := 20) (oi := { dst := some 64, op := Op.fieldAddr 28 (Operand.tmp 1) 2, type := 0, pos := "l03_normal.go:24", after := #[{ on := 19, ground := Ground.guard }], guard := some (19, true) }) (v := undef) rfl (by kernel_rfl) (by kernel_rfl) (by kernel_rfl) (fun _ _ _ h => h) (Or.inr ⟨by rfl, rfl⟩) (by assumption) ?_
          try simp only [Act.put, List.setIfInBounds_toArray, List.set_cons_zero, List.set_cons_succ]
          refine wpAnyH_take (i := 21) (oi := { dst := some 65, op := Op.load 26 (Operand.tmp 64), type := 26, pos := "l03_normal.go:24", after := #[{ on := 20, ground := Ground.data }, { on := 19, ground := Ground.guard }], guard := some (19, true) }) (v := undef) rfl (by kernel_rfl) (by kernel_rfl) (by kernel_rfl) (fun _ _ _ h => h) (Or.inr ⟨by rfl, rfl⟩) (by assumption) ?_
          try simp only [Act.put, List.setIfInBounds_toArray, List.set_cons_zero, List.set_cons_succ]
          refine wpAnyH_take (i := 22) (oi := { dst := some 66, op := Op.move (Operand.tmp 4), type := 3, pos := "l03_normal.go:24", after := #[{ on := 19, ground := Ground.guard }], guard := some (19, true) }) (v := undef) rfl (by kernel_rfl) (by kernel_rfl) (by kernel_rfl) (fun _ _ _ h => h) (Or.inr ⟨by rfl, rfl⟩) (by assumption) ?_
          try simp only [Act.put, List.setIfInBounds_toArray, List.set_cons_zero, List.set_cons_succ]
          refine wpAnyH_take (i := 23) (oi := { dst := some 67, op := Op.binOp BinOp.sub 3 (Operand.tmp 66) (Operand.const (Value.int IntKind.i64 1)) 3, type := 3, pos := "l03_normal.go:24", after := #[{ on := 22, ground := Ground.data }, { on := 19, ground := Ground.guard }], guard := some (19, true) }) (v := undef) rfl (by kernel_rfl) (by kernel_rfl) (by kernel_rfl) (fun _ _ _ h => h) (Or.inr ⟨by rfl, rfl⟩) (by assumption) ?_
          try simp only [Act.put, List.setIfInBounds_toArray, List.set_cons_zero, List.set_cons_succ]
          refine wpAnyH_take (i := 24) (oi := { dst := some 68, op := Op.indexAddr 26 (Operand.tmp 65) (Operand.tmp 67), type := 0, pos := "l03_normal.go:24", after := #[{ on := 21, ground := Ground.data }, { on := 23, ground := Ground.data }, { on := 19, ground := Ground.guard }], guard := some (19, true) }) (v := undef) rfl (by kernel_rfl) (by kernel_rfl) (by kernel_rfl) (fun _ _ _ h => h) (Or.inr ⟨by rfl, rfl⟩) (by assumption) ?_
          try simp only [Act.put, List.setIfInBounds_toArray, List.set_cons_zero, List.set_cons_succ]
          refine wpAnyH_take (i := 25) (oi := { dst := some 69, op := Op.load 53 (Operand.tmp 68), type := 53, pos := "l03_normal.go:24", after := #[{ on := 24, ground := Ground.data }, { on := 19, ground := Ground.guard }], guard := some (19, true) }) (v := undef) rfl (by kernel_rfl) (by kernel_rfl) (by kernel_rfl) (fun _ _ _ h => h) (Or.inr ⟨by rfl, rfl⟩) (by assumption) ?_
          try simp only [Act.put, List.setIfInBounds_toArray, List.set_cons_zero, List.set_cons_succ]
          refine wpAnyH_take (i := 26) (oi := { dst := some 70, op := Op.load 53 (Operand.tmp 5), type := 53, pos := "l03_normal.go:24", after := #[{ on := 19, ground := Ground.guard }], guard := some (19, true) }) (v := undef) rfl (by kernel_rfl) (by kernel_rfl) (by kernel_rfl) (fun _ _ _ h => h) (Or.inr ⟨by rfl, rfl⟩) (by assumption) ?_
          try simp only [Act.put, List.setIfInBounds_toArray, List.set_cons_zero, List.set_cons_succ]
          refine wpAnyH_take (i := 27) (oi := { dst := some 71, op := Op.move (Operand.tmp 3), type := 2, pos := "l03_normal.go:24", after := #[{ on := 19, ground := Ground.guard }], guard := some (19, true) }) (v := undef) rfl (by kernel_rfl) (by kernel_rfl) (by kernel_rfl) (fun _ _ _ h => h) (Or.inr ⟨by rfl, rfl⟩) (by assumption) ?_
          try simp only [Act.put, List.setIfInBounds_toArray, List.set_cons_zero, List.set_cons_succ]
          refine wpAnyH_ready (rs := [28]) (by kernel_rfl) (by simp) ?_
          refine AllReadyH.cons (o := { dst := some 72, op := Op.call { callee := Callee.value (Operand.func 38), args := #[Operand.tmp 69, Operand.tmp 70, Operand.tmp 71], argTypes := #[53, 53, 2] }, type := 4, pos := "l03_normal.go:24", after := #[{ on := 25, ground := Ground.data }, { on := 26, ground := Ground.data }, { on := 27, ground := Ground.data }, { on := 19, ground := Ground.chain }, { on := 19, ground := Ground.guard }], guard := some (19, true) }) rfl (fun K hK => ?_) AllReadyH.nil
          go_simp
          refine hK.out _ _ ?_ (fun hHeld => ?_)
          ·with_reducible exact RI.out.flat
          clear hK K
          try simp only [Act.put, List.setIfInBounds_toArray, List.set_cons_zero, List.set_cons_succ]
          refine wpAnyH_take (i := 29) (oi := { dst := some 73, op := Op.unOp UnOp.not 4 (Operand.tmp 72), type := 4, pos := "l03_normal.go:24", after := #[{ on := 28, ground := Ground.data }, { on := 19, ground := Ground.guard }], guard := some (19, true) }) (v := undef) rfl (by kernel_rfl) (by kernel_rfl) (by kernel_rfl) (fun _ _ _ h => h) (Or.inr ⟨by rfl, rfl⟩) (by assumption) ?_
          try simp only [Act.put, List.setIfInBounds_toArray, List.set_cons_zero, List.set_cons_succ]
          refine wpAnyH_take (i := 30) (oi := { dst := some 74, op := Op.pick (Operand.tmp 63) (Operand.tmp 73) (Operand.const (Value.bool false)), type := 4, pos := "l03_normal.go:24", after := #[{ on := 19, ground := Ground.data }, { on := 29, ground := Ground.data }, { on := 16, ground := Ground.guard }], guard := some (16, false) }) (v := undef) rfl (by kernel_rfl) (by kernel_rfl) (by kernel_rfl) (fun _ _ _ h => h) (Or.inr ⟨by rfl, rfl⟩) (by assumption) ?_
          try simp only [Act.put, List.setIfInBounds_toArray, List.set_cons_zero, List.set_cons_succ]
          refine wpAnyH_take (i := 31) (oi := { dst := some 75, op := Op.pick (Operand.tmp 60) (Operand.const (Value.bool true)) (Operand.tmp 74), type := 4, pos := "l03_normal.go:24", after := #[{ on := 16, ground := Ground.data }, { on := 30, ground := Ground.data }], guard := none }) (v := ?_) rfl (by kernel_rfl) (by kernel_rfl) (by kernel_rfl) (fun _ _ _ h => h) (Or.inl ⟨by rfl, ?_⟩) (by assumption) ?_
          rotate_left
          ·intro w hSw
           (try dsimp only at hSw)
           go_simp
           try with_reducible rfl
          try simp only [Act.put, List.setIfInBounds_toArray, List.set_cons_zero, List.set_cons_succ]
          refine wpAnyH_done (by kernel_rfl) ?_ _
          go_wp2_with fail
          go_meet
          exact ⟨by rw [HQ2.out, HV.out]; rfl, F.out⟩
        case rest =>
         obtain ⟨rfl, hF⟩ := hcut
         clear RI F
         have F := Lib.hid hF
         clear hF
         cases q2 with
         | true =>
          have HE : Hid (normB m p rs = false) := Lib.hid (normB_bad rfl k (by rw [HL.out]; exact hlt) (by have := HQ2.out; simpa using this))
          go_wp2
          go_ret
          exact ⟨ret_bool HE.out.symm, F.out.bel⟩
         | false =>
          have HK : Hid (okFac m rs k = true) := Lib.hid (by have := HQ2.out; simpa using this)
          go_wp2
          go_roundg (gk - 1)
          case measure => omega
          case rel => exact ⟨k + 1, by omega, by omega, by go_num, fun j hj => by
           by_cases e : j = k
           ·rw [e]; exact HK.out
           ·exact HIN.out j (by omega), F.out⟩
       ·have hkn : k = n := by omega
        have HE : Hid (normB m p rs = true) := Lib.hid (normB_all rfl HOK.out fun j hj => HIN.out j (by rw [HL.out] at hj; omega))
        go_wp2
        go_ret
        exact ⟨ret_bool HE.out.symm, F.out.bel⟩
   ·have HE : Hid (normB s p rs = false) := Lib.hid (normB_head fun h => by have := h.2.2.1; rw [HL.out] at this; unfold limB at this; simp at this; omega)
    have t3 : decide ((200 : Int) < (n : Int)) = true := decide_eq_true (by omega)
    go_enter Try.func21, Try.ntmps21
    go_wp2_with (go_at_call 34; refine (l01In_any _ _ _ _).mono ?_; (first | rw [g1] | rw [g2]); rintro e w' ⟨rfl, rfl⟩)
    go_ret
    exact ⟨ret_bool HE.out.symm, below1 w _⟩

end Go.Proofs.Ytpkhddndapcpjaa

