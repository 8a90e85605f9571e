/- The model: is it a dual form? -/
import Derived.Test.YtlgipimjhfmilaaPSIs
import Derived.Test.YtlgipimjhfmilaaPSMeet
import Derived.Test.YtlgipimjhfmilaaPSWhl
import Derived.Test.YtlgipimjhfmilaaPFine
import Derived.Test.YtlgipimjhfmilaaDKit11
import Derived.Test.YtlgipimjhfmilaaPtU
import Derived.Test.YtlgipimjhfmilaaAtDu
import Derived.Deep.DeepCutAuto
import Derived.Deep.LoopGhost
namespace Go.Proofs.Ytlgipimjhfmilaa
open Go.RowKit Go.ChangeShapes

set_option maxRecDepth 100000 in
set_option maxHeartbeats 20000000 in
theorem l07Dual_any (s p : Int) (a : Option Addr) (n cap : Nat) (rs : List (List Int)) (w : World) (hr : ReadsA w a n rs) (hy : BytesA rs) (hn : n ≤ 1048576) :
    Calls Try.prog 41 #[.agg #[.int .i64 s, .int .i64 p, .slice a n cap]] w fun e w' => e = .returned (.bool (dualB s p rs)) ∧ Below w.heap.size w w' := by
  have HL := Lib.hid hr.len
  have H8 := Lib.hid hr.rows
  have HY := Lib.hid hy; clear hy
  have R := Lib.hid hr; clear hr
  cases g1 : inB s 1 8 with
  | false =>
    have HE : Hid (dualB s p rs = false) := Lib.hid (dualB_head fun h => by rw [inB_not] at g1; omega)
    go_enter Try.func41, Try.ntmps41
    go_wp2_with (go_at_call 31; refine (l01In_any _ _ _ _).mono ?_; (first | rw [g1] | rw [g2]); rintro e w' ⟨rfl, rfl⟩)
    go_ret
    exact ⟨ret_bool HE.out.symm, below1 w _⟩
  | true =>
    cases g2 : inB p (-400) 400 with
    | false =>
      have HE : Hid (dualB s p rs = false) := Lib.hid (dualB_head fun h => by have := h.2.2.1; unfold limD at this; rw [g2] at this; cases this)
      go_enter Try.func41, Try.ntmps41
      go_wp2_with (go_at_call 31; refine (l01In_any _ _ _ _).mono ?_; (first | rw [g1] | rw [g2]); rintro e w' ⟨rfl, rfl⟩)
      go_ret
      exact ⟨ret_bool HE.out.symm, below1 w _⟩
    | true =>
      by_cases g3 : n ≤ 400
      · have t3 : decide ((400 : Int) < (n : Int)) = false := decide_eq_false (by omega)
        by_cases g4 : s < 2 ∧ p ≠ 0
        · have HE : Hid (dualB s p rs = false) := Lib.hid (dualB_head fun h => by omega)
          obtain ⟨g5, g6⟩ := g4
          have t4 : decide (s < 2) = true := decide_eq_true g5
          have t5 : (p != 0) = true := by rw [bne_iff_ne]; exact g6
          clear g5 g6
          go_enter Try.func41, Try.ntmps41
          go_wp2_with (go_at_call 31; refine (l01In_any _ _ _ _).mono ?_; (first | rw [g1] | rw [g2]); rintro e w' ⟨rfl, rfl⟩)
          go_ret
          exact ⟨ret_bool HE.out.symm, below1 w _⟩
        · have HOK : Hid (1 ≤ s ∧ s ≤ 8 ∧ limD p rs.length = true ∧ (2 ≤ s ∨ p = 0)) := Lib.hid ⟨((inB_iff _ _ _).1 g1).1, ((inB_iff _ _ _).1 g1).2, by rw [HL.out]; unfold limD; rw [g2]; simpa using g3, by omega⟩
          obtain ⟨m, hm⟩ : ∃ m : Nat, s = m := ⟨s.toNat, by have := HOK.out.1; omega⟩
          subst hm
          have m1 : 1 ≤ m := by have := HOK.out.1; omega
          have m8 : m ≤ 8 := by have := HOK.out.2.1; omega
          have HT : Hid (decide ((m : Int) < 2) = false ∨ decide ((m : Int) < 2) = true ∧ (p != 0) = false) := Lib.hid (by
            by_cases hm1 : (m : Int) < 2
            · right; exact ⟨decide_eq_true hm1, by simp; omega⟩
            · left; exact decide_eq_false hm1)
          clear g4
          go_enter Try.func41, Try.ntmps41
          have A := Lib.hid (At3.place w (.int .i64 m) (.int .i64 p) (.slice a n cap) 34 w.heap.size rfl)
          have BB := Lib.hid (below1 w (.cells #[.int .i64 m, .int .i64 p, .slice a n cap] 34))
          have F := Lib.hid (AtDu.mk A.out BB.out)
          clear A BB
          obtain ⟨za, ⟨q0, q1, q2⟩, _, _, _⟩ := F.out.box
          rcases HT.out with t4 | ⟨t4, t5⟩
          all_goals
            go_wp2_with (go_at_call 31; refine (l01In_any _ _ _ _).mono ?_; (first | rw [g1] | rw [g2]); rintro e w' ⟨rfl, rfl⟩)
            clear t3 t4 g1 g2 q0 q1 q2 za
            go_loopg [4] n (fun g i wr => ∃ k : Nat, k ≤ n ∧ g + k = n ∧ i = .int .i64 k ∧ (∀ j, j < k → okD m rs j = true) ∧ AtDu w wr m p a n cap)
            case atStart => exact ⟨0, Nat.zero_le _, rfl, rfl, fun j hj => absurd hj (Nat.not_lt_zero _), F.out⟩
            case round =>
              obtain ⟨k, hk, hgk, rfl, hin, hF⟩ := hrel
              clear F
              have HIN := Lib.hid hin
              have F := Lib.hid hF
              clear hin hF
              obtain ⟨za, ⟨q0, q1, q2⟩, _, _, _⟩ := F.out.box
              by_cases hlt : k < n
              · obtain ⟨b, off, rfl, hbl, hcl⟩ := R.out.cells (Nat.lt_of_le_of_lt (Nat.zero_le _) hlt)
                have HC : Hid (∀ W, Below w.heap.size w W → ∀ j, j < n → Cells8 W b (off + j * 8) (rowAt rs j)) := Lib.hid fun W h j hj i hi => (h.cell (by exact hbl)).trans (hcl j hj i hi)
                clear hbl hcl
                have hC := HC.out wr F.out.bel k hlt
                have HR8 := Lib.hid (H8.out.at (j := k) (by rw [HL.out]; exact hlt))
                have HB8 : Hid (Bytes8 (rowAt rs k)) := Lib.hid (HY.out _ (rowAt_mem (by rw [HL.out]; exact hlt)))
                obtain ⟨row, hrow⟩ : ∃ row, row = rowAt rs k := ⟨_, rfl⟩
                rw [← hrow] at hC HR8 HB8
                have HROW := Lib.hid hrow
                clear hrow
                obtain ⟨c0, c1, c2, c3, c4, c5, c6, c7⟩ := hC.flat
                clear hC
                have zb := F.out.bel.size
                have RI := Lib.hid (Row8.place wr .u8 row 59 wr.heap.size rfl HR8.out)
                replace F := Lib.hid (F.out.alloc (.cells #[.int .u8 (at8 row 0), .int .u8 (at8 row 1), .int .u8 (at8 row 2), .int .u8 (at8 row 3), .int .u8 (at8 row 4), .int .u8 (at8 row 5), .int .u8 (at8 row 6), .int .u8 (at8 row 7)] 59))
                go_upto_region 8 with fail
                obtain ⟨W, hW⟩ : ∃ W, W = wr.alloc (.cells #[.int .u8 (at8 row 0), .int .u8 (at8 row 1), .int .u8 (at8 row 2), .int .u8 (at8 row 3), .int .u8 (at8 row 4), .int .u8 (at8 row 5), .int .u8 (at8 row 6), .int .u8 (at8 row 7)] 59) := ⟨_, rfl⟩
                have ro := RI.out
                have ff := F.out
                rw [← hW] at ro ff ⊢
                clear RI F hW c0 c1 c2 c3 c4 c5 c6 c7 q0 q1 q2
                obtain ⟨g5, hg5⟩ : ∃ g5, g5 = wr.heap.size := ⟨_, rfl⟩
                rw [← hg5] at ro zb ⊢
                clear hg5
                have RI := Lib.hid ro
                have F := Lib.hid ff
                clear ro ff
                replace RI := Lib.hid RI.out.drew
                replace F := Lib.hid F.out.drew
                by_cases hpt' : isPt m row = true
                · have hpt := hpt'
                  have HPT := Lib.hid hpt'
                  clear hpt'
                  have SR : Hid (Sim m row) := Lib.hid (sim_of_isPt HR8.out HPT.out)
                  by_cases h2 : row = sameR m
                  · have HE : Hid (dualB m p rs = false) := Lib.hid (dualB_bad rfl k (by rw [HL.out]; exact hlt) (okD_no2 (by rw [← HROW.out]; exact h2)))
                    have heq1 : ∀ W, Sem.run Try.prog (Op.equalIn 10000 59 (arr8 .u8 row) (arr8 .u8 (sameR m))) W = .ok true W := fun W => by rw [equalD row (sameR m) HR8.out (mapR_len _ _ m8) W, decide_eq_true h2]
                    clear h2
                    refine wp_region_held_drew (S := (fun w' => w'.cell? ⟨g5, 0, none⟩ = some (.int .u8 (at8 row 0)) ∧ w'.cell? ⟨g5, 1, none⟩ = some (.int .u8 (at8 row 1)) ∧ w'.cell? ⟨g5, 2, none⟩ = some (.int .u8 (at8 row 2)) ∧ w'.cell? ⟨g5, 3, none⟩ = some (.int .u8 (at8 row 3)) ∧ w'.cell? ⟨g5, 4, none⟩ = some (.int .u8 (at8 row 4)) ∧ w'.cell? ⟨g5, 5, none⟩ = some (.int .u8 (at8 row 5)) ∧ w'.cell? ⟨g5, 6, none⟩ = some (.int .u8 (at8 row 6)) ∧ w'.cell? ⟨g5, 7, none⟩ = some (.int .u8 (at8 row 7)))) (by kernel_rfl) ?_ (fun hHeld => ?_)
                    · with_reducible exact RI.out.flat
                    refine wpAnyH_take (i := 0) (oi := { dst := some 44, op := Op.load 59 (Operand.tmp 5), type := 59, pos := "l07_bands.go:306", after := #[], guard := none }) (v := ?_) rfl (by kernel_rfl) (by kernel_rfl) (by kernel_rfl) (fun _ _ _ h => h) (Or.inl ⟨by rfl, ?_⟩) (by assumption) ?_
                    rotate_left
                    · intro w hSw
                      (try dsimp only at hSw)
                      go_simp
                      try with_reducible rfl
                    try simp only [Act.put, List.setIfInBounds_toArray, List.set_cons_zero, List.set_cons_succ]
                    refine wpAnyH_take (i := 1) (oi := { dst := some 45, op := Op.move (Operand.tmp 3), type := 2, pos := "l07_bands.go:306", after := #[], guard := none }) (v := ?_) rfl (by kernel_rfl) (by kernel_rfl) (by kernel_rfl) (fun _ _ _ h => h) (Or.inl ⟨by rfl, ?_⟩) (by assumption) ?_
                    rotate_left
                    · intro w hSw
                      (try dsimp only at hSw)
                      go_simp
                      try with_reducible rfl
                    try simp only [Act.put, List.setIfInBounds_toArray, List.set_cons_zero, List.set_cons_succ]
                    refine wpAnyH_ready (rs := [2]) (by kernel_rfl) (by simp) ?_
                    refine AllReadyH.cons (o := { dst := some 46, op := Op.call { callee := Callee.value (Operand.func 73), args := #[Operand.tmp 44, Operand.tmp 45], argTypes := #[59, 2] }, type := 4, pos := "l07_bands.go:306", after := #[{ on := 0, ground := Ground.data }, { on := 1, ground := Ground.data }], guard := none }) rfl (fun K hK => ?_) AllReadyH.nil
                    go_simp
                    (refine (l07Is_any m row HR8.out HB8.out _).mono ?_; rw [hpt]; rintro e w3 ⟨rfl, gg⟩; replace RI := Lib.hid (RI.out.below gg); replace F := Lib.hid (F.out.below gg))
                    go_wp2_with fail
                    refine hK.out _ _ ?_ (fun hHeld => ?_)
                    · with_reducible exact RI.out.flat
                    clear hK K
                    try simp only [Act.put, List.setIfInBounds_toArray, List.set_cons_zero, List.set_cons_succ]
                    refine wpAnyH_take (i := 3) (oi := { dst := some 47, op := Op.unOp UnOp.not 4 (Operand.tmp 46), type := 4, pos := "l07_bands.go:306", after := #[{ on := 2, ground := Ground.data }], guard := none }) (v := ?_) rfl (by kernel_rfl) (by kernel_rfl) (by kernel_rfl) (fun _ _ _ h => h) (Or.inl ⟨by rfl, ?_⟩) (by assumption) ?_
                    rotate_left
                    · intro w hSw
                      (try dsimp only at hSw)
                      go_simp
                      try with_reducible rfl
                    try simp only [Act.put, List.setIfInBounds_toArray, List.set_cons_zero, List.set_cons_succ]
                    refine wpAnyH_take (i := 4) (oi := { dst := some 48, op := Op.move (Operand.tmp 47), type := 4, pos := "l07_bands.go:306", after := #[{ on := 3, ground := Ground.data }, { on := 2, ground := Ground.chain }], guard := none }) (v := ?_) rfl (by kernel_rfl) (by kernel_rfl) (by kernel_rfl) (fun _ _ _ h => h) (Or.inl ⟨by rfl, ?_⟩) (by assumption) ?_
                    rotate_left
                    · intro w hSw
                      (try dsimp only at hSw)
                      go_simp
                      try with_reducible rfl
                    try simp only [Act.put, List.setIfInBounds_toArray, List.set_cons_zero, List.set_cons_succ]
                    refine wpAnyH_take (i := 5) (oi := { dst := some 49, op := Op.load 59 (Operand.tmp 5), type := 59, pos := "l07_bands.go:306", after := #[{ on := 4, ground := Ground.guard }], guard := some (4, false) }) (v := ?_) rfl (by kernel_rfl) (by kernel_rfl) (by kernel_rfl) (fun _ _ _ h => h) (Or.inl ⟨by rfl, ?_⟩) (by assumption) ?_
                    rotate_left
                    · intro w hSw
                      (try dsimp only at hSw)
                      go_simp
                      try with_reducible rfl
                    try simp only [Act.put, List.setIfInBounds_toArray, List.set_cons_zero, List.set_cons_succ]
                    refine wpAnyH_take (i := 6) (oi := { dst := some 50, op := Op.move (Operand.tmp 3), type := 2, pos := "l07_bands.go:306", after := #[{ on := 4, ground := Ground.guard }], guard := some (4, false) }) (v := ?_) rfl (by kernel_rfl) (by kernel_rfl) (by kernel_rfl) (fun _ _ _ h => h) (Or.inl ⟨by rfl, ?_⟩) (by assumption) ?_
                    rotate_left
                    · intro w hSw
                      (try dsimp only at hSw)
                      go_simp
                      try with_reducible rfl
                    try simp only [Act.put, List.setIfInBounds_toArray, List.set_cons_zero, List.set_cons_succ]
                    refine wpAnyH_ready (rs := [7]) (by kernel_rfl) (by simp) ?_
                    refine AllReadyH.cons (o := { dst := some 51, op := Op.call { callee := Callee.value (Operand.func 74), args := #[Operand.tmp 50], argTypes := #[2] }, type := 59, pos := "l07_bands.go:306", after := #[{ on := 6, ground := Ground.data }, { on := 4, ground := Ground.chain }, { on := 4, ground := Ground.guard }], guard := some (4, false) }) rfl (fun K hK => ?_) AllReadyH.nil
                    go_simp
                    (refine (l07Fine_any m m1 m8 _).mono ?_; rintro e w4 ⟨rfl, gg⟩; replace RI := Lib.hid (RI.out.below gg); replace F := Lib.hid (F.out.below gg))
                    go_wp2_with fail
                    refine hK.out _ _ ?_ (fun hHeld => ?_)
                    · with_reducible exact RI.out.flat
                    clear hK K
                    try simp only [Act.put, List.setIfInBounds_toArray, List.set_cons_zero, List.set_cons_succ]
                    refine wpAnyH_take (i := 8) (oi := { dst := some 52, op := Op.binOp BinOp.eql 59 (Operand.tmp 49) (Operand.tmp 51) 59, type := 4, pos := "l07_bands.go:306", after := #[{ on := 5, ground := Ground.data }, { on := 7, ground := Ground.data }, { on := 4, ground := Ground.guard }], guard := some (4, false) }) (v := ?_) rfl (by kernel_rfl) (by kernel_rfl) (by kernel_rfl) (fun _ _ _ h => h) (Or.inl ⟨by rfl, ?_⟩) (by assumption) ?_
                    rotate_left
                    · intro w hSw
                      (try dsimp only at hSw)
                      go_simp
                      try with_reducible rfl
                    try simp only [Act.put, List.setIfInBounds_toArray, List.set_cons_zero, List.set_cons_succ]
                    refine wpAnyH_take (i := 9) (oi := { dst := some 53, op := Op.pick (Operand.tmp 48) (Operand.const (Value.bool true)) (Operand.tmp 52), type := 4, pos := "l07_bands.go:306", after := #[{ on := 4, ground := Ground.data }, { on := 8, ground := Ground.data }], guard := none }) (v := ?_) rfl (by kernel_rfl) (by kernel_rfl) (by kernel_rfl) (fun _ _ _ h => h) (Or.inl ⟨by rfl, ?_⟩) (by assumption) ?_
                    rotate_left
                    · intro w hSw
                      (try dsimp only at hSw)
                      go_simp
                      try with_reducible rfl
                    try simp only [Act.put, List.setIfInBounds_toArray, List.set_cons_zero, List.set_cons_succ]
                    refine wpAnyH_take (i := 10) (oi := { dst := some 54, op := Op.move (Operand.tmp 53), type := 4, pos := "l07_bands.go:306", after := #[{ on := 9, ground := Ground.data }, { on := 7, ground := Ground.chain }], guard := none }) (v := ?_) rfl (by kernel_rfl) (by kernel_rfl) (by kernel_rfl) (fun _ _ _ h => h) (Or.inl ⟨by rfl, ?_⟩) (by assumption) ?_
                    rotate_left
                    · intro w hSw
                      (try dsimp only at hSw)
                      go_simp
                      try with_reducible rfl
                    try simp only [Act.put, List.setIfInBounds_toArray, List.set_cons_zero, List.set_cons_succ]
                    refine wpAnyH_take (i := 11) (oi := { dst := some 55, op := Op.load 59 (Operand.tmp 5), type := 59, pos := "l07_bands.go:306", after := #[{ on := 10, ground := Ground.guard }], guard := some (10, false) }) (v := undef) rfl (by kernel_rfl) (by kernel_rfl) (by kernel_rfl) (fun _ _ _ h => h) (Or.inr ⟨by rfl, rfl⟩) (by assumption) ?_
                    try simp only [Act.put, List.setIfInBounds_toArray, List.set_cons_zero, List.set_cons_succ]
                    refine wpAnyH_take (i := 12) (oi := { dst := some 56, op := Op.move (Operand.tmp 3), type := 2, pos := "l07_bands.go:306", after := #[{ on := 10, ground := Ground.guard }], guard := some (10, false) }) (v := undef) rfl (by kernel_rfl) (by kernel_rfl) (by kernel_rfl) (fun _ _ _ h => h) (Or.inr ⟨by rfl, rfl⟩) (by assumption) ?_
                    try simp only [Act.put, List.setIfInBounds_toArray, List.set_cons_zero, List.set_cons_succ]
                    refine wpAnyH_ready (rs := [13]) (by kernel_rfl) (by simp) ?_
                    refine AllReadyH.cons (o := { dst := some 57, op := Op.call { callee := Callee.value (Operand.func 56), args := #[Operand.tmp 56], argTypes := #[2] }, type := 59, pos := "l07_bands.go:306", after := #[{ on := 12, ground := Ground.data }, { on := 10, ground := Ground.chain }, { on := 10, ground := Ground.guard }], guard := some (10, false) }) rfl (fun K hK => ?_) AllReadyH.nil
                    go_simp
                    refine hK.out _ _ ?_ (fun hHeld => ?_)
                    · with_reducible exact RI.out.flat
                    clear hK K
                    try simp only [Act.put, List.setIfInBounds_toArray, List.set_cons_zero, List.set_cons_succ]
                    refine wpAnyH_take (i := 14) (oi := { dst := some 58, op := Op.binOp BinOp.eql 59 (Operand.tmp 55) (Operand.tmp 57) 59, type := 4, pos := "l07_bands.go:306", after := #[{ on := 11, ground := Ground.data }, { on := 13, ground := Ground.data }, { on := 10, ground := Ground.guard }], guard := some (10, false) }) (v := undef) rfl (by kernel_rfl) (by kernel_rfl) (by kernel_rfl) (fun _ _ _ h => h) (Or.inr ⟨by rfl, rfl⟩) (by assumption) ?_
                    try simp only [Act.put, List.setIfInBounds_toArray, List.set_cons_zero, List.set_cons_succ]
                    refine wpAnyH_take (i := 15) (oi := { dst := some 59, op := Op.pick (Operand.tmp 54) (Operand.const (Value.bool true)) (Operand.tmp 58), type := 4, pos := "l07_bands.go:306", after := #[{ on := 10, ground := Ground.data }, { on := 14, ground := Ground.data }], guard := none }) (v := ?_) rfl (by kernel_rfl) (by kernel_rfl) (by kernel_rfl) (fun _ _ _ h => h) (Or.inl ⟨by rfl, ?_⟩) (by assumption) ?_
                    rotate_left
                    · intro w hSw
                      (try dsimp only at hSw)
                      go_simp
                      try with_reducible rfl
                    try simp only [Act.put, List.setIfInBounds_toArray, List.set_cons_zero, List.set_cons_succ]
                    refine wpAnyH_done (by kernel_rfl) ?_ _
                    go_wp2
                    go_ret
                    exact ⟨ret_bool HE.out.symm, F.out.bel⟩
                  · have heq1 : ∀ W, Sem.run Try.prog (Op.equalIn 10000 59 (arr8 .u8 row) (arr8 .u8 (sameR m))) W = .ok false W := fun W => by rw [equalD row (sameR m) HR8.out (mapR_len _ _ m8) W, decide_eq_false h2]
                    have H2 := Lib.hid h2
                    clear h2
                    by_cases h3 : row = wholeR m
                    · have HE : Hid (dualB m p rs = false) := Lib.hid (dualB_bad rfl k (by rw [HL.out]; exact hlt) (okD_no3 (by rw [← HROW.out]; exact h3)))
                      have heq2 : ∀ W, Sem.run Try.prog (Op.equalIn 10000 59 (arr8 .u8 row) (arr8 .u8 (wholeR m))) W = .ok true W := fun W => by rw [equalD row (wholeR m) HR8.out (mapR_len _ _ m8) W, decide_eq_true h3]
                      clear h3
                      refine wp_region_held_drew (S := (fun w' => w'.cell? ⟨g5, 0, none⟩ = some (.int .u8 (at8 row 0)) ∧ w'.cell? ⟨g5, 1, none⟩ = some (.int .u8 (at8 row 1)) ∧ w'.cell? ⟨g5, 2, none⟩ = some (.int .u8 (at8 row 2)) ∧ w'.cell? ⟨g5, 3, none⟩ = some (.int .u8 (at8 row 3)) ∧ w'.cell? ⟨g5, 4, none⟩ = some (.int .u8 (at8 row 4)) ∧ w'.cell? ⟨g5, 5, none⟩ = some (.int .u8 (at8 row 5)) ∧ w'.cell? ⟨g5, 6, none⟩ = some (.int .u8 (at8 row 6)) ∧ w'.cell? ⟨g5, 7, none⟩ = some (.int .u8 (at8 row 7)))) (by kernel_rfl) ?_ (fun hHeld => ?_)
                      · with_reducible exact RI.out.flat
                      refine wpAnyH_take (i := 0) (oi := { dst := some 44, op := Op.load 59 (Operand.tmp 5), type := 59, pos := "l07_bands.go:306", after := #[], guard := none }) (v := ?_) rfl (by kernel_rfl) (by kernel_rfl) (by kernel_rfl) (fun _ _ _ h => h) (Or.inl ⟨by rfl, ?_⟩) (by assumption) ?_
                      rotate_left
                      · intro w hSw
                        (try dsimp only at hSw)
                        go_simp
                        try with_reducible rfl
                      try simp only [Act.put, List.setIfInBounds_toArray, List.set_cons_zero, List.set_cons_succ]
                      refine wpAnyH_take (i := 1) (oi := { dst := some 45, op := Op.move (Operand.tmp 3), type := 2, pos := "l07_bands.go:306", after := #[], guard := none }) (v := ?_) rfl (by kernel_rfl) (by kernel_rfl) (by kernel_rfl) (fun _ _ _ h => h) (Or.inl ⟨by rfl, ?_⟩) (by assumption) ?_
                      rotate_left
                      · intro w hSw
                        (try dsimp only at hSw)
                        go_simp
                        try with_reducible rfl
                      try simp only [Act.put, List.setIfInBounds_toArray, List.set_cons_zero, List.set_cons_succ]
                      refine wpAnyH_ready (rs := [2]) (by kernel_rfl) (by simp) ?_
                      refine AllReadyH.cons (o := { dst := some 46, op := Op.call { callee := Callee.value (Operand.func 73), args := #[Operand.tmp 44, Operand.tmp 45], argTypes := #[59, 2] }, type := 4, pos := "l07_bands.go:306", after := #[{ on := 0, ground := Ground.data }, { on := 1, ground := Ground.data }], guard := none }) rfl (fun K hK => ?_) AllReadyH.nil
                      go_simp
                      (refine (l07Is_any m row HR8.out HB8.out _).mono ?_; rw [hpt]; rintro e w3 ⟨rfl, gg⟩; replace RI := Lib.hid (RI.out.below gg); replace F := Lib.hid (F.out.below gg))
                      go_wp2_with fail
                      refine hK.out _ _ ?_ (fun hHeld => ?_)
                      · with_reducible exact RI.out.flat
                      clear hK K
                      try simp only [Act.put, List.setIfInBounds_toArray, List.set_cons_zero, List.set_cons_succ]
                      refine wpAnyH_take (i := 3) (oi := { dst := some 47, op := Op.unOp UnOp.not 4 (Operand.tmp 46), type := 4, pos := "l07_bands.go:306", after := #[{ on := 2, ground := Ground.data }], guard := none }) (v := ?_) rfl (by kernel_rfl) (by kernel_rfl) (by kernel_rfl) (fun _ _ _ h => h) (Or.inl ⟨by rfl, ?_⟩) (by assumption) ?_
                      rotate_left
                      · intro w hSw
                        (try dsimp only at hSw)
                        go_simp
                        try with_reducible rfl
                      try simp only [Act.put, List.setIfInBounds_toArray, List.set_cons_zero, List.set_cons_succ]
                      refine wpAnyH_take (i := 4) (oi := { dst := some 48, op := Op.move (Operand.tmp 47), type := 4, pos := "l07_bands.go:306", after := #[{ on := 3, ground := Ground.data }, { on := 2, ground := Ground.chain }], guard := none }) (v := ?_) rfl (by kernel_rfl) (by kernel_rfl) (by kernel_rfl) (fun _ _ _ h => h) (Or.inl ⟨by rfl, ?_⟩) (by assumption) ?_
                      rotate_left
                      · intro w hSw
                        (try dsimp only at hSw)
                        go_simp
                        try with_reducible rfl
                      try simp only [Act.put, List.setIfInBounds_toArray, List.set_cons_zero, List.set_cons_succ]
                      refine wpAnyH_take (i := 5) (oi := { dst := some 49, op := Op.load 59 (Operand.tmp 5), type := 59, pos := "l07_bands.go:306", after := #[{ on := 4, ground := Ground.guard }], guard := some (4, false) }) (v := ?_) rfl (by kernel_rfl) (by kernel_rfl) (by kernel_rfl) (fun _ _ _ h => h) (Or.inl ⟨by rfl, ?_⟩) (by assumption) ?_
                      rotate_left
                      · intro w hSw
                        (try dsimp only at hSw)
                        go_simp
                        try with_reducible rfl
                      try simp only [Act.put, List.setIfInBounds_toArray, List.set_cons_zero, List.set_cons_succ]
                      refine wpAnyH_take (i := 6) (oi := { dst := some 50, op := Op.move (Operand.tmp 3), type := 2, pos := "l07_bands.go:306", after := #[{ on := 4, ground := Ground.guard }], guard := some (4, false) }) (v := ?_) rfl (by kernel_rfl) (by kernel_rfl) (by kernel_rfl) (fun _ _ _ h => h) (Or.inl ⟨by rfl, ?_⟩) (by assumption) ?_
                      rotate_left
                      · intro w hSw
                        (try dsimp only at hSw)
                        go_simp
                        try with_reducible rfl
                      try simp only [Act.put, List.setIfInBounds_toArray, List.set_cons_zero, List.set_cons_succ]
                      refine wpAnyH_ready (rs := [7]) (by kernel_rfl) (by simp) ?_
                      refine AllReadyH.cons (o := { dst := some 51, op := Op.call { callee := Callee.value (Operand.func 74), args := #[Operand.tmp 50], argTypes := #[2] }, type := 59, pos := "l07_bands.go:306", after := #[{ on := 6, ground := Ground.data }, { on := 4, ground := Ground.chain }, { on := 4, ground := Ground.guard }], guard := some (4, false) }) rfl (fun K hK => ?_) AllReadyH.nil
                      go_simp
                      (refine (l07Fine_any m m1 m8 _).mono ?_; rintro e w4 ⟨rfl, gg⟩; replace RI := Lib.hid (RI.out.below gg); replace F := Lib.hid (F.out.below gg))
                      go_wp2_with fail
                      refine hK.out _ _ ?_ (fun hHeld => ?_)
                      · with_reducible exact RI.out.flat
                      clear hK K
                      try simp only [Act.put, List.setIfInBounds_toArray, List.set_cons_zero, List.set_cons_succ]
                      refine wpAnyH_take (i := 8) (oi := { dst := some 52, op := Op.binOp BinOp.eql 59 (Operand.tmp 49) (Operand.tmp 51) 59, type := 4, pos := "l07_bands.go:306", after := #[{ on := 5, ground := Ground.data }, { on := 7, ground := Ground.data }, { on := 4, ground := Ground.guard }], guard := some (4, false) }) (v := ?_) rfl (by kernel_rfl) (by kernel_rfl) (by kernel_rfl) (fun _ _ _ h => h) (Or.inl ⟨by rfl, ?_⟩) (by assumption) ?_
                      rotate_left
                      · intro w hSw
                        (try dsimp only at hSw)
                        go_simp
                        try with_reducible rfl
                      try simp only [Act.put, List.setIfInBounds_toArray, List.set_cons_zero, List.set_cons_succ]
                      refine wpAnyH_take (i := 9) (oi := { dst := some 53, op := Op.pick (Operand.tmp 48) (Operand.const (Value.bool true)) (Operand.tmp 52), type := 4, pos := "l07_bands.go:306", after := #[{ on := 4, ground := Ground.data }, { on := 8, ground := Ground.data }], guard := none }) (v := ?_) rfl (by kernel_rfl) (by kernel_rfl) (by kernel_rfl) (fun _ _ _ h => h) (Or.inl ⟨by rfl, ?_⟩) (by assumption) ?_
                      rotate_left
                      · intro w hSw
                        (try dsimp only at hSw)
                        go_simp
                        try with_reducible rfl
                      try simp only [Act.put, List.setIfInBounds_toArray, List.set_cons_zero, List.set_cons_succ]
                      refine wpAnyH_take (i := 10) (oi := { dst := some 54, op := Op.move (Operand.tmp 53), type := 4, pos := "l07_bands.go:306", after := #[{ on := 9, ground := Ground.data }, { on := 7, ground := Ground.chain }], guard := none }) (v := ?_) rfl (by kernel_rfl) (by kernel_rfl) (by kernel_rfl) (fun _ _ _ h => h) (Or.inl ⟨by rfl, ?_⟩) (by assumption) ?_
                      rotate_left
                      · intro w hSw
                        (try dsimp only at hSw)
                        go_simp
                        try with_reducible rfl
                      try simp only [Act.put, List.setIfInBounds_toArray, List.set_cons_zero, List.set_cons_succ]
                      refine wpAnyH_take (i := 11) (oi := { dst := some 55, op := Op.load 59 (Operand.tmp 5), type := 59, pos := "l07_bands.go:306", after := #[{ on := 10, ground := Ground.guard }], guard := some (10, false) }) (v := ?_) rfl (by kernel_rfl) (by kernel_rfl) (by kernel_rfl) (fun _ _ _ h => h) (Or.inl ⟨by rfl, ?_⟩) (by assumption) ?_
                      rotate_left
                      · intro w hSw
                        (try dsimp only at hSw)
                        go_simp
                        try with_reducible rfl
                      try simp only [Act.put, List.setIfInBounds_toArray, List.set_cons_zero, List.set_cons_succ]
                      refine wpAnyH_take (i := 12) (oi := { dst := some 56, op := Op.move (Operand.tmp 3), type := 2, pos := "l07_bands.go:306", after := #[{ on := 10, ground := Ground.guard }], guard := some (10, false) }) (v := ?_) rfl (by kernel_rfl) (by kernel_rfl) (by kernel_rfl) (fun _ _ _ h => h) (Or.inl ⟨by rfl, ?_⟩) (by assumption) ?_
                      rotate_left
                      · intro w hSw
                        (try dsimp only at hSw)
                        go_simp
                        try with_reducible rfl
                      try simp only [Act.put, List.setIfInBounds_toArray, List.set_cons_zero, List.set_cons_succ]
                      refine wpAnyH_ready (rs := [13]) (by kernel_rfl) (by simp) ?_
                      refine AllReadyH.cons (o := { dst := some 57, op := Op.call { callee := Callee.value (Operand.func 56), args := #[Operand.tmp 56], argTypes := #[2] }, type := 59, pos := "l07_bands.go:306", after := #[{ on := 12, ground := Ground.data }, { on := 10, ground := Ground.chain }, { on := 10, ground := Ground.guard }], guard := some (10, false) }) rfl (fun K hK => ?_) AllReadyH.nil
                      go_simp
                      (refine (l07Whole_any m m1 m8 _).mono ?_; rintro e w5 ⟨rfl, gg⟩; replace RI := Lib.hid (RI.out.below gg); replace F := Lib.hid (F.out.below gg))
                      go_wp2_with fail
                      refine hK.out _ _ ?_ (fun hHeld => ?_)
                      · with_reducible exact RI.out.flat
                      clear hK K
                      try simp only [Act.put, List.setIfInBounds_toArray, List.set_cons_zero, List.set_cons_succ]
                      refine wpAnyH_take (i := 14) (oi := { dst := some 58, op := Op.binOp BinOp.eql 59 (Operand.tmp 55) (Operand.tmp 57) 59, type := 4, pos := "l07_bands.go:306", after := #[{ on := 11, ground := Ground.data }, { on := 13, ground := Ground.data }, { on := 10, ground := Ground.guard }], guard := some (10, false) }) (v := ?_) rfl (by kernel_rfl) (by kernel_rfl) (by kernel_rfl) (fun _ _ _ h => h) (Or.inl ⟨by rfl, ?_⟩) (by assumption) ?_
                      rotate_left
                      · intro w hSw
                        (try dsimp only at hSw)
                        go_simp
                        try with_reducible rfl
                      try simp only [Act.put, List.setIfInBounds_toArray, List.set_cons_zero, List.set_cons_succ]
                      refine wpAnyH_take (i := 15) (oi := { dst := some 59, op := Op.pick (Operand.tmp 54) (Operand.const (Value.bool true)) (Operand.tmp 58), type := 4, pos := "l07_bands.go:306", after := #[{ on := 10, ground := Ground.data }, { on := 14, ground := Ground.data }], guard := none }) (v := ?_) rfl (by kernel_rfl) (by kernel_rfl) (by kernel_rfl) (fun _ _ _ h => h) (Or.inl ⟨by rfl, ?_⟩) (by assumption) ?_
                      rotate_left
                      · intro w hSw
                        (try dsimp only at hSw)
                        go_simp
                        try with_reducible rfl
                      try simp only [Act.put, List.setIfInBounds_toArray, List.set_cons_zero, List.set_cons_succ]
                      refine wpAnyH_done (by kernel_rfl) ?_ _
                      go_wp2
                      go_ret
                      exact ⟨ret_bool HE.out.symm, F.out.bel⟩
                    · have heq2 : ∀ W, Sem.run Try.prog (Op.equalIn 10000 59 (arr8 .u8 row) (arr8 .u8 (wholeR m))) W = .ok false W := fun W => by rw [equalD row (wholeR m) HR8.out (mapR_len _ _ m8) W, decide_eq_false h3]
                      have H3 := Lib.hid h3
                      clear h3
                      refine wp_region_held_drew (S := (fun w' => w'.cell? ⟨g5, 0, none⟩ = some (.int .u8 (at8 row 0)) ∧ w'.cell? ⟨g5, 1, none⟩ = some (.int .u8 (at8 row 1)) ∧ w'.cell? ⟨g5, 2, none⟩ = some (.int .u8 (at8 row 2)) ∧ w'.cell? ⟨g5, 3, none⟩ = some (.int .u8 (at8 row 3)) ∧ w'.cell? ⟨g5, 4, none⟩ = some (.int .u8 (at8 row 4)) ∧ w'.cell? ⟨g5, 5, none⟩ = some (.int .u8 (at8 row 5)) ∧ w'.cell? ⟨g5, 6, none⟩ = some (.int .u8 (at8 row 6)) ∧ w'.cell? ⟨g5, 7, none⟩ = some (.int .u8 (at8 row 7)))) (by kernel_rfl) ?_ (fun hHeld => ?_)
                      · with_reducible exact RI.out.flat
                      refine wpAnyH_take (i := 0) (oi := { dst := some 44, op := Op.load 59 (Operand.tmp 5), type := 59, pos := "l07_bands.go:306", after := #[], guard := none }) (v := ?_) rfl (by kernel_rfl) (by kernel_rfl) (by kernel_rfl) (fun _ _ _ h => h) (Or.inl ⟨by rfl, ?_⟩) (by assumption) ?_
                      rotate_left
                      · intro w hSw
                        (try dsimp only at hSw)
                        go_simp
                        try with_reducible rfl
                      try simp only [Act.put, List.setIfInBounds_toArray, List.set_cons_zero, List.set_cons_succ]
                      refine wpAnyH_take (i := 1) (oi := { dst := some 45, op := Op.move (Operand.tmp 3), type := 2, pos := "l07_bands.go:306", after := #[], guard := none }) (v := ?_) rfl (by kernel_rfl) (by kernel_rfl) (by kernel_rfl) (fun _ _ _ h => h) (Or.inl ⟨by rfl, ?_⟩) (by assumption) ?_
                      rotate_left
                      · intro w hSw
                        (try dsimp only at hSw)
                        go_simp
                        try with_reducible rfl
                      try simp only [Act.put, List.setIfInBounds_toArray, List.set_cons_zero, List.set_cons_succ]
                      refine wpAnyH_ready (rs := [2]) (by kernel_rfl) (by simp) ?_
                      refine AllReadyH.cons (o := { dst := some 46, op := Op.call { callee := Callee.value (Operand.func 73), args := #[Operand.tmp 44, Operand.tmp 45], argTypes := #[59, 2] }, type := 4, pos := "l07_bands.go:306", after := #[{ on := 0, ground := Ground.data }, { on := 1, ground := Ground.data }], guard := none }) rfl (fun K hK => ?_) AllReadyH.nil
                      go_simp
                      (refine (l07Is_any m row HR8.out HB8.out _).mono ?_; rw [hpt]; rintro e w3 ⟨rfl, gg⟩; replace RI := Lib.hid (RI.out.below gg); replace F := Lib.hid (F.out.below gg))
                      go_wp2_with fail
                      refine hK.out _ _ ?_ (fun hHeld => ?_)
                      · with_reducible exact RI.out.flat
                      clear hK K
                      try simp only [Act.put, List.setIfInBounds_toArray, List.set_cons_zero, List.set_cons_succ]
                      refine wpAnyH_take (i := 3) (oi := { dst := some 47, op := Op.unOp UnOp.not 4 (Operand.tmp 46), type := 4, pos := "l07_bands.go:306", after := #[{ on := 2, ground := Ground.data }], guard := none }) (v := ?_) rfl (by kernel_rfl) (by kernel_rfl) (by kernel_rfl) (fun _ _ _ h => h) (Or.inl ⟨by rfl, ?_⟩) (by assumption) ?_
                      rotate_left
                      · intro w hSw
                        (try dsimp only at hSw)
                        go_simp
                        try with_reducible rfl
                      try simp only [Act.put, List.setIfInBounds_toArray, List.set_cons_zero, List.set_cons_succ]
                      refine wpAnyH_take (i := 4) (oi := { dst := some 48, op := Op.move (Operand.tmp 47), type := 4, pos := "l07_bands.go:306", after := #[{ on := 3, ground := Ground.data }, { on := 2, ground := Ground.chain }], guard := none }) (v := ?_) rfl (by kernel_rfl) (by kernel_rfl) (by kernel_rfl) (fun _ _ _ h => h) (Or.inl ⟨by rfl, ?_⟩) (by assumption) ?_
                      rotate_left
                      · intro w hSw
                        (try dsimp only at hSw)
                        go_simp
                        try with_reducible rfl
                      try simp only [Act.put, List.setIfInBounds_toArray, List.set_cons_zero, List.set_cons_succ]
                      refine wpAnyH_take (i := 5) (oi := { dst := some 49, op := Op.load 59 (Operand.tmp 5), type := 59, pos := "l07_bands.go:306", after := #[{ on := 4, ground := Ground.guard }], guard := some (4, false) }) (v := ?_) rfl (by kernel_rfl) (by kernel_rfl) (by kernel_rfl) (fun _ _ _ h => h) (Or.inl ⟨by rfl, ?_⟩) (by assumption) ?_
                      rotate_left
                      · intro w hSw
                        (try dsimp only at hSw)
                        go_simp
                        try with_reducible rfl
                      try simp only [Act.put, List.setIfInBounds_toArray, List.set_cons_zero, List.set_cons_succ]
                      refine wpAnyH_take (i := 6) (oi := { dst := some 50, op := Op.move (Operand.tmp 3), type := 2, pos := "l07_bands.go:306", after := #[{ on := 4, ground := Ground.guard }], guard := some (4, false) }) (v := ?_) rfl (by kernel_rfl) (by kernel_rfl) (by kernel_rfl) (fun _ _ _ h => h) (Or.inl ⟨by rfl, ?_⟩) (by assumption) ?_
                      rotate_left
                      · intro w hSw
                        (try dsimp only at hSw)
                        go_simp
                        try with_reducible rfl
                      try simp only [Act.put, List.setIfInBounds_toArray, List.set_cons_zero, List.set_cons_succ]
                      refine wpAnyH_ready (rs := [7]) (by kernel_rfl) (by simp) ?_
                      refine AllReadyH.cons (o := { dst := some 51, op := Op.call { callee := Callee.value (Operand.func 74), args := #[Operand.tmp 50], argTypes := #[2] }, type := 59, pos := "l07_bands.go:306", after := #[{ on := 6, ground := Ground.data }, { on := 4, ground := Ground.chain }, { on := 4, ground := Ground.guard }], guard := some (4, false) }) rfl (fun K hK => ?_) AllReadyH.nil
                      go_simp
                      (refine (l07Fine_any m m1 m8 _).mono ?_; rintro e w4 ⟨rfl, gg⟩; replace RI := Lib.hid (RI.out.below gg); replace F := Lib.hid (F.out.below gg))
                      go_wp2_with fail
                      refine hK.out _ _ ?_ (fun hHeld => ?_)
                      · with_reducible exact RI.out.flat
                      clear hK K
                      try simp only [Act.put, List.setIfInBounds_toArray, List.set_cons_zero, List.set_cons_succ]
                      refine wpAnyH_take (i := 8) (oi := { dst := some 52, op := Op.binOp BinOp.eql 59 (Operand.tmp 49) (Operand.tmp 51) 59, type := 4, pos := "l07_bands.go:306", after := #[{ on := 5, ground := Ground.data }, { on := 7, ground := Ground.data }, { on := 4, ground := Ground.guard }], guard := some (4, false) }) (v := ?_) rfl (by kernel_rfl) (by kernel_rfl) (by kernel_rfl) (fun _ _ _ h => h) (Or.inl ⟨by rfl, ?_⟩) (by assumption) ?_
                      rotate_left
                      · intro w hSw
                        (try dsimp only at hSw)
                        go_simp
                        try with_reducible rfl
                      try simp only [Act.put, List.setIfInBounds_toArray, List.set_cons_zero, List.set_cons_succ]
                      refine wpAnyH_take (i := 9) (oi := { dst := some 53, op := Op.pick (Operand.tmp 48) (Operand.const (Value.bool true)) (Operand.tmp 52), type := 4, pos := "l07_bands.go:306", after := #[{ on := 4, ground := Ground.data }, { on := 8, ground := Ground.data }], guard := none }) (v := ?_) rfl (by kernel_rfl) (by kernel_rfl) (by kernel_rfl) (fun _ _ _ h => h) (Or.inl ⟨by rfl, ?_⟩) (by assumption) ?_
                      rotate_left
                      · intro w hSw
                        (try dsimp only at hSw)
                        go_simp
                        try with_reducible rfl
                      try simp only [Act.put, List.setIfInBounds_toArray, List.set_cons_zero, List.set_cons_succ]
                      refine wpAnyH_take (i := 10) (oi := { dst := some 54, op := Op.move (Operand.tmp 53), type := 4, pos := "l07_bands.go:306", after := #[{ on := 9, ground := Ground.data }, { on := 7, ground := Ground.chain }], guard := none }) (v := ?_) rfl (by kernel_rfl) (by kernel_rfl) (by kernel_rfl) (fun _ _ _ h => h) (Or.inl ⟨by rfl, ?_⟩) (by assumption) ?_
                      rotate_left
                      · intro w hSw
                        (try dsimp only at hSw)
                        go_simp
                        try with_reducible rfl
                      try simp only [Act.put, List.setIfInBounds_toArray, List.set_cons_zero, List.set_cons_succ]
                      refine wpAnyH_take (i := 11) (oi := { dst := some 55, op := Op.load 59 (Operand.tmp 5), type := 59, pos := "l07_bands.go:306", after := #[{ on := 10, ground := Ground.guard }], guard := some (10, false) }) (v := ?_) rfl (by kernel_rfl) (by kernel_rfl) (by kernel_rfl) (fun _ _ _ h => h) (Or.inl ⟨by rfl, ?_⟩) (by assumption) ?_
                      rotate_left
                      · intro w hSw
                        (try dsimp only at hSw)
                        go_simp
                        try with_reducible rfl
                      try simp only [Act.put, List.setIfInBounds_toArray, List.set_cons_zero, List.set_cons_succ]
                      refine wpAnyH_take (i := 12) (oi := { dst := some 56, op := Op.move (Operand.tmp 3), type := 2, pos := "l07_bands.go:306", after := #[{ on := 10, ground := Ground.guard }], guard := some (10, false) }) (v := ?_) rfl (by kernel_rfl) (by kernel_rfl) (by kernel_rfl) (fun _ _ _ h => h) (Or.inl ⟨by rfl, ?_⟩) (by assumption) ?_
                      rotate_left
                      · intro w hSw
                        (try dsimp only at hSw)
                        go_simp
                        try with_reducible rfl
                      try simp only [Act.put, List.setIfInBounds_toArray, List.set_cons_zero, List.set_cons_succ]
                      refine wpAnyH_ready (rs := [13]) (by kernel_rfl) (by simp) ?_
                      refine AllReadyH.cons (o := { dst := some 57, op := Op.call { callee := Callee.value (Operand.func 56), args := #[Operand.tmp 56], argTypes := #[2] }, type := 59, pos := "l07_bands.go:306", after := #[{ on := 12, ground := Ground.data }, { on := 10, ground := Ground.chain }, { on := 10, ground := Ground.guard }], guard := some (10, false) }) rfl (fun K hK => ?_) AllReadyH.nil
                      go_simp
                      (refine (l07Whole_any m m1 m8 _).mono ?_; rintro e w5 ⟨rfl, gg⟩; replace RI := Lib.hid (RI.out.below gg); replace F := Lib.hid (F.out.below gg))
                      go_wp2_with fail
                      refine hK.out _ _ ?_ (fun hHeld => ?_)
                      · with_reducible exact RI.out.flat
                      clear hK K
                      try simp only [Act.put, List.setIfInBounds_toArray, List.set_cons_zero, List.set_cons_succ]
                      refine wpAnyH_take (i := 14) (oi := { dst := some 58, op := Op.binOp BinOp.eql 59 (Operand.tmp 55) (Operand.tmp 57) 59, type := 4, pos := "l07_bands.go:306", after := #[{ on := 11, ground := Ground.data }, { on := 13, ground := Ground.data }, { on := 10, ground := Ground.guard }], guard := some (10, false) }) (v := ?_) rfl (by kernel_rfl) (by kernel_rfl) (by kernel_rfl) (fun _ _ _ h => h) (Or.inl ⟨by rfl, ?_⟩) (by assumption) ?_
                      rotate_left
                      · intro w hSw
                        (try dsimp only at hSw)
                        go_simp
                        try with_reducible rfl
                      try simp only [Act.put, List.setIfInBounds_toArray, List.set_cons_zero, List.set_cons_succ]
                      refine wpAnyH_take (i := 15) (oi := { dst := some 59, op := Op.pick (Operand.tmp 54) (Operand.const (Value.bool true)) (Operand.tmp 58), type := 4, pos := "l07_bands.go:306", after := #[{ on := 10, ground := Ground.data }, { on := 14, ground := Ground.data }], guard := none }) (v := ?_) rfl (by kernel_rfl) (by kernel_rfl) (by kernel_rfl) (fun _ _ _ h => h) (Or.inl ⟨by rfl, ?_⟩) (by assumption) ?_
                      rotate_left
                      · intro w hSw
                        (try dsimp only at hSw)
                        go_simp
                        try with_reducible rfl
                      try simp only [Act.put, List.setIfInBounds_toArray, List.set_cons_zero, List.set_cons_succ]
                      refine wpAnyH_done (by kernel_rfl) ?_ _
                      go_upto_region 10 with fail
                      clear heq1 heq2
                      replace RI := Lib.hid RI.out.drew
                      replace F := Lib.hid F.out.drew
                      obtain rfl | ⟨k, rfl⟩ : k = 0 ∨ ∃ k', k = k' + 1 := by cases k <;> simp
                      · have HK : Hid (okD m rs 0 = true) := Lib.hid (okD_yes (by rw [← HROW.out]; exact HPT.out) (by rw [← HROW.out]; exact H2.out) (by rw [← HROW.out]; exact H3.out) (.inl rfl))
                        refine wp_region_held_drew (S := (fun w' => w'.cell? ⟨g5, 0, none⟩ = some (.int .u8 (at8 row 0)) ∧ w'.cell? ⟨g5, 1, none⟩ = some (.int .u8 (at8 row 1)) ∧ w'.cell? ⟨g5, 2, none⟩ = some (.int .u8 (at8 row 2)) ∧ w'.cell? ⟨g5, 3, none⟩ = some (.int .u8 (at8 row 3)) ∧ w'.cell? ⟨g5, 4, none⟩ = some (.int .u8 (at8 row 4)) ∧ w'.cell? ⟨g5, 5, none⟩ = some (.int .u8 (at8 row 5)) ∧ w'.cell? ⟨g5, 6, none⟩ = some (.int .u8 (at8 row 6)) ∧ w'.cell? ⟨g5, 7, none⟩ = some (.int .u8 (at8 row 7)))) (by kernel_rfl) ?_ (fun hHeld => ?_)
                        · with_reducible exact RI.out.flat
                        refine wpAnyH_take (i := 0) (oi := { dst := some 60, op := Op.move (Operand.tmp 4), type := 3, pos := "l07_bands.go:309", after := #[], guard := none }) (v := ?_) rfl (by kernel_rfl) (by kernel_rfl) (by kernel_rfl) (fun _ _ _ h => h) (Or.inl ⟨by rfl, ?_⟩) (by assumption) ?_
                        rotate_left
                        · intro w hSw
                          (try dsimp only at hSw)
                          go_simp
                          try with_reducible rfl
                        try simp only [Act.put, List.setIfInBounds_toArray, List.set_cons_zero, List.set_cons_succ]
                        refine wpAnyH_take (i := 1) (oi := { dst := some 61, op := Op.binOp BinOp.gtr 3 (Operand.tmp 60) (Operand.const (Value.int IntKind.i64 0)) 3, type := 4, pos := "l07_bands.go:309", after := #[{ on := 0, ground := Ground.data }], guard := none }) (v := ?_) rfl (by kernel_rfl) (by kernel_rfl) (by kernel_rfl) (fun _ _ _ h => h) (Or.inl ⟨by rfl, ?_⟩) (by assumption) ?_
                        rotate_left
                        · intro w hSw
                          (try dsimp only at hSw)
                          go_simp
                          try with_reducible rfl
                        try simp only [Act.put, List.setIfInBounds_toArray, List.set_cons_zero, List.set_cons_succ]
                        refine wpAnyH_take (i := 2) (oi := { dst := some 62, op := Op.move (Operand.tmp 61), type := 4, pos := "l07_bands.go:309", after := #[{ on := 1, ground := Ground.data }], guard := none }) (v := ?_) rfl (by kernel_rfl) (by kernel_rfl) (by kernel_rfl) (fun _ _ _ h => h) (Or.inl ⟨by rfl, ?_⟩) (by assumption) ?_
                        rotate_left
                        · intro w hSw
                          (try dsimp only at hSw)
                          go_simp
                          try with_reducible rfl
                        try simp only [Act.put, List.setIfInBounds_toArray, List.set_cons_zero, List.set_cons_succ]
                        refine wpAnyH_take (i := 3) (oi := { dst := some 63, op := Op.fieldAddr 34 (Operand.tmp 1) 2, type := 0, pos := "l07_bands.go:309", after := #[{ on := 2, ground := Ground.guard }], guard := some (2, true) }) (v := undef) rfl (by kernel_rfl) (by kernel_rfl) (by kernel_rfl) (fun _ _ _ h => h) (Or.inr ⟨by rfl, rfl⟩) (by assumption) ?_
                        try simp only [Act.put, List.setIfInBounds_toArray, List.set_cons_zero, List.set_cons_succ]
                        refine wpAnyH_take (i := 4) (oi := { dst := some 64, op := Op.load 22 (Operand.tmp 63), type := 22, pos := "l07_bands.go:309", after := #[{ on := 3, ground := Ground.data }, { on := 2, ground := Ground.guard }], guard := some (2, true) }) (v := undef) rfl (by kernel_rfl) (by kernel_rfl) (by kernel_rfl) (fun _ _ _ h => h) (Or.inr ⟨by rfl, rfl⟩) (by assumption) ?_
                        try simp only [Act.put, List.setIfInBounds_toArray, List.set_cons_zero, List.set_cons_succ]
                        refine wpAnyH_take (i := 5) (oi := { dst := some 65, op := Op.move (Operand.tmp 4), type := 3, pos := "l07_bands.go:309", after := #[{ on := 2, ground := Ground.guard }], guard := some (2, true) }) (v := undef) rfl (by kernel_rfl) (by kernel_rfl) (by kernel_rfl) (fun _ _ _ h => h) (Or.inr ⟨by rfl, rfl⟩) (by assumption) ?_
                        try simp only [Act.put, List.setIfInBounds_toArray, List.set_cons_zero, List.set_cons_succ]
                        refine wpAnyH_take (i := 6) (oi := { dst := some 66, op := Op.binOp BinOp.sub 3 (Operand.tmp 65) (Operand.const (Value.int IntKind.i64 1)) 3, type := 3, pos := "l07_bands.go:309", after := #[{ on := 5, ground := Ground.data }, { on := 2, ground := Ground.guard }], guard := some (2, true) }) (v := undef) rfl (by kernel_rfl) (by kernel_rfl) (by kernel_rfl) (fun _ _ _ h => h) (Or.inr ⟨by rfl, rfl⟩) (by assumption) ?_
                        try simp only [Act.put, List.setIfInBounds_toArray, List.set_cons_zero, List.set_cons_succ]
                        refine wpAnyH_take (i := 7) (oi := { dst := some 67, op := Op.indexAddr 22 (Operand.tmp 64) (Operand.tmp 66), type := 0, pos := "l07_bands.go:309", after := #[{ on := 4, ground := Ground.data }, { on := 6, ground := Ground.data }, { on := 2, ground := Ground.guard }], guard := some (2, true) }) (v := undef) rfl (by kernel_rfl) (by kernel_rfl) (by kernel_rfl) (fun _ _ _ h => h) (Or.inr ⟨by rfl, rfl⟩) (by assumption) ?_
                        try simp only [Act.put, List.setIfInBounds_toArray, List.set_cons_zero, List.set_cons_succ]
                        refine wpAnyH_take (i := 8) (oi := { dst := some 68, op := Op.load 59 (Operand.tmp 67), type := 59, pos := "l07_bands.go:309", after := #[{ on := 7, ground := Ground.data }, { on := 2, ground := Ground.guard }], guard := some (2, true) }) (v := undef) rfl (by kernel_rfl) (by kernel_rfl) (by kernel_rfl) (fun _ _ _ h => h) (Or.inr ⟨by rfl, rfl⟩) (by assumption) ?_
                        try simp only [Act.put, List.setIfInBounds_toArray, List.set_cons_zero, List.set_cons_succ]
                        refine wpAnyH_take (i := 9) (oi := { dst := some 69, op := Op.move (Operand.tmp 3), type := 2, pos := "l07_bands.go:309", after := #[{ on := 2, ground := Ground.guard }], guard := some (2, true) }) (v := undef) rfl (by kernel_rfl) (by kernel_rfl) (by kernel_rfl) (fun _ _ _ h => h) (Or.inr ⟨by rfl, rfl⟩) (by assumption) ?_
                        try simp only [Act.put, List.setIfInBounds_toArray, List.set_cons_zero, List.set_cons_succ]
                        refine wpAnyH_take (i := 11) (oi := { dst := some 71, op := Op.load 59 (Operand.tmp 5), type := 59, pos := "l07_bands.go:309", after := #[{ on := 2, ground := Ground.guard }], guard := some (2, true) }) (v := undef) rfl (by kernel_rfl) (by kernel_rfl) (by kernel_rfl) (fun _ _ _ h => h) (Or.inr ⟨by rfl, rfl⟩) (by assumption) ?_
                        try simp only [Act.put, List.setIfInBounds_toArray, List.set_cons_zero, List.set_cons_succ]
                        refine wpAnyH_take (i := 12) (oi := { dst := some 72, op := Op.move (Operand.tmp 3), type := 2, pos := "l07_bands.go:309", after := #[{ on := 2, ground := Ground.guard }], guard := some (2, true) }) (v := undef) rfl (by kernel_rfl) (by kernel_rfl) (by kernel_rfl) (fun _ _ _ h => h) (Or.inr ⟨by rfl, rfl⟩) (by assumption) ?_
                        try simp only [Act.put, List.setIfInBounds_toArray, List.set_cons_zero, List.set_cons_succ]
                        refine wpAnyH_take (i := 14) (oi := { dst := some 74, op := Op.move (Operand.tmp 3), type := 2, pos := "l07_bands.go:309", after := #[{ on := 2, ground := Ground.guard }], guard := some (2, true) }) (v := undef) rfl (by kernel_rfl) (by kernel_rfl) (by kernel_rfl) (fun _ _ _ h => h) (Or.inr ⟨by rfl, rfl⟩) (by assumption) ?_
                        try simp only [Act.put, List.setIfInBounds_toArray, List.set_cons_zero, List.set_cons_succ]
                        refine wpAnyH_ready (rs := [10]) (by kernel_rfl) (by simp) ?_
                        refine AllReadyH.cons (o := { dst := some 70, op := Op.call { callee := Callee.value (Operand.func 76), args := #[Operand.tmp 68, Operand.tmp 69], argTypes := #[59, 2] }, type := 59, pos := "l07_bands.go:309", after := #[{ on := 8, ground := Ground.data }, { on := 9, ground := Ground.data }, { on := 2, ground := Ground.chain }, { on := 2, ground := Ground.guard }], guard := some (2, true) }) rfl (fun K hK => ?_) AllReadyH.nil
                        go_simp
                        refine hK.out _ _ ?_ (fun hHeld => ?_)
                        · with_reducible exact RI.out.flat
                        clear hK K
                        try simp only [Act.put, List.setIfInBounds_toArray, List.set_cons_zero, List.set_cons_succ]
                        refine wpAnyH_ready (rs := [13]) (by kernel_rfl) (by simp) ?_
                        refine AllReadyH.cons (o := { dst := some 73, op := Op.call { callee := Callee.value (Operand.func 75), args := #[Operand.tmp 70, Operand.tmp 71, Operand.tmp 72], argTypes := #[59, 59, 2] }, type := 59, pos := "l07_bands.go:309", after := #[{ on := 10, ground := Ground.data }, { on := 11, ground := Ground.data }, { on := 12, ground := Ground.data }, { on := 10, ground := Ground.chain }, { on := 2, ground := Ground.guard }], guard := some (2, true) }) rfl (fun K hK => ?_) AllReadyH.nil
                        go_simp
                        refine hK.out _ _ ?_ (fun hHeld => ?_)
                        · with_reducible exact RI.out.flat
                        clear hK K
                        try simp only [Act.put, List.setIfInBounds_toArray, List.set_cons_zero, List.set_cons_succ]
                        refine wpAnyH_ready (rs := [15]) (by kernel_rfl) (by simp) ?_
                        refine AllReadyH.cons (o := { dst := some 75, op := Op.call { callee := Callee.value (Operand.func 74), args := #[Operand.tmp 74], argTypes := #[2] }, type := 59, pos := "l07_bands.go:309", after := #[{ on := 14, ground := Ground.data }, { on := 13, ground := Ground.chain }, { on := 2, ground := Ground.guard }], guard := some (2, true) }) rfl (fun K hK => ?_) AllReadyH.nil
                        go_simp
                        refine hK.out _ _ ?_ (fun hHeld => ?_)
                        · with_reducible exact RI.out.flat
                        clear hK K
                        try simp only [Act.put, List.setIfInBounds_toArray, List.set_cons_zero, List.set_cons_succ]
                        refine wpAnyH_take (i := 16) (oi := { dst := some 76, op := Op.binOp BinOp.neq 59 (Operand.tmp 73) (Operand.tmp 75) 59, type := 4, pos := "l07_bands.go:309", after := #[{ on := 13, ground := Ground.data }, { on := 15, ground := Ground.data }, { on := 2, ground := Ground.guard }], guard := some (2, true) }) (v := undef) rfl (by kernel_rfl) (by kernel_rfl) (by kernel_rfl) (fun _ _ _ h => h) (Or.inr ⟨by rfl, rfl⟩) (by assumption) ?_
                        try simp only [Act.put, List.setIfInBounds_toArray, List.set_cons_zero, List.set_cons_succ]
                        refine wpAnyH_take (i := 17) (oi := { dst := some 77, op := Op.pick (Operand.tmp 62) (Operand.tmp 76) (Operand.const (Value.bool false)), type := 4, pos := "l07_bands.go:309", after := #[{ on := 2, ground := Ground.data }, { on := 16, ground := Ground.data }], guard := none }) (v := ?_) rfl (by kernel_rfl) (by kernel_rfl) (by kernel_rfl) (fun _ _ _ h => h) (Or.inl ⟨by rfl, ?_⟩) (by assumption) ?_
                        rotate_left
                        · intro w hSw
                          (try dsimp only at hSw)
                          go_simp
                          try with_reducible rfl
                        try simp only [Act.put, List.setIfInBounds_toArray, List.set_cons_zero, List.set_cons_succ]
                        refine wpAnyH_done (by kernel_rfl) ?_ _
                        go_wp2
                        go_roundg (gk - 1)
                        case measure => omega
                        case rel => exact ⟨0 + 1, by omega, by omega, by go_num, fun j hj => by
                          by_cases e : j = 0
                          · rw [e]; exact HK.out
                          · exact HIN.out j (by omega), F.out⟩
                      · have HPP : Hid (isPt m (rowAt rs k) = true) := Lib.hid (okD_pt (HIN.out k (by omega)))
                        have SP : Hid (Sim m (rowAt rs k)) := Lib.hid (sim_of_isPt (H8.out.at (j := k) (by rw [HL.out]; omega)) HPP.out)
                        have HCP : Hid (∀ W, Below w.heap.size w W → Cells8 W b (off + k * 8) (rowAt rs k)) := Lib.hid fun W h => HC.out W h k (by omega)
                        obtain ⟨prev, hprev⟩ : ∃ prev, prev = rowAt rs k := ⟨_, rfl⟩
                        rw [← hprev] at SP HCP HPP
                        have HPR := Lib.hid hprev
                        clear hprev
                        have CP := Lib.hid (compP_sim SP.out)
                        have HCC := Lib.hid (isPt_comp HPP.out SP.out.len)
                        obtain ⟨mr, hmr⟩ : ∃ mr, mr = meetP m (compP m prev) row := ⟨_, rfl⟩
                        have HMR := Lib.hid hmr.symm
                        have HML : Hid (mr.length = 8) := Lib.hid (by rw [hmr]; exact meetL_len m m8 _ _)
                        clear hmr
                        have CP9 := Lib.hid (HCP.out _ F.out.bel)
                        have t0 : decide ((0 : Int) < (k : Int) + 1) = true := decide_eq_true (by omega)
                        have hw1 : IntKind.i64.wrap (k : Int) = k := IntWalk.i64_in _ (by omega)
                        have b1 : (k : Int) < (n : Int) := by omega
                        have b0 : (0 : Int) ≤ (k : Int) := by omega
                        by_cases h4 : mr = sameR m
                        · have HK : Hid (okD m rs (k + 1) = true) := Lib.hid (okD_yes (by rw [← HROW.out]; exact HPT.out) (by rw [← HROW.out]; exact H2.out) (by rw [← HROW.out]; exact H3.out) (.inr (by rw [← HROW.out, Nat.add_sub_cancel, ← HPR.out, HMR.out]; exact h4)))
                          have heq3 : ∀ W, Sem.run Try.prog (Op.equalIn 10000 59 (arr8 .u8 mr) (arr8 .u8 (sameR m))) W = .ok true W := fun W => by rw [equalD mr (sameR m) HML.out (mapR_len _ _ m8) W, decide_eq_true h4]
                          clear h4
                          refine wp_region_held_drew (S := (fun w' => (w'.cell? ⟨g5, 0, none⟩ = some (.int .u8 (at8 row 0)) ∧ w'.cell? ⟨g5, 1, none⟩ = some (.int .u8 (at8 row 1)) ∧ w'.cell? ⟨g5, 2, none⟩ = some (.int .u8 (at8 row 2)) ∧ w'.cell? ⟨g5, 3, none⟩ = some (.int .u8 (at8 row 3)) ∧ w'.cell? ⟨g5, 4, none⟩ = some (.int .u8 (at8 row 4)) ∧ w'.cell? ⟨g5, 5, none⟩ = some (.int .u8 (at8 row 5)) ∧ w'.cell? ⟨g5, 6, none⟩ = some (.int .u8 (at8 row 6)) ∧ w'.cell? ⟨g5, 7, none⟩ = some (.int .u8 (at8 row 7))) ∧ (w'.cell? ⟨b, off + k * 8, none⟩ = some (.int .u8 (at8 prev 0)) ∧ w'.cell? ⟨b, off + k * 8 + 1, none⟩ = some (.int .u8 (at8 prev 1)) ∧ w'.cell? ⟨b, off + k * 8 + 2, none⟩ = some (.int .u8 (at8 prev 2)) ∧ w'.cell? ⟨b, off + k * 8 + 3, none⟩ = some (.int .u8 (at8 prev 3)) ∧ w'.cell? ⟨b, off + k * 8 + 4, none⟩ = some (.int .u8 (at8 prev 4)) ∧ w'.cell? ⟨b, off + k * 8 + 5, none⟩ = some (.int .u8 (at8 prev 5)) ∧ w'.cell? ⟨b, off + k * 8 + 6, none⟩ = some (.int .u8 (at8 prev 6)) ∧ w'.cell? ⟨b, off + k * 8 + 7, none⟩ = some (.int .u8 (at8 prev 7))) ∧ w'.cell? ⟨w.heap.size, 2, none⟩ = some (.slice (some ⟨b, off, none⟩) n cap))) (by kernel_rfl) ?_ (fun hHeld => ?_)
                          · with_reducible exact ⟨RI.out.flat, CP9.out.flat, F.out.box.cell2⟩
                          refine wpAnyH_take (i := 0) (oi := { dst := some 60, op := Op.move (Operand.tmp 4), type := 3, pos := "l07_bands.go:309", after := #[], guard := none }) (v := ?_) rfl (by kernel_rfl) (by kernel_rfl) (by kernel_rfl) (fun _ _ _ h => h) (Or.inl ⟨by rfl, ?_⟩) (by assumption) ?_
                          rotate_left
                          · intro w hSw
                            (try dsimp only at hSw)
                            go_simp
                            try with_reducible rfl
                          try simp only [Act.put, List.setIfInBounds_toArray, List.set_cons_zero, List.set_cons_succ]
                          refine wpAnyH_take (i := 1) (oi := { dst := some 61, op := Op.binOp BinOp.gtr 3 (Operand.tmp 60) (Operand.const (Value.int IntKind.i64 0)) 3, type := 4, pos := "l07_bands.go:309", after := #[{ on := 0, ground := Ground.data }], guard := none }) (v := ?_) rfl (by kernel_rfl) (by kernel_rfl) (by kernel_rfl) (fun _ _ _ h => h) (Or.inl ⟨by rfl, ?_⟩) (by assumption) ?_
                          rotate_left
                          · intro w hSw
                            (try dsimp only at hSw)
                            go_simp
                            try with_reducible rfl
                          try simp only [Act.put, List.setIfInBounds_toArray, List.set_cons_zero, List.set_cons_succ]
                          refine wpAnyH_take (i := 2) (oi := { dst := some 62, op := Op.move (Operand.tmp 61), type := 4, pos := "l07_bands.go:309", after := #[{ on := 1, ground := Ground.data }], guard := none }) (v := ?_) rfl (by kernel_rfl) (by kernel_rfl) (by kernel_rfl) (fun _ _ _ h => h) (Or.inl ⟨by rfl, ?_⟩) (by assumption) ?_
                          rotate_left
                          · intro w hSw
                            (try dsimp only at hSw)
                            go_simp
                            try with_reducible rfl
                          try simp only [Act.put, List.setIfInBounds_toArray, List.set_cons_zero, List.set_cons_succ]
                          refine wpAnyH_take (i := 3) (oi := { dst := some 63, op := Op.fieldAddr 34 (Operand.tmp 1) 2, type := 0, pos := "l07_bands.go:309", after := #[{ on := 2, ground := Ground.guard }], guard := some (2, true) }) (v := ?_) rfl (by kernel_rfl) (by kernel_rfl) (by kernel_rfl) (fun _ _ _ h => h) (Or.inl ⟨by rfl, ?_⟩) (by assumption) ?_
                          rotate_left
                          · intro w hSw
                            (try dsimp only at hSw)
                            go_simp
                            try with_reducible rfl
                          try simp only [Act.put, List.setIfInBounds_toArray, List.set_cons_zero, List.set_cons_succ]
                          refine wpAnyH_take (i := 4) (oi := { dst := some 64, op := Op.load 22 (Operand.tmp 63), type := 22, pos := "l07_bands.go:309", after := #[{ on := 3, ground := Ground.data }, { on := 2, ground := Ground.guard }], guard := some (2, true) }) (v := ?_) rfl (by kernel_rfl) (by kernel_rfl) (by kernel_rfl) (fun _ _ _ h => h) (Or.inl ⟨by rfl, ?_⟩) (by assumption) ?_
                          rotate_left
                          · intro w hSw
                            (try dsimp only at hSw)
                            go_simp
                            try with_reducible rfl
                          try simp only [Act.put, List.setIfInBounds_toArray, List.set_cons_zero, List.set_cons_succ]
                          refine wpAnyH_take (i := 5) (oi := { dst := some 65, op := Op.move (Operand.tmp 4), type := 3, pos := "l07_bands.go:309", after := #[{ on := 2, ground := Ground.guard }], guard := some (2, true) }) (v := ?_) rfl (by kernel_rfl) (by kernel_rfl) (by kernel_rfl) (fun _ _ _ h => h) (Or.inl ⟨by rfl, ?_⟩) (by assumption) ?_
                          rotate_left
                          · intro w hSw
                            (try dsimp only at hSw)
                            go_simp
                            try with_reducible rfl
                          try simp only [Act.put, List.setIfInBounds_toArray, List.set_cons_zero, List.set_cons_succ]
                          refine wpAnyH_take (i := 6) (oi := { dst := some 66, op := Op.binOp BinOp.sub 3 (Operand.tmp 65) (Operand.const (Value.int IntKind.i64 1)) 3, type := 3, pos := "l07_bands.go:309", after := #[{ on := 5, ground := Ground.data }, { on := 2, ground := Ground.guard }], guard := some (2, true) }) (v := ?_) rfl (by kernel_rfl) (by kernel_rfl) (by kernel_rfl) (fun _ _ _ h => h) (Or.inl ⟨by rfl, ?_⟩) (by assumption) ?_
                          rotate_left
                          · intro w hSw
                            (try dsimp only at hSw)
                            go_simp
                            try with_reducible rfl
                          try simp only [Act.put, List.setIfInBounds_toArray, List.set_cons_zero, List.set_cons_succ]
                          refine wpAnyH_take (i := 7) (oi := { dst := some 67, op := Op.indexAddr 22 (Operand.tmp 64) (Operand.tmp 66), type := 0, pos := "l07_bands.go:309", after := #[{ on := 4, ground := Ground.data }, { on := 6, ground := Ground.data }, { on := 2, ground := Ground.guard }], guard := some (2, true) }) (v := ?_) rfl (by kernel_rfl) (by kernel_rfl) (by kernel_rfl) (fun _ _ _ h => h) (Or.inl ⟨by rfl, ?_⟩) (by assumption) ?_
                          rotate_left
                          · intro w hSw
                            (try dsimp only at hSw)
                            go_simp
                            try with_reducible rfl
                          try simp only [Act.put, List.setIfInBounds_toArray, List.set_cons_zero, List.set_cons_succ]
                          refine wpAnyH_take (i := 8) (oi := { dst := some 68, op := Op.load 59 (Operand.tmp 67), type := 59, pos := "l07_bands.go:309", after := #[{ on := 7, ground := Ground.data }, { on := 2, ground := Ground.guard }], guard := some (2, true) }) (v := ?_) rfl (by kernel_rfl) (by kernel_rfl) (by kernel_rfl) (fun _ _ _ h => h) (Or.inl ⟨by rfl, ?_⟩) (by assumption) ?_
                          rotate_left
                          · intro w hSw
                            (try dsimp only at hSw)
                            go_simp
                            try with_reducible rfl
                          try simp only [Act.put, List.setIfInBounds_toArray, List.set_cons_zero, List.set_cons_succ]
                          refine wpAnyH_take (i := 9) (oi := { dst := some 69, op := Op.move (Operand.tmp 3), type := 2, pos := "l07_bands.go:309", after := #[{ on := 2, ground := Ground.guard }], guard := some (2, true) }) (v := ?_) rfl (by kernel_rfl) (by kernel_rfl) (by kernel_rfl) (fun _ _ _ h => h) (Or.inl ⟨by rfl, ?_⟩) (by assumption) ?_
                          rotate_left
                          · intro w hSw
                            (try dsimp only at hSw)
                            go_simp
                            try with_reducible rfl
                          try simp only [Act.put, List.setIfInBounds_toArray, List.set_cons_zero, List.set_cons_succ]
                          refine wpAnyH_take (i := 11) (oi := { dst := some 71, op := Op.load 59 (Operand.tmp 5), type := 59, pos := "l07_bands.go:309", after := #[{ on := 2, ground := Ground.guard }], guard := some (2, true) }) (v := ?_) rfl (by kernel_rfl) (by kernel_rfl) (by kernel_rfl) (fun _ _ _ h => h) (Or.inl ⟨by rfl, ?_⟩) (by assumption) ?_
                          rotate_left
                          · intro w hSw
                            (try dsimp only at hSw)
                            go_simp
                            try with_reducible rfl
                          try simp only [Act.put, List.setIfInBounds_toArray, List.set_cons_zero, List.set_cons_succ]
                          refine wpAnyH_take (i := 12) (oi := { dst := some 72, op := Op.move (Operand.tmp 3), type := 2, pos := "l07_bands.go:309", after := #[{ on := 2, ground := Ground.guard }], guard := some (2, true) }) (v := ?_) rfl (by kernel_rfl) (by kernel_rfl) (by kernel_rfl) (fun _ _ _ h => h) (Or.inl ⟨by rfl, ?_⟩) (by assumption) ?_
                          rotate_left
                          · intro w hSw
                            (try dsimp only at hSw)
                            go_simp
                            try with_reducible rfl
                          try simp only [Act.put, List.setIfInBounds_toArray, List.set_cons_zero, List.set_cons_succ]
                          refine wpAnyH_take (i := 14) (oi := { dst := some 74, op := Op.move (Operand.tmp 3), type := 2, pos := "l07_bands.go:309", after := #[{ on := 2, ground := Ground.guard }], guard := some (2, true) }) (v := ?_) rfl (by kernel_rfl) (by kernel_rfl) (by kernel_rfl) (fun _ _ _ h => h) (Or.inl ⟨by rfl, ?_⟩) (by assumption) ?_
                          rotate_left
                          · intro w hSw
                            (try dsimp only at hSw)
                            go_simp
                            try with_reducible rfl
                          try simp only [Act.put, List.setIfInBounds_toArray, List.set_cons_zero, List.set_cons_succ]
                          refine wpAnyH_ready (rs := [10]) (by kernel_rfl) (by simp) ?_
                          refine AllReadyH.cons (o := { dst := some 70, op := Op.call { callee := Callee.value (Operand.func 76), args := #[Operand.tmp 68, Operand.tmp 69], argTypes := #[59, 2] }, type := 59, pos := "l07_bands.go:309", after := #[{ on := 8, ground := Ground.data }, { on := 9, ground := Ground.data }, { on := 2, ground := Ground.chain }, { on := 2, ground := Ground.guard }], guard := some (2, true) }) rfl (fun K hK => ?_) AllReadyH.nil
                          go_simp
                          (refine (l07Complement_any m prev SP.out _).mono ?_; rintro e w6 ⟨rfl, gg⟩; replace RI := Lib.hid (RI.out.below gg); replace F := Lib.hid (F.out.below gg); replace CP9 := Lib.hid (HCP.out _ F.out.bel))
                          go_wp2_with fail
                          refine hK.out _ _ ?_ (fun hHeld => ?_)
                          · with_reducible exact ⟨RI.out.flat, CP9.out.flat, F.out.box.cell2⟩
                          clear hK K
                          try simp only [Act.put, List.setIfInBounds_toArray, List.set_cons_zero, List.set_cons_succ]
                          refine wpAnyH_ready (rs := [13]) (by kernel_rfl) (by simp) ?_
                          refine AllReadyH.cons (o := { dst := some 73, op := Op.call { callee := Callee.value (Operand.func 75), args := #[Operand.tmp 70, Operand.tmp 71, Operand.tmp 72], argTypes := #[59, 59, 2] }, type := 59, pos := "l07_bands.go:309", after := #[{ on := 10, ground := Ground.data }, { on := 11, ground := Ground.data }, { on := 12, ground := Ground.data }, { on := 10, ground := Ground.chain }, { on := 2, ground := Ground.guard }], guard := some (2, true) }) rfl (fun K hK => ?_) AllReadyH.nil
                          go_simp
                          (refine (l07Meet_any m (compP m prev) row CP.out SR.out _).mono ?_; rw [HMR.out]; rintro e w7 ⟨rfl, gg⟩; replace RI := Lib.hid (RI.out.below gg); replace F := Lib.hid (F.out.below gg); replace CP9 := Lib.hid (HCP.out _ F.out.bel))
                          go_wp2_with fail
                          refine hK.out _ _ ?_ (fun hHeld => ?_)
                          · with_reducible exact ⟨RI.out.flat, CP9.out.flat, F.out.box.cell2⟩
                          clear hK K
                          try simp only [Act.put, List.setIfInBounds_toArray, List.set_cons_zero, List.set_cons_succ]
                          refine wpAnyH_ready (rs := [15]) (by kernel_rfl) (by simp) ?_
                          refine AllReadyH.cons (o := { dst := some 75, op := Op.call { callee := Callee.value (Operand.func 74), args := #[Operand.tmp 74], argTypes := #[2] }, type := 59, pos := "l07_bands.go:309", after := #[{ on := 14, ground := Ground.data }, { on := 13, ground := Ground.chain }, { on := 2, ground := Ground.guard }], guard := some (2, true) }) rfl (fun K hK => ?_) AllReadyH.nil
                          go_simp
                          (refine (l07Fine_any m m1 m8 _).mono ?_; rintro e w8 ⟨rfl, gg⟩; replace RI := Lib.hid (RI.out.below gg); replace F := Lib.hid (F.out.below gg); replace CP9 := Lib.hid (HCP.out _ F.out.bel))
                          go_wp2_with fail
                          refine hK.out _ _ ?_ (fun hHeld => ?_)
                          · with_reducible exact ⟨RI.out.flat, CP9.out.flat, F.out.box.cell2⟩
                          clear hK K
                          try simp only [Act.put, List.setIfInBounds_toArray, List.set_cons_zero, List.set_cons_succ]
                          refine wpAnyH_take (i := 16) (oi := { dst := some 76, op := Op.binOp BinOp.neq 59 (Operand.tmp 73) (Operand.tmp 75) 59, type := 4, pos := "l07_bands.go:309", after := #[{ on := 13, ground := Ground.data }, { on := 15, ground := Ground.data }, { on := 2, ground := Ground.guard }], guard := some (2, true) }) (v := ?_) rfl (by kernel_rfl) (by kernel_rfl) (by kernel_rfl) (fun _ _ _ h => h) (Or.inl ⟨by rfl, ?_⟩) (by assumption) ?_
                          rotate_left
                          · intro w hSw
                            (try dsimp only at hSw)
                            go_simp
                            try with_reducible rfl
                          try simp only [Act.put, List.setIfInBounds_toArray, List.set_cons_zero, List.set_cons_succ]
                          refine wpAnyH_take (i := 17) (oi := { dst := some 77, op := Op.pick (Operand.tmp 62) (Operand.tmp 76) (Operand.const (Value.bool false)), type := 4, pos := "l07_bands.go:309", after := #[{ on := 2, ground := Ground.data }, { on := 16, ground := Ground.data }], guard := none }) (v := ?_) rfl (by kernel_rfl) (by kernel_rfl) (by kernel_rfl) (fun _ _ _ h => h) (Or.inl ⟨by rfl, ?_⟩) (by assumption) ?_
                          rotate_left
                          · intro w hSw
                            (try dsimp only at hSw)
                            go_simp
                            try with_reducible rfl
                          try simp only [Act.put, List.setIfInBounds_toArray, List.set_cons_zero, List.set_cons_succ]
                          refine wpAnyH_done (by kernel_rfl) ?_ _
                          go_wp2
                          go_roundg (gk - 1)
                          case measure => omega
                          case rel => exact ⟨k + 1 + 1, by omega, by omega, by go_num, fun j hj => by
                            by_cases e : j = k + 1
                            · rw [e]; exact HK.out
                            · exact HIN.out j (by omega), F.out⟩
                        · have HE : Hid (dualB m p rs = false) := Lib.hid (dualB_bad rfl (k + 1) (by rw [HL.out]; exact hlt) (okD_no4 (by omega) (by rw [← HROW.out, Nat.add_sub_cancel, ← HPR.out, HMR.out]; exact h4)))
                          have heq3 : ∀ W, Sem.run Try.prog (Op.equalIn 10000 59 (arr8 .u8 mr) (arr8 .u8 (sameR m))) W = .ok false W := fun W => by rw [equalD mr (sameR m) HML.out (mapR_len _ _ m8) W, decide_eq_false h4]
                          clear h4
                          refine wp_region_held_drew (S := (fun w' => (w'.cell? ⟨g5, 0, none⟩ = some (.int .u8 (at8 row 0)) ∧ w'.cell? ⟨g5, 1, none⟩ = some (.int .u8 (at8 row 1)) ∧ w'.cell? ⟨g5, 2, none⟩ = some (.int .u8 (at8 row 2)) ∧ w'.cell? ⟨g5, 3, none⟩ = some (.int .u8 (at8 row 3)) ∧ w'.cell? ⟨g5, 4, none⟩ = some (.int .u8 (at8 row 4)) ∧ w'.cell? ⟨g5, 5, none⟩ = some (.int .u8 (at8 row 5)) ∧ w'.cell? ⟨g5, 6, none⟩ = some (.int .u8 (at8 row 6)) ∧ w'.cell? ⟨g5, 7, none⟩ = some (.int .u8 (at8 row 7))) ∧ (w'.cell? ⟨b, off + k * 8, none⟩ = some (.int .u8 (at8 prev 0)) ∧ w'.cell? ⟨b, off + k * 8 + 1, none⟩ = some (.int .u8 (at8 prev 1)) ∧ w'.cell? ⟨b, off + k * 8 + 2, none⟩ = some (.int .u8 (at8 prev 2)) ∧ w'.cell? ⟨b, off + k * 8 + 3, none⟩ = some (.int .u8 (at8 prev 3)) ∧ w'.cell? ⟨b, off + k * 8 + 4, none⟩ = some (.int .u8 (at8 prev 4)) ∧ w'.cell? ⟨b, off + k * 8 + 5, none⟩ = some (.int .u8 (at8 prev 5)) ∧ w'.cell? ⟨b, off + k * 8 + 6, none⟩ = some (.int .u8 (at8 prev 6)) ∧ w'.cell? ⟨b, off + k * 8 + 7, none⟩ = some (.int .u8 (at8 prev 7))) ∧ w'.cell? ⟨w.heap.size, 2, none⟩ = some (.slice (some ⟨b, off, none⟩) n cap))) (by kernel_rfl) ?_ (fun hHeld => ?_)
                          · with_reducible exact ⟨RI.out.flat, CP9.out.flat, F.out.box.cell2⟩
                          refine wpAnyH_take (i := 0) (oi := { dst := some 60, op := Op.move (Operand.tmp 4), type := 3, pos := "l07_bands.go:309", after := #[], guard := none }) (v := ?_) rfl (by kernel_rfl) (by kernel_rfl) (by kernel_rfl) (fun _ _ _ h => h) (Or.inl ⟨by rfl, ?_⟩) (by assumption) ?_
                          rotate_left
                          · intro w hSw
                            (try dsimp only at hSw)
                            go_simp
                            try with_reducible rfl
                          try simp only [Act.put, List.setIfInBounds_toArray, List.set_cons_zero, List.set_cons_succ]
                          refine wpAnyH_take (i := 1) (oi := { dst := some 61, op := Op.binOp BinOp.gtr 3 (Operand.tmp 60) (Operand.const (Value.int IntKind.i64 0)) 3, type := 4, pos := "l07_bands.go:309", after := #[{ on := 0, ground := Ground.data }], guard := none }) (v := ?_) rfl (by kernel_rfl) (by kernel_rfl) (by kernel_rfl) (fun _ _ _ h => h) (Or.inl ⟨by rfl, ?_⟩) (by assumption) ?_
                          rotate_left
                          · intro w hSw
                            (try dsimp only at hSw)
                            go_simp
                            try with_reducible rfl
                          try simp only [Act.put, List.setIfInBounds_toArray, List.set_cons_zero, List.set_cons_succ]
                          refine wpAnyH_take (i := 2) (oi := { dst := some 62, op := Op.move (Operand.tmp 61), type := 4, pos := "l07_bands.go:309", after := #[{ on := 1, ground := Ground.data }], guard := none }) (v := ?_) rfl (by kernel_rfl) (by kernel_rfl) (by kernel_rfl) (fun _ _ _ h => h) (Or.inl ⟨by rfl, ?_⟩) (by assumption) ?_
                          rotate_left
                          · intro w hSw
                            (try dsimp only at hSw)
                            go_simp
                            try with_reducible rfl
                          try simp only [Act.put, List.setIfInBounds_toArray, List.set_cons_zero, List.set_cons_succ]
                          refine wpAnyH_take (i := 3) (oi := { dst := some 63, op := Op.fieldAddr 34 (Operand.tmp 1) 2, type := 0, pos := "l07_bands.go:309", after := #[{ on := 2, ground := Ground.guard }], guard := some (2, true) }) (v := ?_) rfl (by kernel_rfl) (by kernel_rfl) (by kernel_rfl) (fun _ _ _ h => h) (Or.inl ⟨by rfl, ?_⟩) (by assumption) ?_
                          rotate_left
                          · intro w hSw
                            (try dsimp only at hSw)
                            go_simp
                            try with_reducible rfl
                          try simp only [Act.put, List.setIfInBounds_toArray, List.set_cons_zero, List.set_cons_succ]
                          refine wpAnyH_take (i := 4) (oi := { dst := some 64, op := Op.load 22 (Operand.tmp 63), type := 22, pos := "l07_bands.go:309", after := #[{ on := 3, ground := Ground.data }, { on := 2, ground := Ground.guard }], guard := some (2, true) }) (v := ?_) rfl (by kernel_rfl) (by kernel_rfl) (by kernel_rfl) (fun _ _ _ h => h) (Or.inl ⟨by rfl, ?_⟩) (by assumption) ?_
                          rotate_left
                          · intro w hSw
                            (try dsimp only at hSw)
                            go_simp
                            try with_reducible rfl
                          try simp only [Act.put, List.setIfInBounds_toArray, List.set_cons_zero, List.set_cons_succ]
                          refine wpAnyH_take (i := 5) (oi := { dst := some 65, op := Op.move (Operand.tmp 4), type := 3, pos := "l07_bands.go:309", after := #[{ on := 2, ground := Ground.guard }], guard := some (2, true) }) (v := ?_) rfl (by kernel_rfl) (by kernel_rfl) (by kernel_rfl) (fun _ _ _ h => h) (Or.inl ⟨by rfl, ?_⟩) (by assumption) ?_
                          rotate_left
                          · intro w hSw
                            (try dsimp only at hSw)
                            go_simp
                            try with_reducible rfl
                          try simp only [Act.put, List.setIfInBounds_toArray, List.set_cons_zero, List.set_cons_succ]
                          refine wpAnyH_take (i := 6) (oi := { dst := some 66, op := Op.binOp BinOp.sub 3 (Operand.tmp 65) (Operand.const (Value.int IntKind.i64 1)) 3, type := 3, pos := "l07_bands.go:309", after := #[{ on := 5, ground := Ground.data }, { on := 2, ground := Ground.guard }], guard := some (2, true) }) (v := ?_) rfl (by kernel_rfl) (by kernel_rfl) (by kernel_rfl) (fun _ _ _ h => h) (Or.inl ⟨by rfl, ?_⟩) (by assumption) ?_
                          rotate_left
                          · intro w hSw
                            (try dsimp only at hSw)
                            go_simp
                            try with_reducible rfl
                          try simp only [Act.put, List.setIfInBounds_toArray, List.set_cons_zero, List.set_cons_succ]
                          refine wpAnyH_take (i := 7) (oi := { dst := some 67, op := Op.indexAddr 22 (Operand.tmp 64) (Operand.tmp 66), type := 0, pos := "l07_bands.go:309", after := #[{ on := 4, ground := Ground.data }, { on := 6, ground := Ground.data }, { on := 2, ground := Ground.guard }], guard := some (2, true) }) (v := ?_) rfl (by kernel_rfl) (by kernel_rfl) (by kernel_rfl) (fun _ _ _ h => h) (Or.inl ⟨by rfl, ?_⟩) (by assumption) ?_
                          rotate_left
                          · intro w hSw
                            (try dsimp only at hSw)
                            go_simp
                            try with_reducible rfl
                          try simp only [Act.put, List.setIfInBounds_toArray, List.set_cons_zero, List.set_cons_succ]
                          refine wpAnyH_take (i := 8) (oi := { dst := some 68, op := Op.load 59 (Operand.tmp 67), type := 59, pos := "l07_bands.go:309", after := #[{ on := 7, ground := Ground.data }, { on := 2, ground := Ground.guard }], guard := some (2, true) }) (v := ?_) rfl (by kernel_rfl) (by kernel_rfl) (by kernel_rfl) (fun _ _ _ h => h) (Or.inl ⟨by rfl, ?_⟩) (by assumption) ?_
                          rotate_left
                          · intro w hSw
                            (try dsimp only at hSw)
                            go_simp
                            try with_reducible rfl
                          try simp only [Act.put, List.setIfInBounds_toArray, List.set_cons_zero, List.set_cons_succ]
                          refine wpAnyH_take (i := 9) (oi := { dst := some 69, op := Op.move (Operand.tmp 3), type := 2, pos := "l07_bands.go:309", after := #[{ on := 2, ground := Ground.guard }], guard := some (2, true) }) (v := ?_) rfl (by kernel_rfl) (by kernel_rfl) (by kernel_rfl) (fun _ _ _ h => h) (Or.inl ⟨by rfl, ?_⟩) (by assumption) ?_
                          rotate_left
                          · intro w hSw
                            (try dsimp only at hSw)
                            go_simp
                            try with_reducible rfl
                          try simp only [Act.put, List.setIfInBounds_toArray, List.set_cons_zero, List.set_cons_succ]
                          refine wpAnyH_take (i := 11) (oi := { dst := some 71, op := Op.load 59 (Operand.tmp 5), type := 59, pos := "l07_bands.go:309", after := #[{ on := 2, ground := Ground.guard }], guard := some (2, true) }) (v := ?_) rfl (by kernel_rfl) (by kernel_rfl) (by kernel_rfl) (fun _ _ _ h => h) (Or.inl ⟨by rfl, ?_⟩) (by assumption) ?_
                          rotate_left
                          · intro w hSw
                            (try dsimp only at hSw)
                            go_simp
                            try with_reducible rfl
                          try simp only [Act.put, List.setIfInBounds_toArray, List.set_cons_zero, List.set_cons_succ]
                          refine wpAnyH_take (i := 12) (oi := { dst := some 72, op := Op.move (Operand.tmp 3), type := 2, pos := "l07_bands.go:309", after := #[{ on := 2, ground := Ground.guard }], guard := some (2, true) }) (v := ?_) rfl (by kernel_rfl) (by kernel_rfl) (by kernel_rfl) (fun _ _ _ h => h) (Or.inl ⟨by rfl, ?_⟩) (by assumption) ?_
                          rotate_left
                          · intro w hSw
                            (try dsimp only at hSw)
                            go_simp
                            try with_reducible rfl
                          try simp only [Act.put, List.setIfInBounds_toArray, List.set_cons_zero, List.set_cons_succ]
                          refine wpAnyH_take (i := 14) (oi := { dst := some 74, op := Op.move (Operand.tmp 3), type := 2, pos := "l07_bands.go:309", after := #[{ on := 2, ground := Ground.guard }], guard := some (2, true) }) (v := ?_) rfl (by kernel_rfl) (by kernel_rfl) (by kernel_rfl) (fun _ _ _ h => h) (Or.inl ⟨by rfl, ?_⟩) (by assumption) ?_
                          rotate_left
                          · intro w hSw
                            (try dsimp only at hSw)
                            go_simp
                            try with_reducible rfl
                          try simp only [Act.put, List.setIfInBounds_toArray, List.set_cons_zero, List.set_cons_succ]
                          refine wpAnyH_ready (rs := [10]) (by kernel_rfl) (by simp) ?_
                          refine AllReadyH.cons (o := { dst := some 70, op := Op.call { callee := Callee.value (Operand.func 76), args := #[Operand.tmp 68, Operand.tmp 69], argTypes := #[59, 2] }, type := 59, pos := "l07_bands.go:309", after := #[{ on := 8, ground := Ground.data }, { on := 9, ground := Ground.data }, { on := 2, ground := Ground.chain }, { on := 2, ground := Ground.guard }], guard := some (2, true) }) rfl (fun K hK => ?_) AllReadyH.nil
                          go_simp
                          (refine (l07Complement_any m prev SP.out _).mono ?_; rintro e w6 ⟨rfl, gg⟩; replace RI := Lib.hid (RI.out.below gg); replace F := Lib.hid (F.out.below gg); replace CP9 := Lib.hid (HCP.out _ F.out.bel))
                          go_wp2_with fail
                          refine hK.out _ _ ?_ (fun hHeld => ?_)
                          · with_reducible exact ⟨RI.out.flat, CP9.out.flat, F.out.box.cell2⟩
                          clear hK K
                          try simp only [Act.put, List.setIfInBounds_toArray, List.set_cons_zero, List.set_cons_succ]
                          refine wpAnyH_ready (rs := [13]) (by kernel_rfl) (by simp) ?_
                          refine AllReadyH.cons (o := { dst := some 73, op := Op.call { callee := Callee.value (Operand.func 75), args := #[Operand.tmp 70, Operand.tmp 71, Operand.tmp 72], argTypes := #[59, 59, 2] }, type := 59, pos := "l07_bands.go:309", after := #[{ on := 10, ground := Ground.data }, { on := 11, ground := Ground.data }, { on := 12, ground := Ground.data }, { on := 10, ground := Ground.chain }, { on := 2, ground := Ground.guard }], guard := some (2, true) }) rfl (fun K hK => ?_) AllReadyH.nil
                          go_simp
                          (refine (l07Meet_any m (compP m prev) row CP.out SR.out _).mono ?_; rw [HMR.out]; rintro e w7 ⟨rfl, gg⟩; replace RI := Lib.hid (RI.out.below gg); replace F := Lib.hid (F.out.below gg); replace CP9 := Lib.hid (HCP.out _ F.out.bel))
                          go_wp2_with fail
                          refine hK.out _ _ ?_ (fun hHeld => ?_)
                          · with_reducible exact ⟨RI.out.flat, CP9.out.flat, F.out.box.cell2⟩
                          clear hK K
                          try simp only [Act.put, List.setIfInBounds_toArray, List.set_cons_zero, List.set_cons_succ]
                          refine wpAnyH_ready (rs := [15]) (by kernel_rfl) (by simp) ?_
                          refine AllReadyH.cons (o := { dst := some 75, op := Op.call { callee := Callee.value (Operand.func 74), args := #[Operand.tmp 74], argTypes := #[2] }, type := 59, pos := "l07_bands.go:309", after := #[{ on := 14, ground := Ground.data }, { on := 13, ground := Ground.chain }, { on := 2, ground := Ground.guard }], guard := some (2, true) }) rfl (fun K hK => ?_) AllReadyH.nil
                          go_simp
                          (refine (l07Fine_any m m1 m8 _).mono ?_; rintro e w8 ⟨rfl, gg⟩; replace RI := Lib.hid (RI.out.below gg); replace F := Lib.hid (F.out.below gg); replace CP9 := Lib.hid (HCP.out _ F.out.bel))
                          go_wp2_with fail
                          refine hK.out _ _ ?_ (fun hHeld => ?_)
                          · with_reducible exact ⟨RI.out.flat, CP9.out.flat, F.out.box.cell2⟩
                          clear hK K
                          try simp only [Act.put, List.setIfInBounds_toArray, List.set_cons_zero, List.set_cons_succ]
                          refine wpAnyH_take (i := 16) (oi := { dst := some 76, op := Op.binOp BinOp.neq 59 (Operand.tmp 73) (Operand.tmp 75) 59, type := 4, pos := "l07_bands.go:309", after := #[{ on := 13, ground := Ground.data }, { on := 15, ground := Ground.data }, { on := 2, ground := Ground.guard }], guard := some (2, true) }) (v := ?_) rfl (by kernel_rfl) (by kernel_rfl) (by kernel_rfl) (fun _ _ _ h => h) (Or.inl ⟨by rfl, ?_⟩) (by assumption) ?_
                          rotate_left
                          · intro w hSw
                            (try dsimp only at hSw)
                            go_simp
                            try with_reducible rfl
                          try simp only [Act.put, List.setIfInBounds_toArray, List.set_cons_zero, List.set_cons_succ]
                          refine wpAnyH_take (i := 17) (oi := { dst := some 77, op := Op.pick (Operand.tmp 62) (Operand.tmp 76) (Operand.const (Value.bool false)), type := 4, pos := "l07_bands.go:309", after := #[{ on := 2, ground := Ground.data }, { on := 16, ground := Ground.data }], guard := none }) (v := ?_) rfl (by kernel_rfl) (by kernel_rfl) (by kernel_rfl) (fun _ _ _ h => h) (Or.inl ⟨by rfl, ?_⟩) (by assumption) ?_
                          rotate_left
                          · intro w hSw
                            (try dsimp only at hSw)
                            go_simp
                            try with_reducible rfl
                          try simp only [Act.put, List.setIfInBounds_toArray, List.set_cons_zero, List.set_cons_succ]
                          refine wpAnyH_done (by kernel_rfl) ?_ _
                          go_wp2
                          go_ret
                          exact ⟨ret_bool HE.out.symm, F.out.bel⟩
                · have hpt : isPt m row = false := by simpa using hpt'
                  clear hpt'
                  have HE : Hid (dualB m p rs = false) := Lib.hid (dualB_bad rfl k (by rw [HL.out]; exact hlt) (okD_no1 (by rw [← HROW.out]; exact hpt)))
                  refine wp_region_held_drew (S := (fun w' => w'.cell? ⟨g5, 0, none⟩ = some (.int .u8 (at8 row 0)) ∧ w'.cell? ⟨g5, 1, none⟩ = some (.int .u8 (at8 row 1)) ∧ w'.cell? ⟨g5, 2, none⟩ = some (.int .u8 (at8 row 2)) ∧ w'.cell? ⟨g5, 3, none⟩ = some (.int .u8 (at8 row 3)) ∧ w'.cell? ⟨g5, 4, none⟩ = some (.int .u8 (at8 row 4)) ∧ w'.cell? ⟨g5, 5, none⟩ = some (.int .u8 (at8 row 5)) ∧ w'.cell? ⟨g5, 6, none⟩ = some (.int .u8 (at8 row 6)) ∧ w'.cell? ⟨g5, 7, none⟩ = some (.int .u8 (at8 row 7)))) (by kernel_rfl) ?_ (fun hHeld => ?_)
                  · with_reducible exact RI.out.flat
                  refine wpAnyH_take (i := 0) (oi := { dst := some 44, op := Op.load 59 (Operand.tmp 5), type := 59, pos := "l07_bands.go:306", after := #[], guard := none }) (v := ?_) rfl (by kernel_rfl) (by kernel_rfl) (by kernel_rfl) (fun _ _ _ h => h) (Or.inl ⟨by rfl, ?_⟩) (by assumption) ?_
                  rotate_left
                  · intro w hSw
                    (try dsimp only at hSw)
                    go_simp
                    try with_reducible rfl
                  try simp only [Act.put, List.setIfInBounds_toArray, List.set_cons_zero, List.set_cons_succ]
                  refine wpAnyH_take (i := 1) (oi := { dst := some 45, op := Op.move (Operand.tmp 3), type := 2, pos := "l07_bands.go:306", after := #[], guard := none }) (v := ?_) rfl (by kernel_rfl) (by kernel_rfl) (by kernel_rfl) (fun _ _ _ h => h) (Or.inl ⟨by rfl, ?_⟩) (by assumption) ?_
                  rotate_left
                  · intro w hSw
                    (try dsimp only at hSw)
                    go_simp
                    try with_reducible rfl
                  try simp only [Act.put, List.setIfInBounds_toArray, List.set_cons_zero, List.set_cons_succ]
                  refine wpAnyH_ready (rs := [2]) (by kernel_rfl) (by simp) ?_
                  refine AllReadyH.cons (o := { dst := some 46, op := Op.call { callee := Callee.value (Operand.func 73), args := #[Operand.tmp 44, Operand.tmp 45], argTypes := #[59, 2] }, type := 4, pos := "l07_bands.go:306", after := #[{ on := 0, ground := Ground.data }, { on := 1, ground := Ground.data }], guard := none }) rfl (fun K hK => ?_) AllReadyH.nil
                  go_simp
                  (refine (l07Is_any m row HR8.out HB8.out _).mono ?_; rw [hpt]; rintro e w3 ⟨rfl, gg⟩; replace RI := Lib.hid (RI.out.below gg); replace F := Lib.hid (F.out.below gg))
                  go_wp2_with fail
                  refine hK.out _ _ ?_ (fun hHeld => ?_)
                  · with_reducible exact RI.out.flat
                  clear hK K
                  try simp only [Act.put, List.setIfInBounds_toArray, List.set_cons_zero, List.set_cons_succ]
                  refine wpAnyH_take (i := 3) (oi := { dst := some 47, op := Op.unOp UnOp.not 4 (Operand.tmp 46), type := 4, pos := "l07_bands.go:306", after := #[{ on := 2, ground := Ground.data }], guard := none }) (v := ?_) rfl (by kernel_rfl) (by kernel_rfl) (by kernel_rfl) (fun _ _ _ h => h) (Or.inl ⟨by rfl, ?_⟩) (by assumption) ?_
                  rotate_left
                  · intro w hSw
                    (try dsimp only at hSw)
                    go_simp
                    try with_reducible rfl
                  try simp only [Act.put, List.setIfInBounds_toArray, List.set_cons_zero, List.set_cons_succ]
                  refine wpAnyH_take (i := 4) (oi := { dst := some 48, op := Op.move (Operand.tmp 47), type := 4, pos := "l07_bands.go:306", after := #[{ on := 3, ground := Ground.data }, { on := 2, ground := Ground.chain }], guard := none }) (v := ?_) rfl (by kernel_rfl) (by kernel_rfl) (by kernel_rfl) (fun _ _ _ h => h) (Or.inl ⟨by rfl, ?_⟩) (by assumption) ?_
                  rotate_left
                  · intro w hSw
                    (try dsimp only at hSw)
                    go_simp
                    try with_reducible rfl
                  try simp only [Act.put, List.setIfInBounds_toArray, List.set_cons_zero, List.set_cons_succ]
                  refine wpAnyH_take (i := 5) (oi := { dst := some 49, op := Op.load 59 (Operand.tmp 5), type := 59, pos := "l07_bands.go:306", after := #[{ on := 4, ground := Ground.guard }], guard := some (4, false) }) (v := undef) rfl (by kernel_rfl) (by kernel_rfl) (by kernel_rfl) (fun _ _ _ h => h) (Or.inr ⟨by rfl, rfl⟩) (by assumption) ?_
                  try simp only [Act.put, List.setIfInBounds_toArray, List.set_cons_zero, List.set_cons_succ]
                  refine wpAnyH_take (i := 6) (oi := { dst := some 50, op := Op.move (Operand.tmp 3), type := 2, pos := "l07_bands.go:306", after := #[{ on := 4, ground := Ground.guard }], guard := some (4, false) }) (v := undef) rfl (by kernel_rfl) (by kernel_rfl) (by kernel_rfl) (fun _ _ _ h => h) (Or.inr ⟨by rfl, rfl⟩) (by assumption) ?_
                  try simp only [Act.put, List.setIfInBounds_toArray, List.set_cons_zero, List.set_cons_succ]
                  refine wpAnyH_ready (rs := [7]) (by kernel_rfl) (by simp) ?_
                  refine AllReadyH.cons (o := { dst := some 51, op := Op.call { callee := Callee.value (Operand.func 74), args := #[Operand.tmp 50], argTypes := #[2] }, type := 59, pos := "l07_bands.go:306", after := #[{ on := 6, ground := Ground.data }, { on := 4, ground := Ground.chain }, { on := 4, ground := Ground.guard }], guard := some (4, false) }) rfl (fun K hK => ?_) AllReadyH.nil
                  go_simp
                  refine hK.out _ _ ?_ (fun hHeld => ?_)
                  · with_reducible exact RI.out.flat
                  clear hK K
                  try simp only [Act.put, List.setIfInBounds_toArray, List.set_cons_zero, List.set_cons_succ]
                  refine wpAnyH_take (i := 8) (oi := { dst := some 52, op := Op.binOp BinOp.eql 59 (Operand.tmp 49) (Operand.tmp 51) 59, type := 4, pos := "l07_bands.go:306", after := #[{ on := 5, ground := Ground.data }, { on := 7, ground := Ground.data }, { on := 4, ground := Ground.guard }], guard := some (4, false) }) (v := undef) rfl (by kernel_rfl) (by kernel_rfl) (by kernel_rfl) (fun _ _ _ h => h) (Or.inr ⟨by rfl, rfl⟩) (by assumption) ?_
                  try simp only [Act.put, List.setIfInBounds_toArray, List.set_cons_zero, List.set_cons_succ]
                  refine wpAnyH_take (i := 9) (oi := { dst := some 53, op := Op.pick (Operand.tmp 48) (Operand.const (Value.bool true)) (Operand.tmp 52), type := 4, pos := "l07_bands.go:306", after := #[{ on := 4, ground := Ground.data }, { on := 8, ground := Ground.data }], guard := none }) (v := ?_) rfl (by kernel_rfl) (by kernel_rfl) (by kernel_rfl) (fun _ _ _ h => h) (Or.inl ⟨by rfl, ?_⟩) (by assumption) ?_
                  rotate_left
                  · intro w hSw
                    (try dsimp only at hSw)
                    go_simp
                    try with_reducible rfl
                  try simp only [Act.put, List.setIfInBounds_toArray, List.set_cons_zero, List.set_cons_succ]
                  refine wpAnyH_take (i := 10) (oi := { dst := some 54, op := Op.move (Operand.tmp 53), type := 4, pos := "l07_bands.go:306", after := #[{ on := 9, ground := Ground.data }, { on := 7, ground := Ground.chain }], guard := none }) (v := ?_) rfl (by kernel_rfl) (by kernel_rfl) (by kernel_rfl) (fun _ _ _ h => h) (Or.inl ⟨by rfl, ?_⟩) (by assumption) ?_
                  rotate_left
                  · intro w hSw
                    (try dsimp only at hSw)
                    go_simp
                    try with_reducible rfl
                  try simp only [Act.put, List.setIfInBounds_toArray, List.set_cons_zero, List.set_cons_succ]
                  refine wpAnyH_take (i := 11) (oi := { dst := some 55, op := Op.load 59 (Operand.tmp 5), type := 59, pos := "l07_bands.go:306", after := #[{ on := 10, ground := Ground.guard }], guard := some (10, false) }) (v := undef) rfl (by kernel_rfl) (by kernel_rfl) (by kernel_rfl) (fun _ _ _ h => h) (Or.inr ⟨by rfl, rfl⟩) (by assumption) ?_
                  try simp only [Act.put, List.setIfInBounds_toArray, List.set_cons_zero, List.set_cons_succ]
                  refine wpAnyH_take (i := 12) (oi := { dst := some 56, op := Op.move (Operand.tmp 3), type := 2, pos := "l07_bands.go:306", after := #[{ on := 10, ground := Ground.guard }], guard := some (10, false) }) (v := undef) rfl (by kernel_rfl) (by kernel_rfl) (by kernel_rfl) (fun _ _ _ h => h) (Or.inr ⟨by rfl, rfl⟩) (by assumption) ?_
                  try simp only [Act.put, List.setIfInBounds_toArray, List.set_cons_zero, List.set_cons_succ]
                  refine wpAnyH_ready (rs := [13]) (by kernel_rfl) (by simp) ?_
                  refine AllReadyH.cons (o := { dst := some 57, op := Op.call { callee := Callee.value (Operand.func 56), args := #[Operand.tmp 56], argTypes := #[2] }, type := 59, pos := "l07_bands.go:306", after := #[{ on := 12, ground := Ground.data }, { on := 10, ground := Ground.chain }, { on := 10, ground := Ground.guard }], guard := some (10, false) }) rfl (fun K hK => ?_) AllReadyH.nil
                  go_simp
                  refine hK.out _ _ ?_ (fun hHeld => ?_)
                  · with_reducible exact RI.out.flat
                  clear hK K
                  try simp only [Act.put, List.setIfInBounds_toArray, List.set_cons_zero, List.set_cons_succ]
                  refine wpAnyH_take (i := 14) (oi := { dst := some 58, op := Op.binOp BinOp.eql 59 (Operand.tmp 55) (Operand.tmp 57) 59, type := 4, pos := "l07_bands.go:306", after := #[{ on := 11, ground := Ground.data }, { on := 13, ground := Ground.data }, { on := 10, ground := Ground.guard }], guard := some (10, false) }) (v := undef) rfl (by kernel_rfl) (by kernel_rfl) (by kernel_rfl) (fun _ _ _ h => h) (Or.inr ⟨by rfl, rfl⟩) (by assumption) ?_
                  try simp only [Act.put, List.setIfInBounds_toArray, List.set_cons_zero, List.set_cons_succ]
                  refine wpAnyH_take (i := 15) (oi := { dst := some 59, op := Op.pick (Operand.tmp 54) (Operand.const (Value.bool true)) (Operand.tmp 58), type := 4, pos := "l07_bands.go:306", after := #[{ on := 10, ground := Ground.data }, { on := 14, ground := Ground.data }], guard := none }) (v := ?_) rfl (by kernel_rfl) (by kernel_rfl) (by kernel_rfl) (fun _ _ _ h => h) (Or.inl ⟨by rfl, ?_⟩) (by assumption) ?_
                  rotate_left
                  · intro w hSw
                    (try dsimp only at hSw)
                    go_simp
                    try with_reducible rfl
                  try simp only [Act.put, List.setIfInBounds_toArray, List.set_cons_zero, List.set_cons_succ]
                  refine wpAnyH_done (by kernel_rfl) ?_ _
                  go_wp2
                  go_ret
                  exact ⟨ret_bool HE.out.symm, F.out.bel⟩
              · have hkn : k = n := by omega
                have HE : Hid (dualB m p rs = true) := Lib.hid (dualB_all rfl HOK.out fun j hj => HIN.out j (by rw [HL.out] at hj; omega))
                go_wp2
                go_ret
                exact ⟨ret_bool HE.out.symm, F.out.bel⟩
      · have HE : Hid (dualB s p rs = false) := Lib.hid (dualB_head fun h => by have := h.2.2.1; rw [HL.out] at this; unfold limD at this; simp at this; omega)
        have t3 : decide ((400 : Int) < (n : Int)) = true := decide_eq_true (by omega)
        go_enter Try.func41, Try.ntmps41
        go_wp2_with (go_at_call 31; refine (l01In_any _ _ _ _).mono ?_; (first | rw [g1] | rw [g2]); rintro e w' ⟨rfl, rfl⟩)
        go_ret
        exact ⟨ret_bool HE.out.symm, below1 w _⟩

end Go.Proofs.Ytlgipimjhfmilaa
