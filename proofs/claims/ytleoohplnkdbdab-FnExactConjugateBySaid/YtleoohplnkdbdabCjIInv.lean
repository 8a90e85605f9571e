/- The program: the inverse of a normal form. -/
import Derived.Test.YtleoohplnkdbdabCjITrd
import Derived.Test.YtleoohplnkdbdabCjKit15
import Derived.Test.YtleoohplnkdbdabCjSMk0
import Derived.Test.YtleoohplnkdbdabCjComp
namespace Go.Proofs.Ytleoohplnkdbdab
open Go.RowKit Go.ChangeShapes

theorem complement_com (n : Nat) (s : List Int) (hs : Sim n s) (w : World) :
  Calls Try.prog 85 #[arr8 .u8 s, .int .i64 n] w (RetArr .u8 w (comR n s)) := complement_any n s hs w

set_option maxRecDepth 100000 in
set_option maxHeartbeats 4000000 in
theorem inverse_any (m : Nat) (p : Int) (hp : -100000 ≤ p ∧ p ≤ 100000) (a : Option Addr) (n cap : Nat) (l : List (List Int)) (w : World) (hr : ReadsA w a n l) (hl : Sims m l) (hn : n ≤ 100000) :
  Calls Try.prog 56 #[.agg #[.int .i64 m, .int .i64 p, .slice a n cap]] w (RetNormal w m (-(n : Int) - p) (turns m p (invL m l))) := by
 rw [show -(n : Int) - p = -p - (n : Int) by omega]
 obtain ⟨i0, hi, hz0, hz1, hz2⟩ := info_parts infoSimple
 have HS := Lib.hid hl; clear hl
 have HN := Lib.hid hr.len
 have Rd := Lib.hid hr
 clear hr
 go_enter Try.func56, Try.ntmps56
 have A0 := Lib.hid ((At3.place w (.int .i64 m) (.int .i64 p) (.slice a n cap) 28 w.heap.size rfl).alloc (.cells #[.int .i64 0, .int .i64 0, .slice none 0 0] 28))
 have Z0 := Lib.hid (At3.place (w.alloc (.cells #[.int .i64 m, .int .i64 p, .slice a n cap] 28)) (.int .i64 0) (.int .i64 0) (.slice none 0 0) 28 (w.heap.size + 1) (by simp))
 have B0 := Lib.hid ((below1 w (.cells #[.int .i64 m, .int .i64 p, .slice a n cap] 28)).alloc (by simp) (.cells #[.int .i64 0, .int .i64 0, .slice none 0 0] 28))
 go_wp2_with (at_make; refine wpList_make_full ((w.alloc (.cells #[.int .i64 m, .int .i64 p, .slice a n cap] 28)).alloc (.cells #[.int .i64 0, .int .i64 0, .slice none 0 0] 28)) rfl _ _ 26 rfl (w.heap.size + 1 + 1) 54 i0 _ 8 Try.underlying26 hi hz0 hz1 .i64 .i64 _ _ n rfl rfl (by omega) (by omega) (by rw [hz2]; omega) (by unfold maxLen; omega) (by simp) ?_)
 intro w1 hown hgrow
 have hown1 := own_madeA hown
 have hb := Below.ofGrown hgrow
 have hlt9 : w.heap.size + 1 + 1 < w1.heap.size := by rcases Nat.eq_zero_or_pos n with h | h; exact (World.ownsRow.lt hown _ rfl).2; exact (World.ownsRow.lt hown _ rfl).2
 have F := Lib.hid (AtMade.mk (A0.out.below hb) (Z0.out.below hb) hown1 (below_go B0.out hb (by simp; omega)) (Nat.le_refl _) hlt9)
 clear hown hgrow hown1 hb A0 Z0 B0 hlt9
 obtain ⟨q1, q2, q3⟩ := F.out.box.all
 go_wp2
 clear q1 q2 q3
 go_loopg [16] n (fun g i wx => ∃ k rows, k ≤ n ∧ g + k = n ∧ i = .int .i64 (k : Nat) ∧ AtMade w wx m p a n cap (w.heap.size + 1 + 1) n rows n ∧ ∀ t, t < k → rowAt rows (n - 1 - t) = turnK m (p + t + 1) (comR m (rowAt l t)))
 case atStart => exact ⟨0, _, Nat.zero_le _, by omega, rfl, F.out, fun t ht => by omega⟩
 case round =>
  obtain ⟨k, rows, hk, hgk, rfl, hF, hrows⟩ := hrel
  clear F
  have F := Lib.hid hF
  have HRW := Lib.hid hrows
  clear hF hrows
  by_cases hlt : k < n
  ·obtain ⟨b, off, rfl, hbl, hcl⟩ := Rd.out.cells (Nat.lt_of_le_of_lt (Nat.zero_le _) hlt)
   obtain ⟨row, hrow⟩ : ∃ row, row = rowAt l k := ⟨_, rfl⟩
   have HROW := Lib.hid hrow
   have hC : Cells8 wr b (off + k * 8) row := by rw [hrow]; exact fun i hi => (F.out.bel.cell (by exact hbl)).trans (hcl k hlt i hi)
   have SR : Hid (Sim m row) := Lib.hid (by rw [hrow]; exact HS.out _ (rowAt_getElem (by rw [HN.out]; omega)))
   clear hbl hcl hrow
   obtain ⟨c0, c1, c2, c3, c4, c5, c6, c7⟩ := hC.flat
   clear hC
   obtain ⟨q1, q2, q3⟩ := F.out.box.all
   have RI := Lib.hid (Row8.place wr .u8 row 54 wr.heap.size rfl SR.out.len)
   have HSZ := Lib.hid (And.intro F.out.lo F.out.hi)
   obtain ⟨j, hj⟩ : ∃ j, k + 1 + j = n := ⟨n - (k + 1), by omega⟩
   have hw1 : IntKind.i64.wrap ((n : Int) - 1) = (n : Int) - 1 := IntWalk.i64_in _ (by omega)
   have hw2 : IntKind.i64.wrap ((n : Int) - 1 - (k : Int)) = (j : Int) := by rw [show (n : Int) - 1 - (k : Int) = (j : Int) by omega]; exact IntWalk.i64_in _ (by omega)
   have hw3 : IntKind.i64.wrap (p + (k : Int)) = p + (k : Int) := IntWalk.i64_in _ (by omega)
   have hw4 : IntKind.i64.wrap (p + (k : Int) + 1) = p + (k : Int) + 1 := IntWalk.i64_in _ (by omega)
   have hi1 : (j : Int) < (n : Int) := by omega
   have hi2 : (0 : Int) ≤ (j : Int) := by omega
   have hwj : ((j : Int)).toNat = j := by omega
   have rl := F.out.own.len
   have zx : w.heap.size < wr.heap.size := F.out.box.1
   replace F := Lib.hid (F.out.below ((Below.refl _ _).alloc (Nat.le_refl _) (.cells #[.int .u8 (at8 row 0), .int .u8 (at8 row 1), .int .u8 (at8 row 2), .int .u8 (at8 row 3), .int .u8 (at8 row 4), .int .u8 (at8 row 5), .int .u8 (at8 row 6), .int .u8 (at8 row 7)] 54)))
   go_upto_region 7 with fail
   have zz2 : Hid ((wr.alloc (.cells #[.int .u8 (at8 row 0), .int .u8 (at8 row 1), .int .u8 (at8 row 2), .int .u8 (at8 row 3), .int .u8 (at8 row 4), .int .u8 (at8 row 5), .int .u8 (at8 row 6), .int .u8 (at8 row 7)] 54)).heap.size = wr.heap.size + 1) := Lib.hid (by simp)
   replace RI := Lib.hid RI.out
   clear c0 c1 c2 c3 c4 c5 c6 c7 q1 q2 q3
   obtain ⟨W0, hW0⟩ : ∃ W0, W0 = wr.alloc (.cells #[.int .u8 (at8 row 0), .int .u8 (at8 row 1), .int .u8 (at8 row 2), .int .u8 (at8 row 3), .int .u8 (at8 row 4), .int .u8 (at8 row 5), .int .u8 (at8 row 6), .int .u8 (at8 row 7)] 54) := ⟨_, rfl⟩
   rw [← hW0] at F RI zz2 ⊢
   clear hW0
   have hsz := HSZ.out
   have KB : Hid (Below W0.heap.size W0 W0.drew) := Lib.hid (Below.refl W0.heap.size W0).drew
   have SH : Hid (∀ W, Below W0.heap.size W0 W → (W.cell? ⟨w.heap.size, 0, none⟩ = some (.int .i64 m) ∧ W.cell? ⟨w.heap.size, 1, none⟩ = some (.int .i64 p) ∧ W.cell? ⟨w.heap.size, 2, none⟩ = some (.slice (some ⟨b, off, none⟩) n cap)) ∧ (W.cell? ⟨wr.heap.size, 0, none⟩ = some (.int .u8 (at8 row 0)) ∧ W.cell? ⟨wr.heap.size, 1, none⟩ = some (.int .u8 (at8 row 1)) ∧ W.cell? ⟨wr.heap.size, 2, none⟩ = some (.int .u8 (at8 row 2)) ∧ W.cell? ⟨wr.heap.size, 3, none⟩ = some (.int .u8 (at8 row 3)) ∧ W.cell? ⟨wr.heap.size, 4, none⟩ = some (.int .u8 (at8 row 4)) ∧ W.cell? ⟨wr.heap.size, 5, none⟩ = some (.int .u8 (at8 row 5)) ∧ W.cell? ⟨wr.heap.size, 6, none⟩ = some (.int .u8 (at8 row 6)) ∧ W.cell? ⟨wr.heap.size, 7, none⟩ = some (.int .u8 (at8 row 7)))) := Lib.hid fun W h => ⟨(F.out.box.below h).all, (RI.out.below h).flat⟩
   have SZ : Hid (∀ W, Below W0.heap.size W0 W → ∀ v0 v1 v2 v3 v4 v5 v6 v7, (((((((((W.setCell ⟨w.heap.size + 1 + 1, j * 8, none⟩ v0).setCell ⟨w.heap.size + 1 + 1, j * 8 + 1, none⟩ v1).setCell ⟨w.heap.size + 1 + 1, j * 8 + 2, none⟩ v2).setCell ⟨w.heap.size + 1 + 1, j * 8 + 3, none⟩ v3).setCell ⟨w.heap.size + 1 + 1, j * 8 + 4, none⟩ v4).setCell ⟨w.heap.size + 1 + 1, j * 8 + 5, none⟩ v5).setCell ⟨w.heap.size + 1 + 1, j * 8 + 6, none⟩ v6).setCell ⟨w.heap.size + 1 + 1, j * 8 + 7, none⟩ v7).cell? ⟨w.heap.size, 0, none⟩ = some (.int .i64 m) ∧ ((((((((W.setCell ⟨w.heap.size + 1 + 1, j * 8, none⟩ v0).setCell ⟨w.heap.size + 1 + 1, j * 8 + 1, none⟩ v1).setCell ⟨w.heap.size + 1 + 1, j * 8 + 2, none⟩ v2).setCell ⟨w.heap.size + 1 + 1, j * 8 + 3, none⟩ v3).setCell ⟨w.heap.size + 1 + 1, j * 8 + 4, none⟩ v4).setCell ⟨w.heap.size + 1 + 1, j * 8 + 5, none⟩ v5).setCell ⟨w.heap.size + 1 + 1, j * 8 + 6, none⟩ v6).setCell ⟨w.heap.size + 1 + 1, j * 8 + 7, none⟩ v7).cell? ⟨w.heap.size, 1, none⟩ = some (.int .i64 p) ∧ ((((((((W.setCell ⟨w.heap.size + 1 + 1, j * 8, none⟩ v0).setCell ⟨w.heap.size + 1 + 1, j * 8 + 1, none⟩ v1).setCell ⟨w.heap.size + 1 + 1, j * 8 + 2, none⟩ v2).setCell ⟨w.heap.size + 1 + 1, j * 8 + 3, none⟩ v3).setCell ⟨w.heap.size + 1 + 1, j * 8 + 4, none⟩ v4).setCell ⟨w.heap.size + 1 + 1, j * 8 + 5, none⟩ v5).setCell ⟨w.heap.size + 1 + 1, j * 8 + 6, none⟩ v6).setCell ⟨w.heap.size + 1 + 1, j * 8 + 7, none⟩ v7).cell? ⟨w.heap.size, 2, none⟩ = some (.slice (some ⟨b, off, none⟩) n cap)) ∧ (((((((((W.setCell ⟨w.heap.size + 1 + 1, j * 8, none⟩ v0).setCell ⟨w.heap.size + 1 + 1, j * 8 + 1, none⟩ v1).setCell ⟨w.heap.size + 1 + 1, j * 8 + 2, none⟩ v2).setCell ⟨w.heap.size + 1 + 1, j * 8 + 3, none⟩ v3).setCell ⟨w.heap.size + 1 + 1, j * 8 + 4, none⟩ v4).setCell ⟨w.heap.size + 1 + 1, j * 8 + 5, none⟩ v5).setCell ⟨w.heap.size + 1 + 1, j * 8 + 6, none⟩ v6).setCell ⟨w.heap.size + 1 + 1, j * 8 + 7, none⟩ v7).cell? ⟨wr.heap.size, 0, none⟩ = some (.int .u8 (at8 row 0)) ∧ ((((((((W.setCell ⟨w.heap.size + 1 + 1, j * 8, none⟩ v0).setCell ⟨w.heap.size + 1 + 1, j * 8 + 1, none⟩ v1).setCell ⟨w.heap.size + 1 + 1, j * 8 + 2, none⟩ v2).setCell ⟨w.heap.size + 1 + 1, j * 8 + 3, none⟩ v3).setCell ⟨w.heap.size + 1 + 1, j * 8 + 4, none⟩ v4).setCell ⟨w.heap.size + 1 + 1, j * 8 + 5, none⟩ v5).setCell ⟨w.heap.size + 1 + 1, j * 8 + 6, none⟩ v6).setCell ⟨w.heap.size + 1 + 1, j * 8 + 7, none⟩ v7).cell? ⟨wr.heap.size, 1, none⟩ = some (.int .u8 (at8 row 1)) ∧ ((((((((W.setCell ⟨w.heap.size + 1 + 1, j * 8, none⟩ v0).setCell ⟨w.heap.size + 1 + 1, j * 8 + 1, none⟩ v1).setCell ⟨w.heap.size + 1 + 1, j * 8 + 2, none⟩ v2).setCell ⟨w.heap.size + 1 + 1, j * 8 + 3, none⟩ v3).setCell ⟨w.heap.size + 1 + 1, j * 8 + 4, none⟩ v4).setCell ⟨w.heap.size + 1 + 1, j * 8 + 5, none⟩ v5).setCell ⟨w.heap.size + 1 + 1, j * 8 + 6, none⟩ v6).setCell ⟨w.heap.size + 1 + 1, j * 8 + 7, none⟩ v7).cell? ⟨wr.heap.size, 2, none⟩ = some (.int .u8 (at8 row 2)) ∧ ((((((((W.setCell ⟨w.heap.size + 1 + 1, j * 8, none⟩ v0).setCell ⟨w.heap.size + 1 + 1, j * 8 + 1, none⟩ v1).setCell ⟨w.heap.size + 1 + 1, j * 8 + 2, none⟩ v2).setCell ⟨w.heap.size + 1 + 1, j * 8 + 3, none⟩ v3).setCell ⟨w.heap.size + 1 + 1, j * 8 + 4, none⟩ v4).setCell ⟨w.heap.size + 1 + 1, j * 8 + 5, none⟩ v5).setCell ⟨w.heap.size + 1 + 1, j * 8 + 6, none⟩ v6).setCell ⟨w.heap.size + 1 + 1, j * 8 + 7, none⟩ v7).cell? ⟨wr.heap.size, 3, none⟩ = some (.int .u8 (at8 row 3)) ∧ ((((((((W.setCell ⟨w.heap.size + 1 + 1, j * 8, none⟩ v0).setCell ⟨w.heap.size + 1 + 1, j * 8 + 1, none⟩ v1).setCell ⟨w.heap.size + 1 + 1, j * 8 + 2, none⟩ v2).setCell ⟨w.heap.size + 1 + 1, j * 8 + 3, none⟩ v3).setCell ⟨w.heap.size + 1 + 1, j * 8 + 4, none⟩ v4).setCell ⟨w.heap.size + 1 + 1, j * 8 + 5, none⟩ v5).setCell ⟨w.heap.size + 1 + 1, j * 8 + 6, none⟩ v6).setCell ⟨w.heap.size + 1 + 1, j * 8 + 7, none⟩ v7).cell? ⟨wr.heap.size, 4, none⟩ = some (.int .u8 (at8 row 4)) ∧ ((((((((W.setCell ⟨w.heap.size + 1 + 1, j * 8, none⟩ v0).setCell ⟨w.heap.size + 1 + 1, j * 8 + 1, none⟩ v1).setCell ⟨w.heap.size + 1 + 1, j * 8 + 2, none⟩ v2).setCell ⟨w.heap.size + 1 + 1, j * 8 + 3, none⟩ v3).setCell ⟨w.heap.size + 1 + 1, j * 8 + 4, none⟩ v4).setCell ⟨w.heap.size + 1 + 1, j * 8 + 5, none⟩ v5).setCell ⟨w.heap.size + 1 + 1, j * 8 + 6, none⟩ v6).setCell ⟨w.heap.size + 1 + 1, j * 8 + 7, none⟩ v7).cell? ⟨wr.heap.size, 5, none⟩ = some (.int .u8 (at8 row 5)) ∧ ((((((((W.setCell ⟨w.heap.size + 1 + 1, j * 8, none⟩ v0).setCell ⟨w.heap.size + 1 + 1, j * 8 + 1, none⟩ v1).setCell ⟨w.heap.size + 1 + 1, j * 8 + 2, none⟩ v2).setCell ⟨w.heap.size + 1 + 1, j * 8 + 3, none⟩ v3).setCell ⟨w.heap.size + 1 + 1, j * 8 + 4, none⟩ v4).setCell ⟨w.heap.size + 1 + 1, j * 8 + 5, none⟩ v5).setCell ⟨w.heap.size + 1 + 1, j * 8 + 6, none⟩ v6).setCell ⟨w.heap.size + 1 + 1, j * 8 + 7, none⟩ v7).cell? ⟨wr.heap.size, 6, none⟩ = some (.int .u8 (at8 row 6)) ∧ ((((((((W.setCell ⟨w.heap.size + 1 + 1, j * 8, none⟩ v0).setCell ⟨w.heap.size + 1 + 1, j * 8 + 1, none⟩ v1).setCell ⟨w.heap.size + 1 + 1, j * 8 + 2, none⟩ v2).setCell ⟨w.heap.size + 1 + 1, j * 8 + 3, none⟩ v3).setCell ⟨w.heap.size + 1 + 1, j * 8 + 4, none⟩ v4).setCell ⟨w.heap.size + 1 + 1, j * 8 + 5, none⟩ v5).setCell ⟨w.heap.size + 1 + 1, j * 8 + 6, none⟩ v6).setCell ⟨w.heap.size + 1 + 1, j * 8 + 7, none⟩ v7).cell? ⟨wr.heap.size, 7, none⟩ = some (.int .u8 (at8 row 7)))) := Lib.hid fun W h v0 v1 v2 v3 v4 v5 v6 v7 => ⟨((F.out.box.below h).set8 (by omega) v0 v1 v2 v3 v4 v5 v6 v7).all, ((RI.out.below h).pastAt (w.heap.size + 1 + 1) (j * 8) (by omega) v0 v1 v2 v3 v4 v5 v6 v7).flat⟩
   have HT8 := Lib.hid (turnK_sim (p + (k : Int) + 1) (comR_sim SR.out)).len
   refine wp_region_held_drew (S := (fun w' => (w'.cell? ⟨w.heap.size, 0, none⟩ = some (.int .i64 m) ∧ w'.cell? ⟨w.heap.size, 1, none⟩ = some (.int .i64 p) ∧ w'.cell? ⟨w.heap.size, 2, none⟩ = some (.slice (some ⟨b, off, none⟩) n cap)) ∧ (w'.cell? ⟨wr.heap.size, 0, none⟩ = some (.int .u8 (at8 row 0)) ∧ w'.cell? ⟨wr.heap.size, 1, none⟩ = some (.int .u8 (at8 row 1)) ∧ w'.cell? ⟨wr.heap.size, 2, none⟩ = some (.int .u8 (at8 row 2)) ∧ w'.cell? ⟨wr.heap.size, 3, none⟩ = some (.int .u8 (at8 row 3)) ∧ w'.cell? ⟨wr.heap.size, 4, none⟩ = some (.int .u8 (at8 row 4)) ∧ w'.cell? ⟨wr.heap.size, 5, none⟩ = some (.int .u8 (at8 row 5)) ∧ w'.cell? ⟨wr.heap.size, 6, none⟩ = some (.int .u8 (at8 row 6)) ∧ w'.cell? ⟨wr.heap.size, 7, none⟩ = some (.int .u8 (at8 row 7))))) (by kernel_rfl) ?_ (fun hHeld => ?_)
   ·(first | with_reducible exact SH.out _ KB.out | with_reducible exact SZ.out _ KB.out _ _ _ _ _ _ _ _)
   refine wpAnyH_take (i := 0) (oi := { dst := some 26, op := Op.move (Operand.tmp 4), type := 26, pos := "l03_normal.go:126", after := #[], guard := none }) (v := ?_) rfl (by kernel_rfl) (by kernel_rfl) (by kernel_rfl) (fun _ _ _ h => h) (Or.inl ⟨by rfl, ?_⟩) (by assumption) ?_
   rotate_left
   ·intro w hSw
    (try dsimp only at hSw)
    go_simp
    try with_reducible rfl
   try simp only [Act.put, List.setIfInBounds_toArray, List.set_cons_zero, List.set_cons_succ]
   refine wpAnyH_take (i := 1) (oi := { dst := some 27, op := Op.move (Operand.tmp 3), type := 3, pos := "l03_normal.go:126", after := #[], guard := none }) (v := ?_) rfl (by kernel_rfl) (by kernel_rfl) (by kernel_rfl) (fun _ _ _ h => h) (Or.inl ⟨by rfl, ?_⟩) (by assumption) ?_
   rotate_left
   ·intro w hSw
    (try dsimp only at hSw)
    go_simp
    try with_reducible rfl
   try simp only [Act.put, List.setIfInBounds_toArray, List.set_cons_zero, List.set_cons_succ]
   refine wpAnyH_take (i := 2) (oi := { dst := some 28, op := Op.binOp BinOp.sub 3 (Operand.tmp 27) (Operand.const (Value.int IntKind.i64 1)) 3, type := 3, pos := "l03_normal.go:126", after := #[{ on := 1, ground := Ground.data }], guard := none }) (v := ?_) rfl (by kernel_rfl) (by kernel_rfl) (by kernel_rfl) (fun _ _ _ h => h) (Or.inl ⟨by rfl, ?_⟩) (by assumption) ?_
   rotate_left
   ·intro w hSw
    (try dsimp only at hSw)
    go_simp
    try with_reducible rfl
   try simp only [Act.put, List.setIfInBounds_toArray, List.set_cons_zero, List.set_cons_succ]
   refine wpAnyH_take (i := 3) (oi := { dst := some 29, op := Op.move (Operand.tmp 5), type := 3, pos := "l03_normal.go:126", after := #[], guard := none }) (v := ?_) rfl (by kernel_rfl) (by kernel_rfl) (by kernel_rfl) (fun _ _ _ h => h) (Or.inl ⟨by rfl, ?_⟩) (by assumption) ?_
   rotate_left
   ·intro w hSw
    (try dsimp only at hSw)
    go_simp
    try with_reducible rfl
   try simp only [Act.put, List.setIfInBounds_toArray, List.set_cons_zero, List.set_cons_succ]
   refine wpAnyH_take (i := 4) (oi := { dst := some 30, op := Op.binOp BinOp.sub 3 (Operand.tmp 28) (Operand.tmp 29) 3, type := 3, pos := "l03_normal.go:126", after := #[{ on := 2, ground := Ground.data }, { on := 3, ground := Ground.data }], guard := none }) (v := ?_) rfl (by kernel_rfl) (by kernel_rfl) (by kernel_rfl) (fun _ _ _ h => h) (Or.inl ⟨by rfl, ?_⟩) (by assumption) ?_
   rotate_left
   ·intro w hSw
    (try dsimp only at hSw)
    go_simp
    try with_reducible rfl
   try simp only [Act.put, List.setIfInBounds_toArray, List.set_cons_zero, List.set_cons_succ]
   refine wpAnyH_take (i := 5) (oi := { dst := some 31, op := Op.load 54 (Operand.tmp 6), type := 54, pos := "l03_normal.go:126", after := #[], guard := none }) (v := ?_) rfl (by kernel_rfl) (by kernel_rfl) (by kernel_rfl) (fun _ _ _ h => h) (Or.inl ⟨by rfl, ?_⟩) (by assumption) ?_
   rotate_left
   ·intro w hSw
    (try dsimp only at hSw)
    go_simp
    try with_reducible rfl
   try simp only [Act.put, List.setIfInBounds_toArray, List.set_cons_zero, List.set_cons_succ]
   refine wpAnyH_take (i := 6) (oi := { dst := some 32, op := Op.fieldAddr 28 (Operand.tmp 1) 0, type := 0, pos := "l03_normal.go:126", after := #[], guard := none }) (v := ?_) rfl (by kernel_rfl) (by kernel_rfl) (by kernel_rfl) (fun _ _ _ h => h) (Or.inl ⟨by rfl, ?_⟩) (by assumption) ?_
   rotate_left
   ·intro w hSw
    (try dsimp only at hSw)
    go_simp
    try with_reducible rfl
   try simp only [Act.put, List.setIfInBounds_toArray, List.set_cons_zero, List.set_cons_succ]
   refine wpAnyH_take (i := 7) (oi := { dst := some 33, op := Op.load 2 (Operand.tmp 32), type := 2, pos := "l03_normal.go:126", after := #[{ on := 6, ground := Ground.data }], guard := none }) (v := ?_) rfl (by kernel_rfl) (by kernel_rfl) (by kernel_rfl) (fun _ _ _ h => h) (Or.inl ⟨by rfl, ?_⟩) (by assumption) ?_
   rotate_left
   ·intro w hSw
    (try dsimp only at hSw)
    go_simp
    try with_reducible rfl
   try simp only [Act.put, List.setIfInBounds_toArray, List.set_cons_zero, List.set_cons_succ]
   refine wpAnyH_take (i := 9) (oi := { dst := some 35, op := Op.move (Operand.tmp 7), type := 2, pos := "l03_normal.go:126", after := #[], guard := none }) (v := ?_) rfl (by kernel_rfl) (by kernel_rfl) (by kernel_rfl) (fun _ _ _ h => h) (Or.inl ⟨by rfl, ?_⟩) (by assumption) ?_
   rotate_left
   ·intro w hSw
    (try dsimp only at hSw)
    go_simp
    try with_reducible rfl
   try simp only [Act.put, List.setIfInBounds_toArray, List.set_cons_zero, List.set_cons_succ]
   refine wpAnyH_take (i := 10) (oi := { dst := some 36, op := Op.fieldAddr 28 (Operand.tmp 1) 0, type := 0, pos := "l03_normal.go:126", after := #[], guard := none }) (v := ?_) rfl (by kernel_rfl) (by kernel_rfl) (by kernel_rfl) (fun _ _ _ h => h) (Or.inl ⟨by rfl, ?_⟩) (by assumption) ?_
   rotate_left
   ·intro w hSw
    (try dsimp only at hSw)
    go_simp
    try with_reducible rfl
   try simp only [Act.put, List.setIfInBounds_toArray, List.set_cons_zero, List.set_cons_succ]
   refine wpAnyH_take (i := 11) (oi := { dst := some 37, op := Op.load 2 (Operand.tmp 36), type := 2, pos := "l03_normal.go:126", after := #[{ on := 10, ground := Ground.data }], guard := none }) (v := ?_) rfl (by kernel_rfl) (by kernel_rfl) (by kernel_rfl) (fun _ _ _ h => h) (Or.inl ⟨by rfl, ?_⟩) (by assumption) ?_
   rotate_left
   ·intro w hSw
    (try dsimp only at hSw)
    go_simp
    try with_reducible rfl
   try simp only [Act.put, List.setIfInBounds_toArray, List.set_cons_zero, List.set_cons_succ]
   refine wpAnyH_ready (rs := [8]) (by kernel_rfl) (by simp) ?_
   refine AllReadyH.cons (o := { dst := some 34, op := Op.call { callee := Callee.value (Operand.func 85), args := #[Operand.tmp 31, Operand.tmp 33], argTypes := #[54, 2] }, type := 54, pos := "l03_normal.go:126", after := #[{ on := 5, ground := Ground.data }, { on := 7, ground := Ground.data }], guard := none }) rfl (fun K hK => ?_) ?_
   ·go_simp
    refine (complement_com m row SR.out _).mono ?_
    rintro e w3 ⟨rfl, gg⟩
    replace KB := Lib.hid (below_go KB.out gg KB.out.size)
    clear gg
    go_wp2_with fail
    refine hK.out _ _ ?_ (fun hHeld => ?_)
    ·(first | with_reducible exact SH.out _ KB.out | with_reducible exact SZ.out _ KB.out _ _ _ _ _ _ _ _)
    clear hK K
    try simp only [Act.put, List.setIfInBounds_toArray, List.set_cons_zero, List.set_cons_succ]
    refine wpAnyH_ready (rs := [12]) (by kernel_rfl) (by simp) ?_
    refine AllReadyH.cons (o := { dst := some 38, op := Op.call { callee := Callee.value (Operand.func 74), args := #[Operand.tmp 34, Operand.tmp 35, Operand.tmp 37], argTypes := #[54, 2, 2] }, type := 54, pos := "l03_normal.go:126", after := #[{ on := 8, ground := Ground.data }, { on := 9, ground := Ground.data }, { on := 11, ground := Ground.data }, { on := 8, ground := Ground.chain }], guard := none }) rfl (fun K hK => ?_) ?_
    ·go_simp
     refine (turned_any m (p + (k : Int) + 1) (comR m row) (comR_sim SR.out) _).mono ?_
     rintro e w4 ⟨rfl, gg⟩
     replace KB := Lib.hid (below_go KB.out gg KB.out.size)
     clear gg
     obtain ⟨d0, d1, d2, d3, d4, d5, d6, d7⟩ := ((F.out.below KB.out).own.cellAt j (by omega)).flat
     have f0 := (F.out.below KB.out).own.frozenAt (j * 8)
     have f1 := (F.out.below KB.out).own.frozenAt (j * 8 + 1)
     have f2 := (F.out.below KB.out).own.frozenAt (j * 8 + 2)
     have f3 := (F.out.below KB.out).own.frozenAt (j * 8 + 3)
     have f4 := (F.out.below KB.out).own.frozenAt (j * 8 + 4)
     have f5 := (F.out.below KB.out).own.frozenAt (j * 8 + 5)
     have f6 := (F.out.below KB.out).own.frozenAt (j * 8 + 6)
     have f7 := (F.out.below KB.out).own.frozenAt (j * 8 + 7)
     go_wp2_with fail
     refine hK.out _ _ ?_ (fun hHeld => ?_)
     ·(first | with_reducible exact SH.out _ KB.out | with_reducible exact SZ.out _ KB.out _ _ _ _ _ _ _ _)
     clear hK K
     try simp only [Act.put, List.setIfInBounds_toArray, List.set_cons_zero, List.set_cons_succ]
     refine wpAnyH_ready (rs := [13]) (by kernel_rfl) (by simp) ?_
     refine AllReadyH.cons (o := { dst := some 39, op := Op.indexAddr 26 (Operand.tmp 26) (Operand.tmp 30), type := 0, pos := "l03_normal.go:126", after := #[{ on := 0, ground := Ground.data }, { on := 4, ground := Ground.data }, { on := 0, ground := Ground.phase }, { on := 1, ground := Ground.phase }, { on := 2, ground := Ground.phase }, { on := 3, ground := Ground.phase }, { on := 4, ground := Ground.phase }, { on := 5, ground := Ground.phase }, { on := 6, ground := Ground.phase }, { on := 7, ground := Ground.phase }, { on := 8, ground := Ground.phase }, { on := 9, ground := Ground.phase }, { on := 10, ground := Ground.phase }, { on := 11, ground := Ground.phase }, { on := 12, ground := Ground.phase }], guard := none }) rfl (fun K hK => ?_) ?_
     ·go_simp
      refine hK.out _ _ ?_ (fun hHeld => ?_)
      ·(first | with_reducible exact SH.out _ KB.out | with_reducible exact SZ.out _ KB.out _ _ _ _ _ _ _ _)
      clear hK K
      try simp only [Act.put, List.setIfInBounds_toArray, List.set_cons_zero, List.set_cons_succ]
      refine wpAnyH_ready (rs := [14]) (by kernel_rfl) (by simp) ?_
      refine AllReadyH.cons (o := { dst := none, op := Op.store 54 (Operand.tmp 39) (Operand.tmp 38), type := 0, pos := "l03_normal.go:126", after := #[{ on := 13, ground := Ground.data }, { on := 12, ground := Ground.data }, { on := 12, ground := Ground.chain }, { on := 0, ground := Ground.phase }, { on := 1, ground := Ground.phase }, { on := 2, ground := Ground.phase }, { on := 3, ground := Ground.phase }, { on := 4, ground := Ground.phase }, { on := 5, ground := Ground.phase }, { on := 6, ground := Ground.phase }, { on := 7, ground := Ground.phase }, { on := 8, ground := Ground.phase }, { on := 9, ground := Ground.phase }, { on := 10, ground := Ground.phase }, { on := 11, ground := Ground.phase }, { on := 12, ground := Ground.phase }], guard := none }) rfl (fun K hK => ?_) ?_
      ·go_simp
       refine hK.out _ _ ?_ (fun hHeld => ?_)
       ·(first | with_reducible exact SH.out _ KB.out | with_reducible exact SZ.out _ KB.out _ _ _ _ _ _ _ _)
       clear hK K
       try simp only [Act.put, List.setIfInBounds_toArray, List.set_cons_zero, List.set_cons_succ]
       refine wpAnyH_done (by kernel_rfl) ?_ _
       go_wp2_with fail
       have F2 := Lib.hid ((F.out.below KB.out).store j (by omega) _ HT8.out)
       go_wp2
       go_roundg (gk - 1)
       case measure => omega
       case rel =>
        refine ⟨k + 1, _, by omega, by omega, by go_num, F2.out, fun t ht => ?_⟩
        rw [rowAt_set _ _ _ _ (by rw [rl]; omega)]
        by_cases e : t = k
        ·subst e; rw [if_pos (by omega), HROW.out]
        ·rw [if_neg (by omega)]; exact HRW.out t (by omega)
      exact AllReadyH.nil
     exact AllReadyH.nil
    exact AllReadyH.nil
   exact AllReadyH.nil
  ·have hkn : k = n := by omega
   subst hkn
   have hw5 : IntKind.i64.wrap (-p) = -p := IntWalk.i64_in _ (by omega)
   have hw6 : IntKind.i64.wrap (-p - (k : Int)) = -p - (k : Int) := IntWalk.i64_in _ (by omega)
   have hrr : rows = turns m p (invL m l) := by
    have h1 := F.out.own.len
    refine rows_ext2 (by rw [h1, turns_len, invL_len, HN.out]) fun i hi => ?_
    rw [h1] at hi
    have h2 := HRW.out (k - 1 - i) (by omega)
    have h3 := inv_at HS.out p (j := k - 1 - i) (by rw [HN.out]; omega)
    rw [HN.out] at h3
    rw [show k - 1 - (k - 1 - i) = i by omega] at h2 h3
    rw [h2, h3]
   subst hrr
   obtain ⟨q1, q2, q3⟩ := F.out.box.all
   obtain ⟨x0, ⟨x1, x2, x3⟩, y1, y2, y3⟩ := F.out.res
   have HSZ := Lib.hid (And.intro F.out.lo F.out.hi)
   go_wp2
   try rw [Exit.noGoto_ret]
   have hsz := HSZ.out
   obtain ⟨_, ⟨e1, e2, e3⟩, _⟩ := F.out.res.fill (.int .i64 m) (.int .i64 (-p - (k : Int))) (.slice (some ⟨w.heap.size + 1 + 1, 0, none⟩) k k)
   exact bodyPost_ret (v := .agg #[.int .i64 m, .int .i64 (-p - (k : Int)), .slice (some ⟨w.heap.size + 1 + 1, 0, none⟩) k k]) (by simp [results, Try.results56, go_sem, e1, e2, e3]) rfl ⟨_, k, k, rfl, (F.out.own.set3 (by omega) _ _ _).mono (by omega), below_set3 F.out.bel (by omega) _ _ _⟩

end Go.Proofs.Ytleoohplnkdbdab

