/- The program: summits. -/
import Derived.Test.YtpkhddndapcpjaaSmSumP
import Derived.Test.YtpkhddndapcpjaaSmSDec
import Derived.Test.YtpkhddndapcpjaaSmILen
namespace Go.Proofs.Ytpkhddndapcpjaa
open Go.RowKit Go.ChangeShapes

theorem half_len {m : Nat} (h8 : m ≤ 8) : lenR (halfR m) m = (stepsN m : Int) := by
 rcases (show m = 0 ∨ m = 1 ∨ m = 2 ∨ m = 3 ∨ m = 4 ∨ m = 5 ∨ m = 6 ∨ m = 7 ∨ m = 8 by omega) with rfl | rfl | rfl | rfl | rfl | rfl | rfl | rfl | rfl <;> decide

theorem stepsN_le {m : Nat} (h8 : m ≤ 8) : stepsN m ≤ 28 := by
 rcases (show m = 0 ∨ m = 1 ∨ m = 2 ∨ m = 3 ∨ m = 4 ∨ m = 5 ∨ m = 6 ∨ m = 7 ∨ m = 8 by omega) with rfl | rfl | rfl | rfl | rfl | rfl | rfl | rfl | rfl <;> decide

set_option maxRecDepth 100000 in
theorem leastPower_any (m p : Int) (a : Option Addr) (n cap : Nat) (w : World) :
  Calls Try.prog 51 #[.agg #[.int .i64 m, .int .i64 p, .slice a n cap]] w fun e w' => e = .returned (.int .i64 p) ∧ Below w.heap.size w w' := by
 go_enter Try.func51, Try.ntmps51
 go_wp2
 go_ret
 exact ⟨rfl, below1 w _⟩

set_option maxRecDepth 100000 in
theorem depth_any (m p : Int) (a : Option Addr) (n cap : Nat) (w : World) (hp : -100000 ≤ p ∧ p ≤ 100000) (hn : n ≤ 100000) :
  Calls Try.prog 53 #[.agg #[.int .i64 m, .int .i64 p, .slice a n cap]] w fun e w' => e = .returned (.int .i64 (-p - (n : Int))) ∧ Below w.heap.size w w' := by
 have hw1 : IntKind.i64.wrap (-p) = -p := IntWalk.i64_in _ (by omega)
 have hw2 : IntKind.i64.wrap (-p - (n : Int)) = -p - (n : Int) := IntWalk.i64_in _ (by omega)
 have hw3 : IntKind.i64.wrap (n : Int) = (n : Int) := IntWalk.i64_in _ (by omega)
 go_enter Try.func53, Try.ntmps53
 go_wp2
 go_ret
 exact ⟨rfl, below1 w _⟩

/-- What risen hands back. -/
def RisenPost (w : World) (m : Nat) (r : Option (Int × List (List Int))) (e : Ending) (w' : World) : Prop :=
 match r with
 | some y => ∃ b nb db, e = .returned (.tuple #[.agg #[.int .i64 m, .int .i64 y.1, .slice b nb db], .bool true]) ∧ nb ≤ db ∧ OwnS w.heap.size w' b nb y.2 ∧ Below w.heap.size w w'
 | none => e = .returned (.tuple #[.agg #[.int .i64 0, .int .i64 0, .slice none 0 0], .bool false]) ∧ Below w.heap.size w w'

set_option maxRecDepth 100000 in
set_option maxHeartbeats 1000000 in
theorem clone2_any (a : Option Addr) (n cap : Nat) (rs : List (List Int)) (w : World) (hr : ReadsA w a n rs) (hn : n ≤ 1048576) :
  Calls Try.prog 69 #[.slice a n cap] w fun e w' => ∃ b d, e = .returned (.slice b n d) ∧ n ≤ d ∧ OwnS w.heap.size w' b n rs ∧ Below w.heap.size w w' := by
 obtain ⟨i0, hi, hz0, hz1, hz2⟩ := info_parts infoSimple
 have R := Lib.hid hr
 have HL := Lib.hid hr.len
 clear hr
 go_enter Try.func69, Try.ntmps69
 cases a with
 | none =>
  have hn0 : n = 0 := by
   rcases R.out.2.2 with h | ⟨b, off, ha, _⟩
   ·exact h
   ·cases ha
  subst hn0
  have h0 : rs = [] := List.eq_nil_of_length_eq_zero HL.out
  have heq : ∀ W, Sem.run Try.prog (binOp BinOp.eql 26 (.slice none 0 cap) (.slice none 0 0)) W = .ok (.bool true) W := fun W => by kernel_rfl
  go_wp2
  go_ret
  exact ⟨_, _, rfl, Nat.zero_le _, by rw [h0]; exact OwnS.nil _ _ _, Below.refl _ _⟩
 | some ad =>
  have O := Lib.hid (OwnAV.empty w)
  have heq : ∀ W, Sem.run Try.prog (binOp BinOp.eql 26 (.slice (some ad) n cap) (.slice none 0 0)) W = .ok (.bool false) W := fun W => by kernel_rfl
  go_wp2_with (at_builtin; refine wpList_append_rows_at rfl _ _ 26 rfl w.heap.size i0 Try.underlying26 hi hz0 hz1 hz2 _ _ _ rfl O.out _ _ _ rs rfl (R.out.alloc _) (by omega) (by simp) ?_)
  intro v' w5 ho' hg hv
  have KB := below_ownA (below1 w (.cells #[] 53)) (by simp) (Nat.le_refl _) O.out hg
  obtain ⟨b, d, rfl, ho⟩ := ho'.form
  go_wp2
  go_ret
  exact ⟨b, d, rfl, ho.cap_le, ho.toS, KB⟩

set_option maxRecDepth 100000 in
set_option maxHeartbeats 1000000 in
theorem copied2_any (m : Nat) (p : Int) (a : Option Addr) (n cap : Nat) (l : List (List Int)) (w : World) (hr : ReadsA w a n l) (hn : n ≤ 1048576) :
  Calls Try.prog 48 #[.agg #[.int .i64 m, .int .i64 p, .slice a n cap]] w fun e w' => ∃ b d, e = .returned (.agg #[.int .i64 m, .int .i64 p, .slice b n d]) ∧ n ≤ d ∧ OwnS w.heap.size w' b n l ∧ Below w.heap.size w w' := by
 have R := Lib.hid hr
 clear hr
 go_enter Try.func48, Try.ntmps48
 have A := Lib.hid ((At3.place w (.int .i64 m) (.int .i64 p) (.slice a n cap) 28 w.heap.size rfl).alloc (.cells #[.int .i64 0, .int .i64 0, .slice none 0 0] 28))
 have Z := Lib.hid (At3.place (w.alloc (.cells #[.int .i64 m, .int .i64 p, .slice a n cap] 28)) (.int .i64 0) (.int .i64 0) (.slice none 0 0) 28 (w.heap.size + 1) (by simp))
 have B := Lib.hid ((below1 w (.cells #[.int .i64 m, .int .i64 p, .slice a n cap] 28)).alloc (by simp) (.cells #[.int .i64 0, .int .i64 0, .slice none 0 0] 28))
 replace R := Lib.hid ((R.out.alloc (.cells #[.int .i64 m, .int .i64 p, .slice a n cap] 28)).alloc (.cells #[.int .i64 0, .int .i64 0, .slice none 0 0] 28))
 have zz : Hid (((w.alloc (.cells #[.int .i64 m, .int .i64 p, .slice a n cap] 28)).alloc (.cells #[.int .i64 0, .int .i64 0, .slice none 0 0] 28)).heap.size = w.heap.size + 1 + 1) := Lib.hid (by simp)
 go_upto_region 1 with fail
 obtain ⟨W0, hW0⟩ : ∃ W0, W0 = ((w.alloc (.cells #[.int .i64 m, .int .i64 p, .slice a n cap] 28)).alloc (.cells #[.int .i64 0, .int .i64 0, .slice none 0 0] 28)) := ⟨_, rfl⟩
 rw [← hW0] at A Z B R zz ⊢
 clear hW0
 have KB : Hid (Below W0.heap.size W0 W0.drew) := Lib.hid (Below.refl W0.heap.size W0).drew
 have SH : Hid (∀ W, Below W0.heap.size W0 W → W.cell? ⟨w.heap.size, 0, none⟩ = some (.int .i64 m) ∧ W.cell? ⟨w.heap.size, 1, none⟩ = some (.int .i64 p) ∧ W.cell? ⟨w.heap.size, 2, none⟩ = some (.slice a n cap)) := Lib.hid fun W h => (A.out.below h).all
 have SZ : Hid (∀ W, Below W0.heap.size W0 W → ∀ u v x, (((W.setCell ⟨w.heap.size + 1, 0, none⟩ u).setCell ⟨w.heap.size + 1, 1, none⟩ v).setCell ⟨w.heap.size + 1, 2, none⟩ x).cell? ⟨w.heap.size, 0, none⟩ = some (.int .i64 m) ∧ (((W.setCell ⟨w.heap.size + 1, 0, none⟩ u).setCell ⟨w.heap.size + 1, 1, none⟩ v).setCell ⟨w.heap.size + 1, 2, none⟩ x).cell? ⟨w.heap.size, 1, none⟩ = some (.int .i64 p) ∧ (((W.setCell ⟨w.heap.size + 1, 0, none⟩ u).setCell ⟨w.heap.size + 1, 1, none⟩ v).setCell ⟨w.heap.size + 1, 2, none⟩ x).cell? ⟨w.heap.size, 2, none⟩ = some (.slice a n cap)) := Lib.hid fun W h u v x => ((A.out.below h).set3 (g2 := w.heap.size + 1) (by omega) u v x).all
 refine wp_region_held_drew (S := (fun w' => w'.cell? ⟨w.heap.size, 0, none⟩ = some (.int .i64 m) ∧ w'.cell? ⟨w.heap.size, 1, none⟩ = some (.int .i64 p) ∧ w'.cell? ⟨w.heap.size, 2, none⟩ = some (.slice a n cap))) (by kernel_rfl) ?_ (fun hHeld => ?_)
 ·first | with_reducible exact SH.out _ KB.out | with_reducible exact SZ.out _ KB.out _ _ _
 refine wpAnyH_take (i := 0) (oi := { dst := some 3, op := Op.fieldAddr 28 (Operand.tmp 1) 0, type := 0, pos := "l04_conjugacy.go:19", after := #[], guard := none }) (v := ?_) rfl (by kernel_rfl) (by kernel_rfl) (by kernel_rfl) (fun _ _ _ h => h) (Or.inl ⟨by rfl, ?_⟩) (by assumption) ?_
 rotate_left
 ·intro w hSw
  (try dsimp only at hSw)
  go_simp
  try with_reducible rfl
 try simp only [Act.put, List.setIfInBounds_toArray, List.set_cons_zero, List.set_cons_succ]
 refine wpAnyH_take (i := 1) (oi := { dst := some 4, op := Op.load 2 (Operand.tmp 3), type := 2, pos := "l04_conjugacy.go:19", after := #[{ on := 0, ground := Ground.data }], guard := none }) (v := ?_) rfl (by kernel_rfl) (by kernel_rfl) (by kernel_rfl) (fun _ _ _ h => h) (Or.inl ⟨by rfl, ?_⟩) (by assumption) ?_
 rotate_left
 ·intro w hSw
  (try dsimp only at hSw)
  go_simp
  try with_reducible rfl
 try simp only [Act.put, List.setIfInBounds_toArray, List.set_cons_zero, List.set_cons_succ]
 refine wpAnyH_take (i := 2) (oi := { dst := some 5, op := Op.fieldAddr 28 (Operand.tmp 1) 1, type := 0, pos := "l04_conjugacy.go:19", after := #[], guard := none }) (v := ?_) rfl (by kernel_rfl) (by kernel_rfl) (by kernel_rfl) (fun _ _ _ h => h) (Or.inl ⟨by rfl, ?_⟩) (by assumption) ?_
 rotate_left
 ·intro w hSw
  (try dsimp only at hSw)
  go_simp
  try with_reducible rfl
 try simp only [Act.put, List.setIfInBounds_toArray, List.set_cons_zero, List.set_cons_succ]
 refine wpAnyH_take (i := 3) (oi := { dst := some 6, op := Op.load 2 (Operand.tmp 5), type := 2, pos := "l04_conjugacy.go:19", after := #[{ on := 2, ground := Ground.data }], guard := none }) (v := ?_) rfl (by kernel_rfl) (by kernel_rfl) (by kernel_rfl) (fun _ _ _ h => h) (Or.inl ⟨by rfl, ?_⟩) (by assumption) ?_
 rotate_left
 ·intro w hSw
  (try dsimp only at hSw)
  go_simp
  try with_reducible rfl
 try simp only [Act.put, List.setIfInBounds_toArray, List.set_cons_zero, List.set_cons_succ]
 refine wpAnyH_take (i := 4) (oi := { dst := some 7, op := Op.fieldAddr 28 (Operand.tmp 1) 2, type := 0, pos := "l04_conjugacy.go:19", after := #[], guard := none }) (v := ?_) rfl (by kernel_rfl) (by kernel_rfl) (by kernel_rfl) (fun _ _ _ h => h) (Or.inl ⟨by rfl, ?_⟩) (by assumption) ?_
 rotate_left
 ·intro w hSw
  (try dsimp only at hSw)
  go_simp
  try with_reducible rfl
 try simp only [Act.put, List.setIfInBounds_toArray, List.set_cons_zero, List.set_cons_succ]
 refine wpAnyH_take (i := 5) (oi := { dst := some 8, op := Op.load 26 (Operand.tmp 7), type := 26, pos := "l04_conjugacy.go:19", after := #[{ on := 4, ground := Ground.data }], guard := none }) (v := ?_) rfl (by kernel_rfl) (by kernel_rfl) (by kernel_rfl) (fun _ _ _ h => h) (Or.inl ⟨by rfl, ?_⟩) (by assumption) ?_
 rotate_left
 ·intro w hSw
  (try dsimp only at hSw)
  go_simp
  try with_reducible rfl
 try simp only [Act.put, List.setIfInBounds_toArray, List.set_cons_zero, List.set_cons_succ]
 refine wpAnyH_ready (rs := [6]) (by kernel_rfl) (by simp) ?_
 refine AllReadyH.cons (o := { dst := some 9, op := Op.call { callee := Callee.value (Operand.func 69), args := #[Operand.tmp 8], argTypes := #[26] }, type := 26, pos := "l04_conjugacy.go:19", after := #[{ on := 5, ground := Ground.data }], guard := none }) rfl (fun K hK => ?_) ?_
 ·go_simp
  refine (clone2_any a n cap l _ (R.out.below KB.out) hn).mono ?_
  rintro e w3 ⟨b, d, rfl, hbd, ho, gg⟩
  have O := Lib.hid (ho.mono KB.out.size)
  replace KB := Lib.hid (below_go KB.out gg KB.out.size)
  clear gg ho
  obtain ⟨x0, ⟨x1, x2, x3⟩, y1, y2, y3⟩ := Z.out.below KB.out
  go_wp2_with fail
  refine hK.out _ _ ?_ (fun hHeld => ?_)
  ·first | with_reducible exact SH.out _ KB.out | with_reducible exact SZ.out _ KB.out _ _ _
  clear hK K
  try simp only [Act.put, List.setIfInBounds_toArray, List.set_cons_zero, List.set_cons_succ]
  refine wpAnyH_ready (rs := [7]) (by kernel_rfl) (by simp) ?_
  refine AllReadyH.cons (o := { dst := some 10, op := Op.build 28 #[(0, Operand.tmp 4), (1, Operand.tmp 6), (2, Operand.tmp 9)], type := 28, pos := "l04_conjugacy.go:19", after := #[{ on := 1, ground := Ground.data }, { on := 3, ground := Ground.data }, { on := 6, ground := Ground.data }], guard := none }) rfl (fun K hK => ?_) ?_
  ·go_simp
   refine hK.out _ _ ?_ (fun hHeld => ?_)
   ·first | with_reducible exact SH.out _ KB.out | with_reducible exact SZ.out _ KB.out _ _ _
   clear hK K
   try simp only [Act.put, List.setIfInBounds_toArray, List.set_cons_zero, List.set_cons_succ]
   refine wpAnyH_ready (rs := [8]) (by kernel_rfl) (by simp) ?_
   refine AllReadyH.cons (o := { dst := none, op := Op.store 28 (Operand.tmp 2) (Operand.tmp 10), type := 0, pos := "l04_conjugacy.go:19", after := #[{ on := 7, ground := Ground.data }, { on := 6, ground := Ground.chain }, { on := 0, ground := Ground.phase }, { on := 1, ground := Ground.phase }, { on := 2, ground := Ground.phase }, { on := 3, ground := Ground.phase }, { on := 4, ground := Ground.phase }, { on := 5, ground := Ground.phase }, { on := 6, ground := Ground.phase }, { on := 7, ground := Ground.phase }], guard := none }) rfl (fun K hK => ?_) ?_
   ·go_simp
    refine hK.out _ _ ?_ (fun hHeld => ?_)
    ·first | with_reducible exact SH.out _ KB.out | with_reducible exact SZ.out _ KB.out _ _ _
    clear hK K
    try simp only [Act.put, List.setIfInBounds_toArray, List.set_cons_zero, List.set_cons_succ]
    refine wpAnyH_done (by kernel_rfl) ?_ _
    go_wp2_with fail
    try rw [Exit.noGoto_ret]
    obtain ⟨_, ⟨e1, e2, e3⟩, _⟩ := (Z.out.below KB.out).fill (.int .i64 m) (.int .i64 p) (.slice b n d)
    exact bodyPost_ret (v := .agg #[.int .i64 m, .int .i64 p, .slice b n d]) (by simp [results, Try.results48, go_sem, e1, e2, e3]) rfl ⟨b, d, rfl, hbd, (O.out.set3 (by have := zz.out; omega) _ _ _).mono (by have := zz.out; omega), below_set3 (below_go B.out KB.out (by have := zz.out; omega)) (by omega) _ _ _⟩
   exact AllReadyH.nil
  exact AllReadyH.nil
 exact AllReadyH.nil

set_option maxRecDepth 100000 in
set_option maxHeartbeats 1000000 in
theorem risenUp_any (m : Nat) (m1 : 1 ≤ m) (m8 : m ≤ 8) (p : Int) (hp : -2000 ≤ p ∧ p ≤ 2000) (a : Option Addr) (n cap : Nat) (hcap : n ≤ cap) (l : List (List Int)) (w : World) (hr : ReadsA w a n l) (hl : Nl m l) (hn : n ≤ 1000) (r : Option (Int × List (List Int))) (hR : upN m (stepsN m) (p, l) = r) :
  Calls Try.prog 49 #[.agg #[.int .i64 m, .int .i64 p, .slice a n cap], .func (.func 50) #[] #[], .func (.func 51) #[] #[]] w (RisenPost w m r) := by
 have HN := Lib.hid hr.len
 have R := Lib.hid hr
 have HL := Lib.hid hl
 have HR := Lib.hid hR
 clear hr hl hR
 have hst := stepsN_le m8
 obtain ⟨c, hc⟩ : ∃ c, c = stepsN m := ⟨_, rfl⟩
 have HLN : Hid (lenR (halfR m) m = (c : Int)) := Lib.hid (by rw [hc]; exact half_len m8)
 rw [← hc] at HR hst
 clear hc
 go_enter Try.func49, Try.ntmps49
 have A := Lib.hid ((At3.place w (.int .i64 m) (.int .i64 p) (.slice a n cap) 28 w.heap.size rfl).alloc (.cells #[.int .i64 0, .int .i64 0, .slice none 0 0] 28))
 have Z := Lib.hid (At3.place (w.alloc (.cells #[.int .i64 m, .int .i64 p, .slice a n cap] 28)) (.int .i64 0) (.int .i64 0) (.slice none 0 0) 28 (w.heap.size + 1) (by simp))
 have B := Lib.hid ((below1 w (.cells #[.int .i64 m, .int .i64 p, .slice a n cap] 28)).alloc (by simp) (.cells #[.int .i64 0, .int .i64 0, .slice none 0 0] 28))
 have zz : Hid (((w.alloc (.cells #[.int .i64 m, .int .i64 p, .slice a n cap] 28)).alloc (.cells #[.int .i64 0, .int .i64 0, .slice none 0 0] 28)).heap.size = w.heap.size + 1 + 1) := Lib.hid (by simp)
 obtain ⟨q1, q2, q3⟩ := A.out.all
 go_wp2_with fail
 refine (leastPower_any m p a n cap _).mono ?_
 rintro e w1 ⟨rfl, gg⟩
 have hz1 : w.heap.size + 1 + 1 ≤ w1.heap.size := by rw [← zz.out]; exact gg.size
 replace A := Lib.hid (A.out.below gg)
 replace Z := Lib.hid (Z.out.below gg)
 replace B := Lib.hid (below_go B.out gg B.out.size)
 clear gg q1 q2 q3
 go_upto_region 2 with fail
 have KB : Hid (Below w1.heap.size w1 w1.drew) := Lib.hid (Below.refl w1.heap.size w1).drew
 have SH : Hid (∀ W, Below w1.heap.size w1 W → W.cell? ⟨w.heap.size, 0, none⟩ = some (.int .i64 m) ∧ W.cell? ⟨w.heap.size, 1, none⟩ = some (.int .i64 p) ∧ W.cell? ⟨w.heap.size, 2, none⟩ = some (.slice a n cap)) := Lib.hid fun W h => (A.out.below h).all
 refine wp_region_held_drew (S := (fun w' => w'.cell? ⟨w.heap.size, 0, none⟩ = some (.int .i64 m) ∧ w'.cell? ⟨w.heap.size, 1, none⟩ = some (.int .i64 p) ∧ w'.cell? ⟨w.heap.size, 2, none⟩ = some (.slice a n cap))) (by kernel_rfl) ?_ (fun hHeld => ?_)
 ·with_reducible exact SH.out _ KB.out
 refine wpAnyH_take (i := 0) (oi := { dst := some 12, op := Op.fieldAddr 28 (Operand.tmp 3) 0, type := 0, pos := "l04_conjugacy.go:86", after := #[], guard := none }) (v := ?_) rfl (by kernel_rfl) (by kernel_rfl) (by kernel_rfl) (fun _ _ _ h => h) (Or.inl ⟨by rfl, ?_⟩) (by assumption) ?_
 rotate_left
 ·intro w hSw
  (try dsimp only at hSw)
  go_simp
  try with_reducible rfl
 try simp only [Act.put, List.setIfInBounds_toArray, List.set_cons_zero, List.set_cons_succ]
 refine wpAnyH_take (i := 1) (oi := { dst := some 13, op := Op.load 2 (Operand.tmp 12), type := 2, pos := "l04_conjugacy.go:86", after := #[{ on := 0, ground := Ground.data }], guard := none }) (v := ?_) rfl (by kernel_rfl) (by kernel_rfl) (by kernel_rfl) (fun _ _ _ h => h) (Or.inl ⟨by rfl, ?_⟩) (by assumption) ?_
 rotate_left
 ·intro w hSw
  (try dsimp only at hSw)
  go_simp
  try with_reducible rfl
 try simp only [Act.put, List.setIfInBounds_toArray, List.set_cons_zero, List.set_cons_succ]
 refine wpAnyH_take (i := 3) (oi := { dst := some 15, op := Op.fieldAddr 28 (Operand.tmp 3) 0, type := 0, pos := "l04_conjugacy.go:86", after := #[], guard := none }) (v := ?_) rfl (by kernel_rfl) (by kernel_rfl) (by kernel_rfl) (fun _ _ _ h => h) (Or.inl ⟨by rfl, ?_⟩) (by assumption) ?_
 rotate_left
 ·intro w hSw
  (try dsimp only at hSw)
  go_simp
  try with_reducible rfl
 try simp only [Act.put, List.setIfInBounds_toArray, List.set_cons_zero, List.set_cons_succ]
 refine wpAnyH_take (i := 4) (oi := { dst := some 16, op := Op.load 2 (Operand.tmp 15), type := 2, pos := "l04_conjugacy.go:86", after := #[{ on := 3, ground := Ground.data }], guard := none }) (v := ?_) rfl (by kernel_rfl) (by kernel_rfl) (by kernel_rfl) (fun _ _ _ h => h) (Or.inl ⟨by rfl, ?_⟩) (by assumption) ?_
 rotate_left
 ·intro w hSw
  (try dsimp only at hSw)
  go_simp
  try with_reducible rfl
 try simp only [Act.put, List.setIfInBounds_toArray, List.set_cons_zero, List.set_cons_succ]
 refine wpAnyH_take (i := 6) (oi := { dst := some 18, op := Op.move (Operand.const (Value.int IntKind.i64 0)), type := 2, pos := "l04_conjugacy.go:86", after := #[], guard := none }) (v := ?_) rfl (by kernel_rfl) (by kernel_rfl) (by kernel_rfl) (fun _ _ _ h => h) (Or.inl ⟨by rfl, ?_⟩) (by assumption) ?_
 rotate_left
 ·intro w hSw
  (try dsimp only at hSw)
  go_simp
  try with_reducible rfl
 try simp only [Act.put, List.setIfInBounds_toArray, List.set_cons_zero, List.set_cons_succ]
 refine wpAnyH_ready (rs := [2]) (by kernel_rfl) (by simp) ?_
 refine AllReadyH.cons (o := { dst := some 14, op := Op.call { callee := Callee.value (Operand.func 46), args := #[Operand.tmp 13], argTypes := #[2] }, type := 53, pos := "l04_conjugacy.go:86", after := #[{ on := 1, ground := Ground.data }], guard := none }) rfl (fun K hK => ?_) ?_
 ·go_simp
  refine (halfTurn_any m m8 _).mono ?_
  rintro e w2 ⟨rfl, gg⟩
  replace KB := Lib.hid (below_go KB.out gg KB.out.size)
  clear gg
  go_wp2_with fail
  refine hK.out _ _ ?_ (fun hHeld => ?_)
  ·with_reducible exact SH.out _ KB.out
  clear hK K
  try simp only [Act.put, List.setIfInBounds_toArray, List.set_cons_zero, List.set_cons_succ]
  refine wpAnyH_ready (rs := [5]) (by kernel_rfl) (by simp) ?_
  refine AllReadyH.cons (o := { dst := some 17, op := Op.call { callee := Callee.value (Operand.func 70), args := #[Operand.tmp 14, Operand.tmp 16], argTypes := #[53, 2] }, type := 2, pos := "l04_conjugacy.go:86", after := #[{ on := 2, ground := Ground.data }, { on := 4, ground := Ground.data }, { on := 2, ground := Ground.chain }], guard := none }) rfl (fun K hK => ?_) ?_
  ·go_simp
   refine (length_any m m8 (halfR m) (mapR_len _ _ m8) _).mono ?_
   rw [HLN.out]
   rintro e w3 ⟨rfl, gg⟩
   replace KB := Lib.hid (below_go KB.out gg KB.out.size)
   clear gg
   go_wp2_with fail
   refine hK.out _ _ ?_ (fun hHeld => ?_)
   ·with_reducible exact SH.out _ KB.out
   clear hK K
   try simp only [Act.put, List.setIfInBounds_toArray, List.set_cons_zero, List.set_cons_succ]
   refine wpAnyH_done (by kernel_rfl) ?_ _
   replace A := Lib.hid (A.out.below KB.out)
   replace Z := Lib.hid (Z.out.below KB.out)
   have hz3 : w.heap.size + 1 + 1 ≤ w3.heap.size := by have := KB.out.size; omega
   replace B := Lib.hid (below_go B.out KB.out (by omega))
   clear KB SH
   go_wp2_with fail
   go_loopg [18] c (fun g v wx => ∃ j y ak nk ck, j ≤ c ∧ g + j = c ∧ v = .int .i64 (j : Nat) ∧ At3 wx w.heap.size (.int .i64 m) (.int .i64 y.1) (.slice ak nk ck) ∧ ReadsA wx ak nk y.2 ∧ nk ≤ ck ∧ Got m (p, l) y ∧ riseN (cycS m) (upG (p, l)) (c - j) y = r ∧ At3 wx (w.heap.size + 1) (.int .i64 0) (.int .i64 0) (.slice none 0 0) ∧ Below w.heap.size w wx)
   case atStart => exact ⟨0, (p, l), a, n, cap, Nat.zero_le _, by omega, rfl, A.out, R.out.below B.out, hcap, Got.refl HL.out, HR.out, Z.out, B.out⟩
   case round =>
    obtain ⟨j, y, ak, nk, ck, hj, hgj, rfl, hA, hRd, hck, hgot, hri, hZ, hB⟩ := hrel
    clear A Z B
    have A := Lib.hid hA
    have Z := Lib.hid hZ
    have B := Lib.hid hB
    have RD := Lib.hid hRd
    have GT := Lib.hid hgot
    have RI := Lib.hid hri
    clear hA hZ hB hRd hgot hri
    obtain ⟨yp, yl⟩ := y
    dsimp only at A RD
    have hnk := RD.out.len
    have hg1 := GT.out.len
    have hg2 := GT.out.low
    have hg3 := GT.out.top
    dsimp only at hg1 hg2 hg3
    rw [HN.out] at hg1 hg3
    have hzr : w.heap.size < wr.heap.size := A.out.1
    have hzr2 : w.heap.size + 1 < wr.heap.size := Z.out.1
    obtain ⟨q1, q2, q3⟩ := A.out.all
    by_cases hlt : j < c
    ·have hc1 : (j : Int) < (c : Int) := by omega
     obtain ⟨e3, l3, h3⟩ : ∃ e3 l3, cycN m yp yl = (e3, l3) := ⟨_, _, rfl⟩
     have H3 := Lib.hid h3
     have G3 : Hid (Got m (p, l) (e3, l3)) := Lib.hid (by have := GT.out.cyc; unfold cycS at this; rw [h3] at this; exact this)
     have RI2 : Hid ((if upG (p, l) (e3, l3) = true then some (e3, l3) else riseN (cycS m) (upG (p, l)) (c - (j + 1)) (e3, l3)) = r) := Lib.hid (by have h := RI.out; rw [show c - j = (c - (j + 1)) + 1 by omega, riseN, show cycS m (yp, yl) = (e3, l3) from h3] at h; exact h)
     clear h3
     have hh1 := G3.out.len
     have hh2 := G3.out.low
     have hh3 := G3.out.top
     dsimp only at hh1 hh2 hh3
     rw [HN.out] at hh1 hh3
     go_wp2_with fail
     refine (cycled_any m m1 m8 yp (by omega) ak nk ck hck yl wr RD.out GT.out.nl (by omega) e3 l3 H3.out).mono ?_
     rintro e w5 ⟨a5, n5, c5, rfl, hc5, ho, gg⟩
     have hz5 : wr.heap.size ≤ w5.heap.size := gg.size
     have hn5 := ho.len
     replace A := Lib.hid (A.out.below gg)
     replace Z := Lib.hid (Z.out.below gg)
     replace B := Lib.hid (below_go B.out gg B.out.size)
     have O5 := Lib.hid (ho.past3 (ho.apart (g := w.heap.size) hzr) (.int .i64 m) (.int .i64 e3) (.slice a5 n5 c5))
     clear gg q1 q2 q3 ho
     have A2 := Lib.hid (A.out.fill (.int .i64 m) (.int .i64 e3) (.slice a5 n5 c5))
     replace Z := Lib.hid (Z.out.set3 (g2 := w.heap.size) (by omega) (.int .i64 m) (.int .i64 e3) (.slice a5 n5 c5))
     replace B := Lib.hid (below_set3 B.out (g2 := w.heap.size) (Nat.le_refl _) (.int .i64 m) (.int .i64 e3) (.slice a5 n5 c5))
     obtain ⟨x0, ⟨x1, x2, x3⟩, y1, y2, y3⟩ := A.out
     go_upto_region 5 with fail
     clear x0 x1 x2 x3 y1 y2 y3 A
     obtain ⟨V, hV⟩ : ∃ Vx, Vx = (((w5.setCell ⟨w.heap.size, 0, none⟩ (.int .i64 m)).setCell ⟨w.heap.size, 1, none⟩ (.int .i64 e3)).setCell ⟨w.heap.size, 2, none⟩ (.slice a5 n5 c5)) := ⟨_, rfl⟩
     rw [← hV] at A2 Z B O5 ⊢
     clear hV
     obtain ⟨q1, q2, q3⟩ := A2.out.all
     go_wp2_with fail
     refine (leastPower_any m e3 a5 n5 c5 _).mono ?_
     rintro e w6 ⟨rfl, gg⟩
     have hz6 : V.heap.size ≤ w6.heap.size := gg.size
     have A := Lib.hid (A2.out.below gg)
     replace Z := Lib.hid (Z.out.below gg)
     replace B := Lib.hid (below_go B.out gg B.out.size)
     replace O5 := Lib.hid (O5.out.below gg)
     clear gg q1 q2 q3 A2
     obtain ⟨q1, q2, q3⟩ := A.out.all
     by_cases hg : upG (p, l) (e3, l3) = true
     ·have hr2 := RI2.out
      rw [if_pos hg] at hr2
      have HR2 := Lib.hid hr2; clear hr2
      unfold upG at hg
      have hg' := of_decide_eq_true hg
      dsimp only at hg'
      clear hg
      have hgo : p < e3 := hg'
      obtain ⟨x0, ⟨x1, x2, x3⟩, y1, y2, y3⟩ := Z.out
      obtain ⟨_, ⟨z1, z2, z3⟩, _⟩ := Z.out.fill (.int .i64 m) (.int .i64 e3) (.slice a5 n5 c5)
      have OX := Lib.hid ((O5.out.past3 ((OwnS.apart (g := w.heap.size + 1) O5.out (by omega))) (.int .i64 m) (.int .i64 e3) (.slice a5 n5 c5)).mono (B' := w.heap.size) (by omega))
      have BX := Lib.hid (below_set3 B.out (g2 := w.heap.size + 1) (by omega) (.int .i64 m) (.int .i64 e3) (.slice a5 n5 c5))
      go_wp2
      try rw [Exit.noGoto_ret]
      refine bodyPost_ret (v := .tuple #[.agg #[.int .i64 m, .int .i64 e3, .slice a5 n5 c5], .bool true]) (by simp [results, Try.results49, go_sem, z1, z2, z3]) rfl ?_
      rw [← HR2.out]
      exact ⟨a5, n5, c5, rfl, hc5, OX.out, BX.out⟩
     ·have hr2 := RI2.out
      rw [if_neg hg] at hr2
      have HR2 := Lib.hid hr2; clear hr2
      unfold upG at hg
      have hg' := of_decide_eq_false (Bool.eq_false_iff.2 hg)
      dsimp only at hg'
      clear hg
      have hgo : ¬ p < e3 := hg'
      go_wp2
      go_roundg (gk - 1)
      case measure => omega
      case rel => exact ⟨j + 1, (e3, l3), a5, n5, c5, by omega, by omega, by go_num, A.out, O5.out.reads, hc5, G3.out, HR2.out, Z.out, B.out⟩
    ·have hjc : j = c := by omega
     have hr2 := RI.out
     rw [show c - j = 0 by omega, riseN] at hr2
     have HR2 := Lib.hid hr2; clear hr2
     have hc1 : ¬ (j : Int) < (c : Int) := by omega
     have HJ := Lib.hid hjc; clear hjc
     obtain ⟨x0, ⟨x1, x2, x3⟩, y1, y2, y3⟩ := Z.out
     obtain ⟨_, ⟨z1, z2, z3⟩, _⟩ := Z.out.fill (.int .i64 0) (.int .i64 0) (.slice none 0 0)
     go_wp2
     try rw [Exit.noGoto_ret]
     refine bodyPost_ret (v := .tuple #[.agg #[.int .i64 0, .int .i64 0, .slice none 0 0], .bool false]) (by simp [results, Try.results49, go_sem, z1, z2, z3]) rfl ?_
     rw [← HR2.out]
     exact ⟨rfl, below_set3 B.out (by omega) _ _ _⟩
  exact AllReadyH.nil
 exact AllReadyH.nil

set_option maxRecDepth 100000 in
set_option maxHeartbeats 1000000 in
theorem risenDown_any (m : Nat) (m1 : 1 ≤ m) (m8 : m ≤ 8) (p : Int) (hp : -2000 ≤ p ∧ p ≤ 2000) (a : Option Addr) (n cap : Nat) (hcap : n ≤ cap) (l : List (List Int)) (w : World) (hr : ReadsA w a n l) (hl : Nl m l) (hn : n ≤ 1000) (r : Option (Int × List (List Int))) (hR : downN m (stepsN m) (p, l) = r) :
  Calls Try.prog 49 #[.agg #[.int .i64 m, .int .i64 p, .slice a n cap], .func (.func 52) #[] #[], .func (.func 53) #[] #[]] w (RisenPost w m r) := by
 have HN := Lib.hid hr.len
 have R := Lib.hid hr
 have HL := Lib.hid hl
 have HR := Lib.hid hR
 clear hr hl hR
 have hst := stepsN_le m8
 obtain ⟨c, hc⟩ : ∃ c, c = stepsN m := ⟨_, rfl⟩
 have HLN : Hid (lenR (halfR m) m = (c : Int)) := Lib.hid (by rw [hc]; exact half_len m8)
 rw [← hc] at HR hst
 clear hc
 go_enter Try.func49, Try.ntmps49
 have A := Lib.hid ((At3.place w (.int .i64 m) (.int .i64 p) (.slice a n cap) 28 w.heap.size rfl).alloc (.cells #[.int .i64 0, .int .i64 0, .slice none 0 0] 28))
 have Z := Lib.hid (At3.place (w.alloc (.cells #[.int .i64 m, .int .i64 p, .slice a n cap] 28)) (.int .i64 0) (.int .i64 0) (.slice none 0 0) 28 (w.heap.size + 1) (by simp))
 have B := Lib.hid ((below1 w (.cells #[.int .i64 m, .int .i64 p, .slice a n cap] 28)).alloc (by simp) (.cells #[.int .i64 0, .int .i64 0, .slice none 0 0] 28))
 have zz : Hid (((w.alloc (.cells #[.int .i64 m, .int .i64 p, .slice a n cap] 28)).alloc (.cells #[.int .i64 0, .int .i64 0, .slice none 0 0] 28)).heap.size = w.heap.size + 1 + 1) := Lib.hid (by simp)
 obtain ⟨q1, q2, q3⟩ := A.out.all
 go_wp2_with fail
 refine (depth_any m p a n cap _ (by omega) (by omega)).mono ?_
 rintro e w1 ⟨rfl, gg⟩
 have hz1 : w.heap.size + 1 + 1 ≤ w1.heap.size := by rw [← zz.out]; exact gg.size
 replace A := Lib.hid (A.out.below gg)
 replace Z := Lib.hid (Z.out.below gg)
 replace B := Lib.hid (below_go B.out gg B.out.size)
 clear gg q1 q2 q3
 go_upto_region 2 with fail
 have KB : Hid (Below w1.heap.size w1 w1.drew) := Lib.hid (Below.refl w1.heap.size w1).drew
 have SH : Hid (∀ W, Below w1.heap.size w1 W → W.cell? ⟨w.heap.size, 0, none⟩ = some (.int .i64 m) ∧ W.cell? ⟨w.heap.size, 1, none⟩ = some (.int .i64 p) ∧ W.cell? ⟨w.heap.size, 2, none⟩ = some (.slice a n cap)) := Lib.hid fun W h => (A.out.below h).all
 refine wp_region_held_drew (S := (fun w' => w'.cell? ⟨w.heap.size, 0, none⟩ = some (.int .i64 m) ∧ w'.cell? ⟨w.heap.size, 1, none⟩ = some (.int .i64 p) ∧ w'.cell? ⟨w.heap.size, 2, none⟩ = some (.slice a n cap))) (by kernel_rfl) ?_ (fun hHeld => ?_)
 ·with_reducible exact SH.out _ KB.out
 refine wpAnyH_take (i := 0) (oi := { dst := some 12, op := Op.fieldAddr 28 (Operand.tmp 3) 0, type := 0, pos := "l04_conjugacy.go:86", after := #[], guard := none }) (v := ?_) rfl (by kernel_rfl) (by kernel_rfl) (by kernel_rfl) (fun _ _ _ h => h) (Or.inl ⟨by rfl, ?_⟩) (by assumption) ?_
 rotate_left
 ·intro w hSw
  (try dsimp only at hSw)
  go_simp
  try with_reducible rfl
 try simp only [Act.put, List.setIfInBounds_toArray, List.set_cons_zero, List.set_cons_succ]
 refine wpAnyH_take (i := 1) (oi := { dst := some 13, op := Op.load 2 (Operand.tmp 12), type := 2, pos := "l04_conjugacy.go:86", after := #[{ on := 0, ground := Ground.data }], guard := none }) (v := ?_) rfl (by kernel_rfl) (by kernel_rfl) (by kernel_rfl) (fun _ _ _ h => h) (Or.inl ⟨by rfl, ?_⟩) (by assumption) ?_
 rotate_left
 ·intro w hSw
  (try dsimp only at hSw)
  go_simp
  try with_reducible rfl
 try simp only [Act.put, List.setIfInBounds_toArray, List.set_cons_zero, List.set_cons_succ]
 refine wpAnyH_take (i := 3) (oi := { dst := some 15, op := Op.fieldAddr 28 (Operand.tmp 3) 0, type := 0, pos := "l04_conjugacy.go:86", after := #[], guard := none }) (v := ?_) rfl (by kernel_rfl) (by kernel_rfl) (by kernel_rfl) (fun _ _ _ h => h) (Or.inl ⟨by rfl, ?_⟩) (by assumption) ?_
 rotate_left
 ·intro w hSw
  (try dsimp only at hSw)
  go_simp
  try with_reducible rfl
 try simp only [Act.put, List.setIfInBounds_toArray, List.set_cons_zero, List.set_cons_succ]
 refine wpAnyH_take (i := 4) (oi := { dst := some 16, op := Op.load 2 (Operand.tmp 15), type := 2, pos := "l04_conjugacy.go:86", after := #[{ on := 3, ground := Ground.data }], guard := none }) (v := ?_) rfl (by kernel_rfl) (by kernel_rfl) (by kernel_rfl) (fun _ _ _ h => h) (Or.inl ⟨by rfl, ?_⟩) (by assumption) ?_
 rotate_left
 ·intro w hSw
  (try dsimp only at hSw)
  go_simp
  try with_reducible rfl
 try simp only [Act.put, List.setIfInBounds_toArray, List.set_cons_zero, List.set_cons_succ]
 refine wpAnyH_take (i := 6) (oi := { dst := some 18, op := Op.move (Operand.const (Value.int IntKind.i64 0)), type := 2, pos := "l04_conjugacy.go:86", after := #[], guard := none }) (v := ?_) rfl (by kernel_rfl) (by kernel_rfl) (by kernel_rfl) (fun _ _ _ h => h) (Or.inl ⟨by rfl, ?_⟩) (by assumption) ?_
 rotate_left
 ·intro w hSw
  (try dsimp only at hSw)
  go_simp
  try with_reducible rfl
 try simp only [Act.put, List.setIfInBounds_toArray, List.set_cons_zero, List.set_cons_succ]
 refine wpAnyH_ready (rs := [2]) (by kernel_rfl) (by simp) ?_
 refine AllReadyH.cons (o := { dst := some 14, op := Op.call { callee := Callee.value (Operand.func 46), args := #[Operand.tmp 13], argTypes := #[2] }, type := 53, pos := "l04_conjugacy.go:86", after := #[{ on := 1, ground := Ground.data }], guard := none }) rfl (fun K hK => ?_) ?_
 ·go_simp
  refine (halfTurn_any m m8 _).mono ?_
  rintro e w2 ⟨rfl, gg⟩
  replace KB := Lib.hid (below_go KB.out gg KB.out.size)
  clear gg
  go_wp2_with fail
  refine hK.out _ _ ?_ (fun hHeld => ?_)
  ·with_reducible exact SH.out _ KB.out
  clear hK K
  try simp only [Act.put, List.setIfInBounds_toArray, List.set_cons_zero, List.set_cons_succ]
  refine wpAnyH_ready (rs := [5]) (by kernel_rfl) (by simp) ?_
  refine AllReadyH.cons (o := { dst := some 17, op := Op.call { callee := Callee.value (Operand.func 70), args := #[Operand.tmp 14, Operand.tmp 16], argTypes := #[53, 2] }, type := 2, pos := "l04_conjugacy.go:86", after := #[{ on := 2, ground := Ground.data }, { on := 4, ground := Ground.data }, { on := 2, ground := Ground.chain }], guard := none }) rfl (fun K hK => ?_) ?_
  ·go_simp
   refine (length_any m m8 (halfR m) (mapR_len _ _ m8) _).mono ?_
   rw [HLN.out]
   rintro e w3 ⟨rfl, gg⟩
   replace KB := Lib.hid (below_go KB.out gg KB.out.size)
   clear gg
   go_wp2_with fail
   refine hK.out _ _ ?_ (fun hHeld => ?_)
   ·with_reducible exact SH.out _ KB.out
   clear hK K
   try simp only [Act.put, List.setIfInBounds_toArray, List.set_cons_zero, List.set_cons_succ]
   refine wpAnyH_done (by kernel_rfl) ?_ _
   replace A := Lib.hid (A.out.below KB.out)
   replace Z := Lib.hid (Z.out.below KB.out)
   have hz3 : w.heap.size + 1 + 1 ≤ w3.heap.size := by have := KB.out.size; omega
   replace B := Lib.hid (below_go B.out KB.out (by omega))
   clear KB SH
   go_wp2_with fail
   go_loopg [18] c (fun g v wx => ∃ j y ak nk ck, j ≤ c ∧ g + j = c ∧ v = .int .i64 (j : Nat) ∧ At3 wx w.heap.size (.int .i64 m) (.int .i64 y.1) (.slice ak nk ck) ∧ ReadsA wx ak nk y.2 ∧ nk ≤ ck ∧ Got m (p, l) y ∧ riseN (decS m) (downG (p, l)) (c - j) y = r ∧ At3 wx (w.heap.size + 1) (.int .i64 0) (.int .i64 0) (.slice none 0 0) ∧ Below w.heap.size w wx)
   case atStart => exact ⟨0, (p, l), a, n, cap, Nat.zero_le _, by omega, rfl, A.out, R.out.below B.out, hcap, Got.refl HL.out, HR.out, Z.out, B.out⟩
   case round =>
    obtain ⟨j, y, ak, nk, ck, hj, hgj, rfl, hA, hRd, hck, hgot, hri, hZ, hB⟩ := hrel
    clear A Z B
    have A := Lib.hid hA
    have Z := Lib.hid hZ
    have B := Lib.hid hB
    have RD := Lib.hid hRd
    have GT := Lib.hid hgot
    have RI := Lib.hid hri
    clear hA hZ hB hRd hgot hri
    obtain ⟨yp, yl⟩ := y
    dsimp only at A RD
    have hnk := RD.out.len
    have hg1 := GT.out.len
    have hg2 := GT.out.low
    have hg3 := GT.out.top
    dsimp only at hg1 hg2 hg3
    rw [HN.out] at hg1 hg3
    have hzr : w.heap.size < wr.heap.size := A.out.1
    have hzr2 : w.heap.size + 1 < wr.heap.size := Z.out.1
    obtain ⟨q1, q2, q3⟩ := A.out.all
    by_cases hlt : j < c
    ·have hc1 : (j : Int) < (c : Int) := by omega
     obtain ⟨e3, l3, h3⟩ : ∃ e3 l3, decN m yp yl = (e3, l3) := ⟨_, _, rfl⟩
     have H3 := Lib.hid h3
     have G3 : Hid (Got m (p, l) (e3, l3)) := Lib.hid (by have := GT.out.dec; unfold decS at this; rw [h3] at this; exact this)
     have RI2 : Hid ((if downG (p, l) (e3, l3) = true then some (e3, l3) else riseN (decS m) (downG (p, l)) (c - (j + 1)) (e3, l3)) = r) := Lib.hid (by have h := RI.out; rw [show c - j = (c - (j + 1)) + 1 by omega, riseN, show decS m (yp, yl) = (e3, l3) from h3] at h; exact h)
     clear h3
     have hh1 := G3.out.len
     have hh2 := G3.out.low
     have hh3 := G3.out.top
     dsimp only at hh1 hh2 hh3
     rw [HN.out] at hh1 hh3
     go_wp2_with fail
     refine (decycled_any m m1 m8 yp (by omega) ak nk ck hck yl wr RD.out GT.out.nl (by omega) e3 l3 H3.out).mono ?_
     rintro e w5 ⟨a5, n5, c5, rfl, hc5, ho, gg⟩
     have hz5 : wr.heap.size ≤ w5.heap.size := gg.size
     have hn5 := ho.len
     replace A := Lib.hid (A.out.below gg)
     replace Z := Lib.hid (Z.out.below gg)
     replace B := Lib.hid (below_go B.out gg B.out.size)
     have O5 := Lib.hid (ho.past3 (ho.apart (g := w.heap.size) hzr) (.int .i64 m) (.int .i64 e3) (.slice a5 n5 c5))
     clear gg q1 q2 q3 ho
     have A2 := Lib.hid (A.out.fill (.int .i64 m) (.int .i64 e3) (.slice a5 n5 c5))
     replace Z := Lib.hid (Z.out.set3 (g2 := w.heap.size) (by omega) (.int .i64 m) (.int .i64 e3) (.slice a5 n5 c5))
     replace B := Lib.hid (below_set3 B.out (g2 := w.heap.size) (Nat.le_refl _) (.int .i64 m) (.int .i64 e3) (.slice a5 n5 c5))
     obtain ⟨x0, ⟨x1, x2, x3⟩, y1, y2, y3⟩ := A.out
     go_upto_region 5 with fail
     clear x0 x1 x2 x3 y1 y2 y3 A
     obtain ⟨V, hV⟩ : ∃ Vx, Vx = (((w5.setCell ⟨w.heap.size, 0, none⟩ (.int .i64 m)).setCell ⟨w.heap.size, 1, none⟩ (.int .i64 e3)).setCell ⟨w.heap.size, 2, none⟩ (.slice a5 n5 c5)) := ⟨_, rfl⟩
     rw [← hV] at A2 Z B O5 ⊢
     clear hV
     obtain ⟨q1, q2, q3⟩ := A2.out.all
     go_wp2_with fail
     refine (depth_any m e3 a5 n5 c5 _ (by omega) (by omega)).mono ?_
     rintro e w6 ⟨rfl, gg⟩
     have hz6 : V.heap.size ≤ w6.heap.size := gg.size
     have A := Lib.hid (A2.out.below gg)
     replace Z := Lib.hid (Z.out.below gg)
     replace B := Lib.hid (below_go B.out gg B.out.size)
     replace O5 := Lib.hid (O5.out.below gg)
     clear gg q1 q2 q3 A2
     obtain ⟨q1, q2, q3⟩ := A.out.all
     by_cases hg : downG (p, l) (e3, l3) = true
     ·have hr2 := RI2.out
      rw [if_pos hg] at hr2
      have HR2 := Lib.hid hr2; clear hr2
      unfold downG at hg
      have hg' := of_decide_eq_true hg
      dsimp only at hg'
      clear hg
      rw [hn5, HN.out] at hg'
      have hgo : -p - (n : Int) < -e3 - (n5 : Int) := by omega
      obtain ⟨x0, ⟨x1, x2, x3⟩, y1, y2, y3⟩ := Z.out
      obtain ⟨_, ⟨z1, z2, z3⟩, _⟩ := Z.out.fill (.int .i64 m) (.int .i64 e3) (.slice a5 n5 c5)
      have OX := Lib.hid ((O5.out.past3 ((OwnS.apart (g := w.heap.size + 1) O5.out (by omega))) (.int .i64 m) (.int .i64 e3) (.slice a5 n5 c5)).mono (B' := w.heap.size) (by omega))
      have BX := Lib.hid (below_set3 B.out (g2 := w.heap.size + 1) (by omega) (.int .i64 m) (.int .i64 e3) (.slice a5 n5 c5))
      go_wp2
      try rw [Exit.noGoto_ret]
      refine bodyPost_ret (v := .tuple #[.agg #[.int .i64 m, .int .i64 e3, .slice a5 n5 c5], .bool true]) (by simp [results, Try.results49, go_sem, z1, z2, z3]) rfl ?_
      rw [← HR2.out]
      exact ⟨a5, n5, c5, rfl, hc5, OX.out, BX.out⟩
     ·have hr2 := RI2.out
      rw [if_neg hg] at hr2
      have HR2 := Lib.hid hr2; clear hr2
      unfold downG at hg
      have hg' := of_decide_eq_false (Bool.eq_false_iff.2 hg)
      dsimp only at hg'
      clear hg
      rw [hn5, HN.out] at hg'
      have hgo : ¬ -p - (n : Int) < -e3 - (n5 : Int) := by omega
      go_wp2
      go_roundg (gk - 1)
      case measure => omega
      case rel => exact ⟨j + 1, (e3, l3), a5, n5, c5, by omega, by omega, by go_num, A.out, O5.out.reads, hc5, G3.out, HR2.out, Z.out, B.out⟩
    ·have hjc : j = c := by omega
     have hr2 := RI.out
     rw [show c - j = 0 by omega, riseN] at hr2
     have HR2 := Lib.hid hr2; clear hr2
     have hc1 : ¬ (j : Int) < (c : Int) := by omega
     have HJ := Lib.hid hjc; clear hjc
     obtain ⟨x0, ⟨x1, x2, x3⟩, y1, y2, y3⟩ := Z.out
     obtain ⟨_, ⟨z1, z2, z3⟩, _⟩ := Z.out.fill (.int .i64 0) (.int .i64 0) (.slice none 0 0)
     go_wp2
     try rw [Exit.noGoto_ret]
     refine bodyPost_ret (v := .tuple #[.agg #[.int .i64 0, .int .i64 0, .slice none 0 0], .bool false]) (by simp [results, Try.results49, go_sem, z1, z2, z3]) rfl ?_
     rw [← HR2.out]
     exact ⟨rfl, below_set3 B.out (by omega) _ _ _⟩
  exact AllReadyH.nil
 exact AllReadyH.nil

set_option maxRecDepth 100000 in
set_option maxHeartbeats 1000000 in
theorem summit_any (m : Nat) (m1 : 1 ≤ m) (m8 : m ≤ 8) (p : Int) (hp : -1000 ≤ p ∧ p ≤ 1000) (a : Option Addr) (n cap : Nat) (l : List (List Int)) (w : World) (hr : ReadsA w a n l) (hl : Nl m l) (hn : n ≤ 1000) (e : Int) (kf : List (List Int)) (hM : summitN m (stepsN m) n (p, l) = (e, kf)) :
  Calls Try.prog 28 #[.agg #[.int .i64 m, .int .i64 p, .slice a n cap]] w (RetNS w.heap.size w m e kf) := by
 have HN := Lib.hid hr.len
 have HRR := Lib.hid hr
 have HL := Lib.hid hl
 have HM := Lib.hid hM
 clear hr hl hM
 go_enter Try.func28, Try.ntmps28
 have A := Lib.hid ((At3.place w (.int .i64 m) (.int .i64 p) (.slice a n cap) 28 w.heap.size rfl).alloc (.cells #[.int .i64 0, .int .i64 0, .slice none 0 0] 28))
 have Z := Lib.hid (At3.place (w.alloc (.cells #[.int .i64 m, .int .i64 p, .slice a n cap] 28)) (.int .i64 0) (.int .i64 0) (.slice none 0 0) 28 (w.heap.size + 1) (by simp))
 have B := Lib.hid ((below1 w (.cells #[.int .i64 m, .int .i64 p, .slice a n cap] 28)).alloc (by simp) (.cells #[.int .i64 0, .int .i64 0, .slice none 0 0] 28))
 have zz : Hid (((w.alloc (.cells #[.int .i64 m, .int .i64 p, .slice a n cap] 28)).alloc (.cells #[.int .i64 0, .int .i64 0, .slice none 0 0] 28)).heap.size = w.heap.size + 1 + 1) := Lib.hid (by simp)
 obtain ⟨q1, q2, q3⟩ := A.out.all
 go_wp2_with fail
 refine (copied2_any m p a n cap l _ (HRR.out.below B.out) (by omega)).mono ?_
 rintro e w1 ⟨a1, d1, rfl, hd1, ho, gg⟩
 have hz1 : w.heap.size + 1 + 1 ≤ w1.heap.size := by rw [← zz.out]; exact gg.size
 replace Z := Lib.hid (Z.out.below gg)
 replace B := Lib.hid (below_go B.out gg B.out.size)
 obtain ⟨gs, hgs⟩ : ∃ gs, gs = w1.heap.size := ⟨_, rfl⟩
 have SB := Lib.hid (At3.place w1 (.int .i64 m) (.int .i64 p) (.slice a1 n d1) 28 gs hgs.symm)
 have OS : Hid (OwnS (w.heap.size + 1 + 1) w1 a1 n l) := Lib.hid (ho.mono (by rw [zz.out]; omega))
 have AP := Lib.hid (OS.out.apartHi (g := gs) (by omega))
 replace OS := Lib.hid (OS.out.alloc (.cells #[.int .i64 m, .int .i64 p, .slice a1 n d1] 28))
 replace Z := Lib.hid (Z.out.alloc (.cells #[.int .i64 m, .int .i64 p, .slice a1 n d1] 28))
 replace B := Lib.hid (B.out.alloc B.out.size (.cells #[.int .i64 m, .int .i64 p, .slice a1 n d1] 28))
 have hgs2 : w.heap.size + 1 + 1 ≤ gs := by omega
 clear gg ho q1 q2 q3 A
 go_wp2
 rw [← hgs]
 clear hgs
 go_loopg [] n (fun g wx => ∃ x ak nk ck, x.2.length ≤ g ∧ At3 wx gs (.int .i64 m) (.int .i64 x.1) (.slice ak nk ck) ∧ OwnS (w.heap.size + 1 + 1) wx ak nk x.2 ∧ (nk = 0 ∨ ∀ y, ak = some y → y.block ≠ gs) ∧ nk ≤ ck ∧ Got m (p, l) x ∧ summitN m (stepsN m) g x = (e, kf) ∧ At3 wx (w.heap.size + 1) (.int .i64 0) (.int .i64 0) (.slice none 0 0) ∧ Below w.heap.size w wx)
 case atStart => exact ⟨(p, l), a1, n, d1, by dsimp only; rw [HN.out]; exact Nat.le_refl _, SB.out, OS.out, AP.out, hd1, Got.refl HL.out, HM.out, Z.out, B.out⟩
 case round =>
  obtain ⟨⟨xp, xl⟩, ak, nk, ck, hlen, hS, hO, hAp, hck, hgot, hsum, hZ, hB⟩ := hrel
  clear SB OS Z B AP
  have SB := Lib.hid hS
  have OS := Lib.hid hO
  have AP := Lib.hid hAp
  have GT := Lib.hid hgot
  have SM := Lib.hid hsum
  have Z := Lib.hid hZ
  have B := Lib.hid hB
  clear hS hO hAp hgot hsum hZ hB
  dsimp only at SB OS hlen
  have hnk := OS.out.len
  have hg1 := GT.out.len
  have hg2 := GT.out.low
  have hg3 := GT.out.top
  dsimp only at hg1 hg2 hg3
  rw [HN.out] at hg1 hg3
  have hzr : gs < wr.heap.size := SB.out.1
  obtain ⟨q1, q2, q3⟩ := SB.out.all
  obtain ⟨r1, hr1⟩ : ∃ r1, upN m (stepsN m) (xp, xl) = r1 := ⟨_, rfl⟩
  have HR1 := Lib.hid hr1
  clear hr1
  go_wp2_with fail
  refine (risenUp_any m m1 m8 xp (by omega) ak nk ck hck xl wr OS.out.reads GT.out.nl (by omega) r1 HR1.out).mono ?_
  intro e2 w2 hpost
  cases r1 with
  | some y =>
   obtain ⟨yp, yl⟩ := y
   obtain ⟨b, nb, db, rfl, hnd, ho, gg⟩ := hpost
   dsimp only at ho
   have hz2 : wr.heap.size ≤ w2.heap.size := gg.size
   obtain ⟨hgy, hly⟩ := upN_some GT.out.nl HR1.out
   dsimp only at hly
   have GY := Lib.hid hgy
   have hap := ho.apart (g := gs) hzr
   replace SB := Lib.hid ((SB.out.below gg).alloc (.cells #[.int .i64 m, .int .i64 yp, .slice b nb db] 28))
   replace Z := Lib.hid ((Z.out.below gg).alloc (.cells #[.int .i64 m, .int .i64 yp, .slice b nb db] 28))
   replace B := Lib.hid ((below_go B.out gg B.out.size).alloc (by omega) (.cells #[.int .i64 m, .int .i64 yp, .slice b nb db] 28))
   have O2 := Lib.hid ((ho.alloc (.cells #[.int .i64 m, .int .i64 yp, .slice b nb db] 28)).mono (B' := w.heap.size + 1 + 1) (by omega))
   have NB := Lib.hid (At3.place w2 (.int .i64 m) (.int .i64 yp) (.slice b nb db) 28 w2.heap.size rfl)
   clear gg ho q1 q2 q3 hgy
   go_upto_region 3 with fail
   obtain ⟨V, hV⟩ : ∃ Vx, Vx = w2.alloc (.cells #[.int .i64 m, .int .i64 yp, .slice b nb db] 28) := ⟨_, rfl⟩
   rw [← hV] at SB Z B O2 NB ⊢
   clear hV
   obtain ⟨q1, q2, q3⟩ := NB.out.all
   obtain ⟨x0, ⟨x1, x2, x3⟩, y1, y2, y3⟩ := SB.out
   have hdec : gk = (gk - 1) + 1 := by omega
   have SM2 : Hid (summitN m (stepsN m) (gk - 1) (yp, yl) = (e, kf)) := Lib.hid (by have h := SM.out; rw [hdec, summitN_up HR1.out] at h; exact h)
   clear hdec
   go_wp2
   go_roundg (gk - 1)
   case measure => omega
   case rel => exact ⟨(yp, yl), b, nb, db, by dsimp only; omega, SB.out.fill _ _ _, O2.out.past3 hap _ _ _, hap, hnd, GT.out.trans GY.out, SM2.out, Z.out.set3 (g2 := gs) (by omega) _ _ _, below_set3 B.out (g2 := gs) (by omega) _ _ _⟩
  | none =>
   obtain ⟨rfl, gg⟩ := hpost
   have hz2 : wr.heap.size ≤ w2.heap.size := gg.size
   have OSR := OS
   replace SB := Lib.hid ((SB.out.below gg).alloc (.cells #[.int .i64 0, .int .i64 0, .slice none 0 0] 28))
   replace OS := Lib.hid ((OS.out.below gg).alloc (.cells #[.int .i64 0, .int .i64 0, .slice none 0 0] 28))
   replace Z := Lib.hid ((Z.out.below gg).alloc (.cells #[.int .i64 0, .int .i64 0, .slice none 0 0] 28))
   replace B := Lib.hid ((below_go B.out gg B.out.size).alloc (by omega) (.cells #[.int .i64 0, .int .i64 0, .slice none 0 0] 28))
   have NB := Lib.hid (At3.place w2 (.int .i64 0) (.int .i64 0) (.slice none 0 0) 28 w2.heap.size rfl)
   clear gg q1 q2 q3
   go_upto_region 3 with fail
   obtain ⟨V, hV⟩ : ∃ Vx, Vx = w2.alloc (.cells #[.int .i64 0, .int .i64 0, .slice none 0 0] 28) := ⟨_, rfl⟩
   have hVz : V.heap.size = w2.heap.size + 1 := by rw [hV]; simp
   obtain ⟨g4, hg4⟩ : ∃ g4, g4 = w2.heap.size := ⟨_, rfl⟩
   have AP4 : Hid (nk = 0 ∨ ∀ y, ak = some y → y.block ≠ g4) := Lib.hid (OSR.out.apartHi (by omega))
   have HVZ : Hid (g4 < V.heap.size ∧ wr.heap.size ≤ g4) := Lib.hid (by omega)
   rw [← hV] at SB OS Z B NB ⊢
   rw [← hg4] at NB ⊢
   clear hV hVz hg4 OSR
   have hv1 := HVZ.out.1
   have hv2 := HVZ.out.2
   obtain ⟨q1, q2, q3⟩ := SB.out.all
   obtain ⟨r2, hr2⟩ : ∃ r2, downN m (stepsN m) (xp, xl) = r2 := ⟨_, rfl⟩
   have HR2 := Lib.hid hr2
   clear hr2
   go_wp2_with fail
   refine (risenDown_any m m1 m8 xp (by omega) ak nk ck hck xl V OS.out.reads GT.out.nl (by omega) r2 HR2.out).mono ?_
   intro e3 w3 hpost
   cases r2 with
   | some y =>
    obtain ⟨yp, yl⟩ := y
    obtain ⟨b, nb, db, rfl, hnd, ho, gg⟩ := hpost
    dsimp only at ho
    have hz3 : V.heap.size ≤ w3.heap.size := gg.size
    obtain ⟨hgy, hly⟩ := downN_some GT.out.nl HR2.out
    dsimp only at hly
    have GY := Lib.hid hgy
    have hap := ho.apart (g := gs) (by omega)
    have hap4 := ho.apart (g := g4) hv1
    replace SB := Lib.hid ((SB.out.below gg).set3 (g2 := g4) (by omega) (.int .i64 m) (.int .i64 yp) (.slice b nb db))
    replace Z := Lib.hid ((Z.out.below gg).set3 (g2 := g4) (by omega) (.int .i64 m) (.int .i64 yp) (.slice b nb db))
    replace B := Lib.hid (below_set3 (below_go B.out gg B.out.size) (g2 := g4) (by omega) (.int .i64 m) (.int .i64 yp) (.slice b nb db))
    have O2 := Lib.hid ((ho.past3 hap4 (.int .i64 m) (.int .i64 yp) (.slice b nb db)).mono (B' := w.heap.size + 1 + 1) (by omega))
    replace NB := Lib.hid (NB.out.below gg)
    clear gg ho q1 q2 q3 hgy
    obtain ⟨x0, ⟨x1, x2, x3⟩, y1, y2, y3⟩ := NB.out
    have NB2 := Lib.hid (NB.out.fill (.int .i64 m) (.int .i64 yp) (.slice b nb db))
    go_upto_region 5 with fail
    obtain ⟨V2, hV2⟩ : ∃ Vx, Vx = (((w3.setCell ⟨g4, 0, none⟩ (.int .i64 m)).setCell ⟨g4, 1, none⟩ (.int .i64 yp)).setCell ⟨g4, 2, none⟩ (.slice b nb db)) := ⟨_, rfl⟩
    rw [← hV2] at SB Z B O2 NB2 ⊢
    clear hV2 x0 x1 x2 x3 y1 y2 y3 NB
    obtain ⟨q1, q2, q3⟩ := NB2.out.all
    obtain ⟨x0, ⟨x1, x2, x3⟩, y1, y2, y3⟩ := SB.out
    have hdec : gk = (gk - 1) + 1 := by omega
    have SM2 : Hid (summitN m (stepsN m) (gk - 1) (yp, yl) = (e, kf)) := Lib.hid (by have h := SM.out; rw [hdec, summitN_down HR1.out HR2.out] at h; exact h)
    clear hdec
    go_wp2
    go_roundg (gk - 1)
    case measure => omega
    case rel => exact ⟨(yp, yl), b, nb, db, by dsimp only; omega, SB.out.fill _ _ _, O2.out.past3 hap _ _ _, hap, hnd, GT.out.trans GY.out, SM2.out, Z.out.set3 (g2 := gs) (by omega) _ _ _, below_set3 B.out (g2 := gs) (by omega) _ _ _⟩
   | none =>
    obtain ⟨rfl, gg⟩ := hpost
    have hz3 : V.heap.size ≤ w3.heap.size := gg.size
    have hend := SM.out
    rw [summitN_end HR1.out HR2.out] at hend
    simp only [Prod.mk.injEq] at hend
    obtain ⟨rfl, rfl⟩ := hend
    have SB2 := Lib.hid ((SB.out.below gg).set3 (g2 := g4) (by omega) (.int .i64 0) (.int .i64 0) (.slice none 0 0))
    have Z2 := Lib.hid ((Z.out.below gg).set3 (g2 := g4) (by omega) (.int .i64 0) (.int .i64 0) (.slice none 0 0))
    have B2 := Lib.hid (below_set3 (below_go B.out gg B.out.size) (g2 := g4) (by omega) (.int .i64 0) (.int .i64 0) (.slice none 0 0))
    have O2 := Lib.hid ((OS.out.below gg).past3 AP4.out (.int .i64 0) (.int .i64 0) (.slice none 0 0))
    replace NB := Lib.hid (NB.out.below gg)
    clear gg q1 q2 q3 SB Z B
    obtain ⟨x0, ⟨x1, x2, x3⟩, y1, y2, y3⟩ := NB.out
    go_upto_region 5 with fail
    obtain ⟨V2, hV2⟩ : ∃ Vx, Vx = (((w3.setCell ⟨g4, 0, none⟩ (.int .i64 0)).setCell ⟨g4, 1, none⟩ (.int .i64 0)).setCell ⟨g4, 2, none⟩ (.slice none 0 0)) := ⟨_, rfl⟩
    rw [← hV2] at SB2 Z2 B2 O2 ⊢
    clear hV2 x0 x1 x2 x3 y1 y2 y3 NB
    obtain ⟨q1, q2, q3⟩ := SB2.out.all
    obtain ⟨x0, ⟨x1, x2, x3⟩, y1, y2, y3⟩ := Z2.out
    obtain ⟨_, ⟨z1, z2, z3⟩, _⟩ := Z2.out.fill (.int .i64 m) (.int .i64 xp) (.slice ak nk ck)
    go_wp2
    try rw [Exit.noGoto_ret]
    exact bodyPost_ret (v := .agg #[.int .i64 m, .int .i64 xp, .slice ak nk ck]) (by simp [results, Try.results28, go_sem, z1, z2, z3]) rfl ⟨ak, nk, ck, rfl, hck, (O2.out.set3 (g2 := w.heap.size + 1) (by omega) _ _ _).mono (by omega), below_set3 B2.out (by omega) _ _ _⟩

end Go.Proofs.Ytpkhddndapcpjaa

