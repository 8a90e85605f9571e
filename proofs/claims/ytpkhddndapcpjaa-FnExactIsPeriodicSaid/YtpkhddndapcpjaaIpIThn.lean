/- The program: a normal form with one simple braid behind it. -/
import Derived.Test.YtpkhddndapcpjaaIpITrm
import Derived.Test.YtpkhddndapcpjaaIpIWbh
import Derived.Test.YtpkhddndapcpjaaIpIWgh
namespace Go.Proofs.Ytpkhddndapcpjaa
open Go.RowKit Go.ChangeShapes

theorem weigh_both (n : Nat) (a x : List Int) (sa : Sim n a) (sx : Sim n x) (w : World) :
  Calls Try.prog 68 #[arr8 .u8 a, arr8 .u8 x, .int .i64 n] w (RetTwo w (both n a x).1 (both n a x).2) := by
 have h := weigh_any n a x sa sx w
 rw [(weighR_meet sa sx).1, (weighR_meet sa sx).2] at h
 exact h

set_option maxRecDepth 100000 in
set_option maxHeartbeats 4000000 in
theorem thenSimple_any (m : Nat) (m2 : 1 < m) (m8 : m ≤ 8) (p : Int) (hp : -1000000 ≤ p ∧ p ≤ 1000000) (a : Option Addr) (n cap : Nat) (l : List (List Int)) (s : List Int) (w : World) (hr : ReadsA w a n l) (hcap : n ≤ cap) (hl : Nl m l) (hss : Sim m s) (hn : n ≤ 100000)
  (q : Int) (kf : List (List Int)) (hM : mkN m p (l ++ [s]) = (q, kf)) :
  Calls Try.prog 57 #[.agg #[.int .i64 m, .int .i64 p, .slice a n cap], arr8 .u8 s] w (RetNS w.heap.size w m q kf) := by
 have HL := Lib.hid hl; clear hl
 have SS := Lib.hid hss; clear hss
 have HMK : Hid (trimR m p (sweep m l.reverse s).reverse = (q, kf)) := Lib.hid (by rw [then_simple m2 m8 p HL.out SS.out]; exact hM)
 clear hM
 have HN := Lib.hid hr.len
 have Rd := Lib.hid hr
 clear hr
 have hlen := Lib.hid SS.out.len
 go_enter Try.func57, Try.ntmps57
 have A := Lib.hid (((At3.place w (.int .i64 m) (.int .i64 p) (.slice a n cap) 28 w.heap.size rfl).alloc (.cells #[.int .u8 (at8 s 0), .int .u8 (at8 s 1), .int .u8 (at8 s 2), .int .u8 (at8 s 3), .int .u8 (at8 s 4), .int .u8 (at8 s 5), .int .u8 (at8 s 6), .int .u8 (at8 s 7)] 53)).alloc (.cells #[.int .i64 0, .int .i64 0, .slice none 0 0] 28))
 have X := Lib.hid ((Row8.place (w.alloc (.cells #[.int .i64 m, .int .i64 p, .slice a n cap] 28)) .u8 s 53 (w.heap.size + 1) (by simp) hlen.out).alloc (.cells #[.int .i64 0, .int .i64 0, .slice none 0 0] 28))
 have Z := Lib.hid (At3.place ((w.alloc (.cells #[.int .i64 m, .int .i64 p, .slice a n cap] 28)).alloc (.cells #[.int .u8 (at8 s 0), .int .u8 (at8 s 1), .int .u8 (at8 s 2), .int .u8 (at8 s 3), .int .u8 (at8 s 4), .int .u8 (at8 s 5), .int .u8 (at8 s 6), .int .u8 (at8 s 7)] 53)) (.int .i64 0) (.int .i64 0) (.slice none 0 0) 28 (w.heap.size + 1 + 1) (by simp))
 have B := Lib.hid (((below1 w (.cells #[.int .i64 m, .int .i64 p, .slice a n cap] 28)).alloc (by simp) (.cells #[.int .u8 (at8 s 0), .int .u8 (at8 s 1), .int .u8 (at8 s 2), .int .u8 (at8 s 3), .int .u8 (at8 s 4), .int .u8 (at8 s 5), .int .u8 (at8 s 6), .int .u8 (at8 s 7)] 53)).alloc (by simp; omega) (.cells #[.int .i64 0, .int .i64 0, .slice none 0 0] 28))
 replace Rd := Lib.hid (((Rd.out.alloc (.cells #[.int .i64 m, .int .i64 p, .slice a n cap] 28)).alloc (.cells #[.int .u8 (at8 s 0), .int .u8 (at8 s 1), .int .u8 (at8 s 2), .int .u8 (at8 s 3), .int .u8 (at8 s 4), .int .u8 (at8 s 5), .int .u8 (at8 s 6), .int .u8 (at8 s 7)] 53)).alloc (.cells #[.int .i64 0, .int .i64 0, .slice none 0 0] 28))
 have zz : Hid ((((w.alloc (.cells #[.int .i64 m, .int .i64 p, .slice a n cap] 28)).alloc (.cells #[.int .u8 (at8 s 0), .int .u8 (at8 s 1), .int .u8 (at8 s 2), .int .u8 (at8 s 3), .int .u8 (at8 s 4), .int .u8 (at8 s 5), .int .u8 (at8 s 6), .int .u8 (at8 s 7)] 53)).alloc (.cells #[.int .i64 0, .int .i64 0, .slice none 0 0] 28)).heap.size = w.heap.size + 1 + 1 + 1) := Lib.hid (by simp)
 obtain ⟨W0, hW0⟩ : ∃ W0, W0 = ((w.alloc (.cells #[.int .i64 m, .int .i64 p, .slice a n cap] 28)).alloc (.cells #[.int .u8 (at8 s 0), .int .u8 (at8 s 1), .int .u8 (at8 s 2), .int .u8 (at8 s 3), .int .u8 (at8 s 4), .int .u8 (at8 s 5), .int .u8 (at8 s 6), .int .u8 (at8 s 7)] 53)).alloc (.cells #[.int .i64 0, .int .i64 0, .slice none 0 0] 28) := ⟨_, rfl⟩
 go_upto_region 1 with fail
 rw [← hW0] at A X Z B Rd zz ⊢
 clear hW0
 have KB : Hid (Below W0.heap.size W0 W0.drew) := Lib.hid (Below.refl W0.heap.size W0).drew
 have SH : Hid (∀ W, Below W0.heap.size W0 W → (W.cell? ⟨w.heap.size, 0, none⟩ = some (.int .i64 m) ∧ W.cell? ⟨w.heap.size, 1, none⟩ = some (.int .i64 p) ∧ W.cell? ⟨w.heap.size, 2, none⟩ = some (.slice a n cap)) ∧ (W.cell? ⟨w.heap.size + 1, 0, none⟩ = some (.int .u8 (at8 s 0)) ∧ W.cell? ⟨w.heap.size + 1, 1, none⟩ = some (.int .u8 (at8 s 1)) ∧ W.cell? ⟨w.heap.size + 1, 2, none⟩ = some (.int .u8 (at8 s 2)) ∧ W.cell? ⟨w.heap.size + 1, 3, none⟩ = some (.int .u8 (at8 s 3)) ∧ W.cell? ⟨w.heap.size + 1, 4, none⟩ = some (.int .u8 (at8 s 4)) ∧ W.cell? ⟨w.heap.size + 1, 5, none⟩ = some (.int .u8 (at8 s 5)) ∧ W.cell? ⟨w.heap.size + 1, 6, none⟩ = some (.int .u8 (at8 s 6)) ∧ W.cell? ⟨w.heap.size + 1, 7, none⟩ = some (.int .u8 (at8 s 7)))) := Lib.hid fun W h => ⟨(A.out.below h).all, (X.out.below h).flat⟩
 have HSS : Hid (Sims m (sweep m l.reverse s).reverse) := Lib.hid (fun r hr => sweep_sims (fun y hy => HL.out.sims y (List.mem_reverse.1 hy)) SS.out r (List.mem_reverse.1 hr))
 refine wp_region_held_drew (S := (fun w' => (w'.cell? ⟨w.heap.size, 0, none⟩ = some (.int .i64 m) ∧ w'.cell? ⟨w.heap.size, 1, none⟩ = some (.int .i64 p) ∧ w'.cell? ⟨w.heap.size, 2, none⟩ = some (.slice a n cap)) ∧ (w'.cell? ⟨w.heap.size + 1, 0, none⟩ = some (.int .u8 (at8 s 0)) ∧ w'.cell? ⟨w.heap.size + 1, 1, none⟩ = some (.int .u8 (at8 s 1)) ∧ w'.cell? ⟨w.heap.size + 1, 2, none⟩ = some (.int .u8 (at8 s 2)) ∧ w'.cell? ⟨w.heap.size + 1, 3, none⟩ = some (.int .u8 (at8 s 3)) ∧ w'.cell? ⟨w.heap.size + 1, 4, none⟩ = some (.int .u8 (at8 s 4)) ∧ w'.cell? ⟨w.heap.size + 1, 5, none⟩ = some (.int .u8 (at8 s 5)) ∧ w'.cell? ⟨w.heap.size + 1, 6, none⟩ = some (.int .u8 (at8 s 6)) ∧ w'.cell? ⟨w.heap.size + 1, 7, none⟩ = some (.int .u8 (at8 s 7))))) (by kernel_rfl) ?_ (fun hHeld => ?_)
 ·first | with_reducible exact SH.out _ KB.out | with_reducible exact SZ.out
 refine wpAnyH_take (i := 0) (oi := { dst := some 5, op := Op.fieldAddr 28 (Operand.tmp 2) 0, type := 0, pos := "l03_normal.go:103", after := #[], guard := none }) (v := ?_) rfl (by kernel_rfl) (by kernel_rfl) (by kernel_rfl) (fun _ _ _ h => h) (Or.inl ⟨by rfl, ?_⟩) (by assumption) ?_
 rotate_left
 ·intro w hSw
  (try dsimp only at hSw)
  go_simp
  try with_reducible rfl
 try simp only [Act.put, List.setIfInBounds_toArray, List.set_cons_zero, List.set_cons_succ]
 refine wpAnyH_take (i := 1) (oi := { dst := some 6, op := Op.load 2 (Operand.tmp 5), type := 2, pos := "l03_normal.go:103", after := #[{ on := 0, ground := Ground.data }], guard := none }) (v := ?_) rfl (by kernel_rfl) (by kernel_rfl) (by kernel_rfl) (fun _ _ _ h => h) (Or.inl ⟨by rfl, ?_⟩) (by assumption) ?_
 rotate_left
 ·intro w hSw
  (try dsimp only at hSw)
  go_simp
  try with_reducible rfl
 try simp only [Act.put, List.setIfInBounds_toArray, List.set_cons_zero, List.set_cons_succ]
 refine wpAnyH_take (i := 2) (oi := { dst := some 7, op := Op.fieldAddr 28 (Operand.tmp 2) 1, type := 0, pos := "l03_normal.go:103", after := #[], guard := none }) (v := ?_) rfl (by kernel_rfl) (by kernel_rfl) (by kernel_rfl) (fun _ _ _ h => h) (Or.inl ⟨by rfl, ?_⟩) (by assumption) ?_
 rotate_left
 ·intro w hSw
  (try dsimp only at hSw)
  go_simp
  try with_reducible rfl
 try simp only [Act.put, List.setIfInBounds_toArray, List.set_cons_zero, List.set_cons_succ]
 refine wpAnyH_take (i := 3) (oi := { dst := some 8, op := Op.load 2 (Operand.tmp 7), type := 2, pos := "l03_normal.go:103", after := #[{ on := 2, ground := Ground.data }], guard := none }) (v := ?_) rfl (by kernel_rfl) (by kernel_rfl) (by kernel_rfl) (fun _ _ _ h => h) (Or.inl ⟨by rfl, ?_⟩) (by assumption) ?_
 rotate_left
 ·intro w hSw
  (try dsimp only at hSw)
  go_simp
  try with_reducible rfl
 try simp only [Act.put, List.setIfInBounds_toArray, List.set_cons_zero, List.set_cons_succ]
 refine wpAnyH_take (i := 4) (oi := { dst := some 9, op := Op.fieldAddr 28 (Operand.tmp 2) 2, type := 0, pos := "l03_normal.go:103", after := #[], guard := none }) (v := ?_) rfl (by kernel_rfl) (by kernel_rfl) (by kernel_rfl) (fun _ _ _ h => h) (Or.inl ⟨by rfl, ?_⟩) (by assumption) ?_
 rotate_left
 ·intro w hSw
  (try dsimp only at hSw)
  go_simp
  try with_reducible rfl
 try simp only [Act.put, List.setIfInBounds_toArray, List.set_cons_zero, List.set_cons_succ]
 refine wpAnyH_take (i := 5) (oi := { dst := some 10, op := Op.load 26 (Operand.tmp 9), type := 26, pos := "l03_normal.go:103", after := #[{ on := 4, ground := Ground.data }], guard := none }) (v := ?_) rfl (by kernel_rfl) (by kernel_rfl) (by kernel_rfl) (fun _ _ _ h => h) (Or.inl ⟨by rfl, ?_⟩) (by assumption) ?_
 rotate_left
 ·intro w hSw
  (try dsimp only at hSw)
  go_simp
  try with_reducible rfl
 try simp only [Act.put, List.setIfInBounds_toArray, List.set_cons_zero, List.set_cons_succ]
 refine wpAnyH_take (i := 6) (oi := { dst := some 11, op := Op.load 53 (Operand.tmp 3), type := 53, pos := "l03_normal.go:103", after := #[], guard := none }) (v := ?_) rfl (by kernel_rfl) (by kernel_rfl) (by kernel_rfl) (fun _ _ _ h => h) (Or.inl ⟨by rfl, ?_⟩) (by assumption) ?_
 rotate_left
 ·intro w hSw
  (try dsimp only at hSw)
  go_simp
  try with_reducible rfl
 try simp only [Act.put, List.setIfInBounds_toArray, List.set_cons_zero, List.set_cons_succ]
 refine wpAnyH_take (i := 7) (oi := { dst := some 12, op := Op.fieldAddr 28 (Operand.tmp 2) 0, type := 0, pos := "l03_normal.go:103", after := #[], guard := none }) (v := ?_) rfl (by kernel_rfl) (by kernel_rfl) (by kernel_rfl) (fun _ _ _ h => h) (Or.inl ⟨by rfl, ?_⟩) (by assumption) ?_
 rotate_left
 ·intro w hSw
  (try dsimp only at hSw)
  go_simp
  try with_reducible rfl
 try simp only [Act.put, List.setIfInBounds_toArray, List.set_cons_zero, List.set_cons_succ]
 refine wpAnyH_take (i := 8) (oi := { dst := some 13, op := Op.load 2 (Operand.tmp 12), type := 2, pos := "l03_normal.go:103", after := #[{ on := 7, ground := Ground.data }], guard := none }) (v := ?_) rfl (by kernel_rfl) (by kernel_rfl) (by kernel_rfl) (fun _ _ _ h => h) (Or.inl ⟨by rfl, ?_⟩) (by assumption) ?_
 rotate_left
 ·intro w hSw
  (try dsimp only at hSw)
  go_simp
  try with_reducible rfl
 try simp only [Act.put, List.setIfInBounds_toArray, List.set_cons_zero, List.set_cons_succ]
 refine wpAnyH_ready (rs := [9]) (by kernel_rfl) (by simp) ?_
 refine AllReadyH.cons (o := { dst := some 14, op := Op.call { callee := Callee.value (Operand.func 76), args := #[Operand.tmp 10, Operand.tmp 11, Operand.tmp 13, Operand.func 68], argTypes := #[26, 53, 2, 77] }, type := 26, pos := "l03_normal.go:103", after := #[{ on := 5, ground := Ground.data }, { on := 6, ground := Ground.data }, { on := 8, ground := Ground.data }], guard := none }) rfl (fun K hK => ?_) ?_
 ·go_simp
  refine (withBehind_any 68 m a n cap l s _ (Rd.out.below KB.out) hcap HL.out SS.out hn (fun _ _ => rfl) (fun ra rb sa sb W => weigh_both m ra rb sa sb W)).mono ?_
  rintro e w3 ⟨gb, c5, rfl, hO, gg⟩
  have O := Lib.hid (hO.mono (B' := w.heap.size + 1 + 1 + 1) (by have := zz.out; have := KB.out.size; omega))
  replace KB := Lib.hid (below_go KB.out gg KB.out.size)
  clear gg hO
  go_wp2_with fail
  refine hK.out _ _ ?_ (fun hHeld => ?_)
  ·first | with_reducible exact SH.out _ KB.out | with_reducible exact SZ.out
  clear hK K
  try simp only [Act.put, List.setIfInBounds_toArray, List.set_cons_zero, List.set_cons_succ]
  refine wpAnyH_ready (rs := [10]) (by kernel_rfl) (by simp) ?_
  refine AllReadyH.cons (o := { dst := some 15, op := Op.call { callee := Callee.value (Operand.func 75), args := #[Operand.tmp 6, Operand.tmp 8, Operand.tmp 14], argTypes := #[2, 2, 26] }, type := 28, pos := "l03_normal.go:103", after := #[{ on := 1, ground := Ground.data }, { on := 3, ground := Ground.data }, { on := 9, ground := Ground.data }, { on := 9, ground := Ground.chain }], guard := none }) rfl (fun K hK => ?_) ?_
  ·go_simp
   refine (trimmed_any m m2 m8 p hp (w.heap.size + 1 + 1 + 1) gb (n + 1) c5 (sweep m l.reverse s).reverse _ O.out (by omega) HSS.out (by omega) q kf HMK.out).mono ?_
   rintro e w9 ⟨a9, n9, c9, rfl, hc9, ho9, gg⟩
   have O9 := Lib.hid ho9
   replace KB := Lib.hid (below_go KB.out gg KB.out.size)
   clear gg ho9
   go_wp2_with fail
   refine hK.out _ _ ?_ (fun hHeld => ?_)
   ·first | with_reducible exact SH.out _ KB.out | with_reducible exact SZ.out
   clear hK K
   try simp only [Act.put, List.setIfInBounds_toArray, List.set_cons_zero, List.set_cons_succ]
   refine wpAnyH_ready (rs := [11]) (by kernel_rfl) (by simp) ?_
   refine AllReadyH.cons (o := { dst := none, op := Op.store 28 (Operand.tmp 4) (Operand.tmp 15), type := 0, pos := "l03_normal.go:103", after := #[{ on := 10, ground := Ground.data }, { on := 10, ground := Ground.chain }, { on := 0, ground := Ground.phase }, { on := 1, ground := Ground.phase }, { on := 2, ground := Ground.phase }, { on := 3, ground := Ground.phase }, { on := 4, ground := Ground.phase }, { on := 5, ground := Ground.phase }, { on := 6, ground := Ground.phase }, { on := 7, ground := Ground.phase }, { on := 8, ground := Ground.phase }, { on := 9, ground := Ground.phase }, { on := 10, ground := Ground.phase }], guard := none }) rfl (fun K hK => ?_) ?_
   ·obtain ⟨x0, ⟨x1, x2, x3⟩, y1, y2, y3⟩ := Z.out.below KB.out
    go_simp
    have SZ : Hid (((((w9.setCell ⟨w.heap.size + 1 + 1, 0, none⟩ (.int .i64 m)).setCell ⟨w.heap.size + 1 + 1, 1, none⟩ (.int .i64 q)).setCell ⟨w.heap.size + 1 + 1, 2, none⟩ (.slice a9 n9 c9)).cell? ⟨w.heap.size, 0, none⟩ = some (.int .i64 m) ∧ (((w9.setCell ⟨w.heap.size + 1 + 1, 0, none⟩ (.int .i64 m)).setCell ⟨w.heap.size + 1 + 1, 1, none⟩ (.int .i64 q)).setCell ⟨w.heap.size + 1 + 1, 2, none⟩ (.slice a9 n9 c9)).cell? ⟨w.heap.size, 1, none⟩ = some (.int .i64 p) ∧ (((w9.setCell ⟨w.heap.size + 1 + 1, 0, none⟩ (.int .i64 m)).setCell ⟨w.heap.size + 1 + 1, 1, none⟩ (.int .i64 q)).setCell ⟨w.heap.size + 1 + 1, 2, none⟩ (.slice a9 n9 c9)).cell? ⟨w.heap.size, 2, none⟩ = some (.slice a n cap)) ∧ ((((w9.setCell ⟨w.heap.size + 1 + 1, 0, none⟩ (.int .i64 m)).setCell ⟨w.heap.size + 1 + 1, 1, none⟩ (.int .i64 q)).setCell ⟨w.heap.size + 1 + 1, 2, none⟩ (.slice a9 n9 c9)).cell? ⟨w.heap.size + 1, 0, none⟩ = some (.int .u8 (at8 s 0)) ∧ (((w9.setCell ⟨w.heap.size + 1 + 1, 0, none⟩ (.int .i64 m)).setCell ⟨w.heap.size + 1 + 1, 1, none⟩ (.int .i64 q)).setCell ⟨w.heap.size + 1 + 1, 2, none⟩ (.slice a9 n9 c9)).cell? ⟨w.heap.size + 1, 1, none⟩ = some (.int .u8 (at8 s 1)) ∧ (((w9.setCell ⟨w.heap.size + 1 + 1, 0, none⟩ (.int .i64 m)).setCell ⟨w.heap.size + 1 + 1, 1, none⟩ (.int .i64 q)).setCell ⟨w.heap.size + 1 + 1, 2, none⟩ (.slice a9 n9 c9)).cell? ⟨w.heap.size + 1, 2, none⟩ = some (.int .u8 (at8 s 2)) ∧ (((w9.setCell ⟨w.heap.size + 1 + 1, 0, none⟩ (.int .i64 m)).setCell ⟨w.heap.size + 1 + 1, 1, none⟩ (.int .i64 q)).setCell ⟨w.heap.size + 1 + 1, 2, none⟩ (.slice a9 n9 c9)).cell? ⟨w.heap.size + 1, 3, none⟩ = some (.int .u8 (at8 s 3)) ∧ (((w9.setCell ⟨w.heap.size + 1 + 1, 0, none⟩ (.int .i64 m)).setCell ⟨w.heap.size + 1 + 1, 1, none⟩ (.int .i64 q)).setCell ⟨w.heap.size + 1 + 1, 2, none⟩ (.slice a9 n9 c9)).cell? ⟨w.heap.size + 1, 4, none⟩ = some (.int .u8 (at8 s 4)) ∧ (((w9.setCell ⟨w.heap.size + 1 + 1, 0, none⟩ (.int .i64 m)).setCell ⟨w.heap.size + 1 + 1, 1, none⟩ (.int .i64 q)).setCell ⟨w.heap.size + 1 + 1, 2, none⟩ (.slice a9 n9 c9)).cell? ⟨w.heap.size + 1, 5, none⟩ = some (.int .u8 (at8 s 5)) ∧ (((w9.setCell ⟨w.heap.size + 1 + 1, 0, none⟩ (.int .i64 m)).setCell ⟨w.heap.size + 1 + 1, 1, none⟩ (.int .i64 q)).setCell ⟨w.heap.size + 1 + 1, 2, none⟩ (.slice a9 n9 c9)).cell? ⟨w.heap.size + 1, 6, none⟩ = some (.int .u8 (at8 s 6)) ∧ (((w9.setCell ⟨w.heap.size + 1 + 1, 0, none⟩ (.int .i64 m)).setCell ⟨w.heap.size + 1 + 1, 1, none⟩ (.int .i64 q)).setCell ⟨w.heap.size + 1 + 1, 2, none⟩ (.slice a9 n9 c9)).cell? ⟨w.heap.size + 1, 7, none⟩ = some (.int .u8 (at8 s 7)))) := Lib.hid ⟨((A.out.below KB.out).set3 (by omega) _ _ _).all, ((((X.out.below KB.out).setCell (by show w.heap.size + 1 + 1 ≠ w.heap.size + 1; omega) _).setCell (by show w.heap.size + 1 + 1 ≠ w.heap.size + 1; omega) _).setCell (by show w.heap.size + 1 + 1 ≠ w.heap.size + 1; omega) _).flat⟩
    refine hK.out _ _ ?_ (fun hHeld => ?_)
    ·first | with_reducible exact SH.out _ KB.out | with_reducible exact SZ.out
    clear hK K
    try simp only [Act.put, List.setIfInBounds_toArray, List.set_cons_zero, List.set_cons_succ]
    refine wpAnyH_done (by kernel_rfl) ?_ _
    have OX := Lib.hid ((O9.out.set3 (g2 := w.heap.size + 1 + 1) (by omega) (.int .i64 m) (.int .i64 q) (.slice a9 n9 c9)).mono (B' := w.heap.size) (by omega))
    have BL := Lib.hid (below_set3 (B.out.trans (KB.out.mono (by have := zz.out; omega))) (g2 := w.heap.size + 1 + 1) (by omega) (.int .i64 m) (.int .i64 q) (.slice a9 n9 c9))
    obtain ⟨_, ⟨e1, e2, e3⟩, _⟩ := (Z.out.below KB.out).fill (.int .i64 m) (.int .i64 q) (.slice a9 n9 c9)
    go_wp2
    try rw [Exit.noGoto_ret]
    exact bodyPost_ret (v := .agg #[.int .i64 m, .int .i64 q, .slice a9 n9 c9]) (by simp [results, Try.results57, go_sem, e1, e2, e3]) rfl ⟨a9, n9, c9, rfl, hc9, OX.out, BL.out⟩
   exact AllReadyH.nil
  exact AllReadyH.nil
 exact AllReadyH.nil

end Go.Proofs.Ytpkhddndapcpjaa

