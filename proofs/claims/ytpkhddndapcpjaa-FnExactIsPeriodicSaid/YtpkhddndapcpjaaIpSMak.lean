/- The model: the normal form of a power of the half turn and a list. -/
import Derived.Test.YtpkhddndapcpjaaIpPB
import Derived.Test.YtpkhddndapcpjaaIpSWei
import Derived.Test.YtpkhddndapcpjaaIpSB
namespace Go.Proofs.Ytpkhddndapcpjaa
open Go.RowKit Go.ChangeShapes

/-- The normal form that a call hands back: its factors are the call's own. -/
def RetNormal (w : World) (s p : Int) (rs : List (List Int)) (e : Ending) (w' : World) : Prop :=
 ∃ a n cap, e = .returned (.agg #[.int .i64 s, .int .i64 p, .slice a n cap]) ∧ OwnA w.heap.size w' a n cap rs ∧ Below w.heap.size w w'

set_option maxRecDepth 100000 in
set_option maxHeartbeats 1000000 in
theorem l03Make_pos (m : Nat) (m1 : 1 ≤ m) (m8 : m ≤ 8) (p : Int) (hp : -2000000 ≤ p ∧ p ≤ 2000000) (a : Option Addr) (n cap : Nat) (l : List (List Int)) (w : World) (hr : ReadsA w a n l) (hs : Sims m l) (hn : n ≤ 1048576) (hpos : 0 < n)
  (q : Int) (K : List (List Int)) (hM : mkN m p l = (q, K)) :
  Calls Try.prog 24 #[.int .i64 m, .int .i64 p, .slice a n cap] w (RetNormal w m q K) := by
 obtain ⟨i0, hi, hz0, hz1, hz2⟩ := info_parts infoSimple
 have HL := Lib.hid hr.len
 have HS := Lib.hid hs; clear hs
 have HMK := Lib.hid hM; clear hM
 have Rd := Lib.hid hr
 clear hr
 go_enter Try.func24, Try.ntmps24
 have Z := Lib.hid (At3.place w (.int .i64 0) (.int .i64 0) (.slice none 0 0) 28 w.heap.size rfl)
 have B := Lib.hid (below1 w (.cells #[.int .i64 0, .int .i64 0, .slice none 0 0] 28))
 replace Rd := Lib.hid (Rd.out.alloc (.cells #[.int .i64 0, .int .i64 0, .slice none 0 0] 28))
 go_wp2_with fail
 refine (l03Weigh_any m m1 m8 a n cap l _ Rd.out HS.out hn hpos).mono ?_
 rintro e w2 ⟨a2, n2, c2, R, rfl, ho, hb, hRl, hRs, hRw, hRn⟩
 have HRL : Hid (R.length = l.length) := Lib.hid hRl
 have SR := Lib.hid hRs
 have e9 : (p + (firstM m R : Int), restM m R) = (q, K) := by rw [make_mk m1 m8 p hRs hRw, ← HMK.out]; unfold mkN; rw [hRn]
 have e8 : q = p + (firstM m R : Int) := (congrArg Prod.fst e9).symm
 have e7 : K = restM m R := (congrArg Prod.snd e9).symm
 clear HMK e9 hRl hRs hRw hRn
 subst e8 e7
 have hln := ho.len
 have hnn : n2 = n := by have := HL.out; have := HRL.out; omega
 subst hnn
 obtain ⟨gb, rfl, gb1, gb2⟩ := ho.block hpos
 have F := Lib.hid (AtWei.mk (ho.mono (by simp)) (below_go (below1 w (.cells #[.int .i64 0, .int .i64 0, .slice none 0 0] 28)) hb (by simp)) (by simp at gb1; omega) gb2)
 replace Z := Lib.hid (Z.out.below hb)
 have gbz : w.heap.size < gb := by simp at gb1; omega
 clear ho hb B Rd
 rcases Nat.lt_or_ge 1 m with hm | hm
 ·have hm2 : (1 : Int) < (m : Int) := by omega
  go_wp2
  go_loopg [1, 7] (firstM m R) (fun g pv i wx => ∃ f : Nat, f ≤ firstM m R ∧ g + f = firstM m R ∧ i = .int .i64 f ∧ pv = .int .i64 (p + f) ∧ AtWei w wx gb n2 c2 R ∧ At3 wx w.heap.size (.int .i64 0) (.int .i64 0) (.slice none 0 0))
  case atStart => exact ⟨0, Nat.zero_le _, rfl, rfl, by go_num, F.out, Z.out⟩
  case round =>
   obtain ⟨f, hf, hgf, rfl, rfl, hF, hZ⟩ := hrel
   clear F Z
   have F := Lib.hid hF
   have Z := Lib.hid hZ
   clear hF hZ
   have hfl := firstM_le m R
   have hRL := HRL.out
   have HFM : Hid (firstM m R = lead (halfR m) R) := Lib.hid (by unfold firstM; rw [if_pos hm])
   by_cases hlt : f < n2
   ·obtain ⟨ra, hra⟩ : ∃ ra, ra = rowAt R f := ⟨_, rfl⟩
    have HRA : Hid (∀ W, AtWei w W gb n2 c2 R → Cells8 W gb (f * 8) ra) := Lib.hid fun W h => by rw [hra]; exact h.row f hlt
    have SA : Hid (Sim m ra) := Lib.hid (by rw [hra]; exact rows_sims.1 SR.out f (by omega))
    have hi1 : (f : Int) < (n2 : Int) := by omega
    have hi2 : (0 : Int) ≤ (f : Int) := by omega
    by_cases he : ra = halfR m
    ·have hfs : f < firstM m R := by
      rcases Nat.lt_or_ge f (firstM m R) with h | h
      ·exact h
      ·exfalso
       have : f = lead (halfR m) R := by have := HFM.out; omega
       rw [hra, this] at he
       exact lead_end _ _ (by have := HFM.out; omega) he
     have heq1 : ∀ W, Sem.run Try.prog (Op.equalIn 10000 53 (arr8 .u8 ra) (arr8 .u8 (halfR m))) W = .ok true W := fun W => by rw [equal8 ra (halfR m) SA.out.len (mapR_len _ _ m8) W, decide_eq_true he]
     clear he hra
     go_upto_region 4 with fail
     replace F := Lib.hid F.out.drew
     replace Z := Lib.hid Z.out.drew
     refine wp_region_held_drew (S := (fun w' => w'.cell? ⟨gb, f * 8, none⟩ = some (.int .u8 (at8 ra 0)) ∧ w'.cell? ⟨gb, f * 8 + 1, none⟩ = some (.int .u8 (at8 ra 1)) ∧ w'.cell? ⟨gb, f * 8 + 2, none⟩ = some (.int .u8 (at8 ra 2)) ∧ w'.cell? ⟨gb, f * 8 + 3, none⟩ = some (.int .u8 (at8 ra 3)) ∧ w'.cell? ⟨gb, f * 8 + 4, none⟩ = some (.int .u8 (at8 ra 4)) ∧ w'.cell? ⟨gb, f * 8 + 5, none⟩ = some (.int .u8 (at8 ra 5)) ∧ w'.cell? ⟨gb, f * 8 + 6, none⟩ = some (.int .u8 (at8 ra 6)) ∧ w'.cell? ⟨gb, f * 8 + 7, none⟩ = some (.int .u8 (at8 ra 7)))) (by kernel_rfl) ?_ (fun hHeld => ?_)
     ·with_reducible exact (HRA.out _ F.out).flat
     refine wpAnyH_take (i := 0) (oi := { dst := some 16, op := Op.move (Operand.tmp 7), type := 3, pos := "l03_normal.go:56", after := #[], guard := none }) (v := ?_) rfl (by kernel_rfl) (by kernel_rfl) (by kernel_rfl) (fun _ _ _ h => h) (Or.inl ⟨by rfl, ?_⟩) (by assumption) ?_
     rotate_left
     ·intro w hSw
      (try dsimp only at hSw)
      go_simp
      try with_reducible rfl
     try simp only [Act.put, List.setIfInBounds_toArray, List.set_cons_zero, List.set_cons_succ]
     refine wpAnyH_take (i := 1) (oi := { dst := some 17, op := Op.move (Operand.tmp 8), type := 3, pos := "l03_normal.go:56", after := #[], guard := none }) (v := ?_) rfl (by kernel_rfl) (by kernel_rfl) (by kernel_rfl) (fun _ _ _ h => h) (Or.inl ⟨by rfl, ?_⟩) (by assumption) ?_
     rotate_left
     ·intro w hSw
      (try dsimp only at hSw)
      go_simp
      try with_reducible rfl
     try simp only [Act.put, List.setIfInBounds_toArray, List.set_cons_zero, List.set_cons_succ]
     refine wpAnyH_take (i := 2) (oi := { dst := some 18, op := Op.binOp BinOp.lss 3 (Operand.tmp 16) (Operand.tmp 17) 3, type := 4, pos := "l03_normal.go:56", after := #[{ on := 0, ground := Ground.data }, { on := 1, ground := Ground.data }], guard := none }) (v := ?_) rfl (by kernel_rfl) (by kernel_rfl) (by kernel_rfl) (fun _ _ _ h => h) (Or.inl ⟨by rfl, ?_⟩) (by assumption) ?_
     rotate_left
     ·intro w hSw
      (try dsimp only at hSw)
      go_simp
      try with_reducible rfl
     try simp only [Act.put, List.setIfInBounds_toArray, List.set_cons_zero, List.set_cons_succ]
     refine wpAnyH_take (i := 3) (oi := { dst := some 19, op := Op.move (Operand.tmp 18), type := 4, pos := "l03_normal.go:56", after := #[{ on := 2, ground := Ground.data }], guard := none }) (v := ?_) rfl (by kernel_rfl) (by kernel_rfl) (by kernel_rfl) (fun _ _ _ h => h) (Or.inl ⟨by rfl, ?_⟩) (by assumption) ?_
     rotate_left
     ·intro w hSw
      (try dsimp only at hSw)
      go_simp
      try with_reducible rfl
     try simp only [Act.put, List.setIfInBounds_toArray, List.set_cons_zero, List.set_cons_succ]
     refine wpAnyH_take (i := 4) (oi := { dst := some 20, op := Op.move (Operand.tmp 2), type := 26, pos := "l03_normal.go:56", after := #[{ on := 3, ground := Ground.guard }], guard := some (3, true) }) (v := ?_) rfl (by kernel_rfl) (by kernel_rfl) (by kernel_rfl) (fun _ _ _ h => h) (Or.inl ⟨by rfl, ?_⟩) (by assumption) ?_
     rotate_left
     ·intro w hSw
      (try dsimp only at hSw)
      go_simp
      try with_reducible rfl
     try simp only [Act.put, List.setIfInBounds_toArray, List.set_cons_zero, List.set_cons_succ]
     refine wpAnyH_take (i := 5) (oi := { dst := some 21, op := Op.move (Operand.tmp 7), type := 3, pos := "l03_normal.go:56", after := #[{ on := 3, ground := Ground.guard }], guard := some (3, true) }) (v := ?_) rfl (by kernel_rfl) (by kernel_rfl) (by kernel_rfl) (fun _ _ _ h => h) (Or.inl ⟨by rfl, ?_⟩) (by assumption) ?_
     rotate_left
     ·intro w hSw
      (try dsimp only at hSw)
      go_simp
      try with_reducible rfl
     try simp only [Act.put, List.setIfInBounds_toArray, List.set_cons_zero, List.set_cons_succ]
     refine wpAnyH_take (i := 6) (oi := { dst := some 22, op := Op.indexAddr 26 (Operand.tmp 20) (Operand.tmp 21), type := 0, pos := "l03_normal.go:56", after := #[{ on := 4, ground := Ground.data }, { on := 5, ground := Ground.data }, { on := 3, ground := Ground.guard }], guard := some (3, true) }) (v := ?_) rfl (by kernel_rfl) (by kernel_rfl) (by kernel_rfl) (fun _ _ _ h => h) (Or.inl ⟨by rfl, ?_⟩) (by assumption) ?_
     rotate_left
     ·intro w hSw
      (try dsimp only at hSw)
      go_simp
      try with_reducible rfl
     try simp only [Act.put, List.setIfInBounds_toArray, List.set_cons_zero, List.set_cons_succ]
     refine wpAnyH_take (i := 7) (oi := { dst := some 23, op := Op.load 53 (Operand.tmp 22), type := 53, pos := "l03_normal.go:56", after := #[{ on := 6, ground := Ground.data }, { on := 3, ground := Ground.guard }], guard := some (3, true) }) (v := ?_) rfl (by kernel_rfl) (by kernel_rfl) (by kernel_rfl) (fun _ _ _ h => h) (Or.inl ⟨by rfl, ?_⟩) (by assumption) ?_
     rotate_left
     ·intro w hSw
      (try dsimp only at hSw)
      go_simp
      try with_reducible rfl
     try simp only [Act.put, List.setIfInBounds_toArray, List.set_cons_zero, List.set_cons_succ]
     refine wpAnyH_take (i := 8) (oi := { dst := some 24, op := Op.move (Operand.tmp 0), type := 2, pos := "l03_normal.go:56", after := #[{ on := 3, ground := Ground.guard }], guard := some (3, true) }) (v := ?_) rfl (by kernel_rfl) (by kernel_rfl) (by kernel_rfl) (fun _ _ _ h => h) (Or.inl ⟨by rfl, ?_⟩) (by assumption) ?_
     rotate_left
     ·intro w hSw
      (try dsimp only at hSw)
      go_simp
      try with_reducible rfl
     try simp only [Act.put, List.setIfInBounds_toArray, List.set_cons_zero, List.set_cons_succ]
     refine wpAnyH_ready (rs := [9]) (by kernel_rfl) (by simp) ?_
     refine AllReadyH.cons (o := { dst := some 25, op := Op.call { callee := Callee.value (Operand.func 37), args := #[Operand.tmp 24], argTypes := #[2] }, type := 53, pos := "l03_normal.go:56", after := #[{ on := 8, ground := Ground.data }, { on := 3, ground := Ground.chain }, { on := 3, ground := Ground.guard }], guard := some (3, true) }) rfl (fun K hK => ?_) AllReadyH.nil
     go_simp
     (refine (l02Half_any m m8 _).mono ?_; rintro e w3 ⟨rfl, gg⟩; replace F := Lib.hid (F.out.below gg); replace Z := Lib.hid (Z.out.below gg))
     go_wp2_with fail
     refine hK.out _ _ ?_ (fun hHeld => ?_)
     ·with_reducible exact (HRA.out _ F.out).flat
     clear hK K
     try simp only [Act.put, List.setIfInBounds_toArray, List.set_cons_zero, List.set_cons_succ]
     refine wpAnyH_take (i := 10) (oi := { dst := some 26, op := Op.binOp BinOp.eql 53 (Operand.tmp 23) (Operand.tmp 25) 53, type := 4, pos := "l03_normal.go:56", after := #[{ on := 7, ground := Ground.data }, { on := 9, ground := Ground.data }, { on := 3, ground := Ground.guard }], guard := some (3, true) }) (v := ?_) rfl (by kernel_rfl) (by kernel_rfl) (by kernel_rfl) (fun _ _ _ h => h) (Or.inl ⟨by rfl, ?_⟩) (by assumption) ?_
     rotate_left
     ·intro w hSw
      (try dsimp only at hSw)
      go_simp
      try with_reducible rfl
     try simp only [Act.put, List.setIfInBounds_toArray, List.set_cons_zero, List.set_cons_succ]
     refine wpAnyH_take (i := 11) (oi := { dst := some 27, op := Op.pick (Operand.tmp 19) (Operand.tmp 26) (Operand.const (Value.bool false)), type := 4, pos := "l03_normal.go:56", after := #[{ on := 3, ground := Ground.data }, { on := 10, ground := Ground.data }], guard := none }) (v := ?_) rfl (by kernel_rfl) (by kernel_rfl) (by kernel_rfl) (fun _ _ _ h => h) (Or.inl ⟨by rfl, ?_⟩) (by assumption) ?_
     rotate_left
     ·intro w hSw
      (try dsimp only at hSw)
      go_simp
      try with_reducible rfl
     try simp only [Act.put, List.setIfInBounds_toArray, List.set_cons_zero, List.set_cons_succ]
     refine wpAnyH_done (by kernel_rfl) ?_ _
     go_wp2
     go_roundg (gk - 1)
     case measure => omega
     case rel => exact ⟨f + 1, by omega, by omega, by go_num, by go_num, F.out, Z.out⟩
    ·have hfe : f = firstM m R := by
      rcases Nat.lt_or_ge f (firstM m R) with h | h
      ·exfalso
       rw [hra] at he
       exact he (lead_at _ _ f (by have := HFM.out; omega))
      ·omega
     have heq1 : ∀ W, Sem.run Try.prog (Op.equalIn 10000 53 (arr8 .u8 ra) (arr8 .u8 (halfR m))) W = .ok false W := fun W => by rw [equal8 ra (halfR m) SA.out.len (mapR_len _ _ m8) W, decide_eq_false he]
     have HFE := Lib.hid hfe
     clear he hra hfe
     go_upto_region 4 with fail
     replace F := Lib.hid F.out.drew
     replace Z := Lib.hid Z.out.drew
     refine wp_region_held_drew (S := (fun w' => w'.cell? ⟨gb, f * 8, none⟩ = some (.int .u8 (at8 ra 0)) ∧ w'.cell? ⟨gb, f * 8 + 1, none⟩ = some (.int .u8 (at8 ra 1)) ∧ w'.cell? ⟨gb, f * 8 + 2, none⟩ = some (.int .u8 (at8 ra 2)) ∧ w'.cell? ⟨gb, f * 8 + 3, none⟩ = some (.int .u8 (at8 ra 3)) ∧ w'.cell? ⟨gb, f * 8 + 4, none⟩ = some (.int .u8 (at8 ra 4)) ∧ w'.cell? ⟨gb, f * 8 + 5, none⟩ = some (.int .u8 (at8 ra 5)) ∧ w'.cell? ⟨gb, f * 8 + 6, none⟩ = some (.int .u8 (at8 ra 6)) ∧ w'.cell? ⟨gb, f * 8 + 7, none⟩ = some (.int .u8 (at8 ra 7)))) (by kernel_rfl) ?_ (fun hHeld => ?_)
     ·with_reducible exact (HRA.out _ F.out).flat
     refine wpAnyH_take (i := 0) (oi := { dst := some 16, op := Op.move (Operand.tmp 7), type := 3, pos := "l03_normal.go:56", after := #[], guard := none }) (v := ?_) rfl (by kernel_rfl) (by kernel_rfl) (by kernel_rfl) (fun _ _ _ h => h) (Or.inl ⟨by rfl, ?_⟩) (by assumption) ?_
     rotate_left
     ·intro w hSw
      (try dsimp only at hSw)
      go_simp
      try with_reducible rfl
     try simp only [Act.put, List.setIfInBounds_toArray, List.set_cons_zero, List.set_cons_succ]
     refine wpAnyH_take (i := 1) (oi := { dst := some 17, op := Op.move (Operand.tmp 8), type := 3, pos := "l03_normal.go:56", after := #[], guard := none }) (v := ?_) rfl (by kernel_rfl) (by kernel_rfl) (by kernel_rfl) (fun _ _ _ h => h) (Or.inl ⟨by rfl, ?_⟩) (by assumption) ?_
     rotate_left
     ·intro w hSw
      (try dsimp only at hSw)
      go_simp
      try with_reducible rfl
     try simp only [Act.put, List.setIfInBounds_toArray, List.set_cons_zero, List.set_cons_succ]
     refine wpAnyH_take (i := 2) (oi := { dst := some 18, op := Op.binOp BinOp.lss 3 (Operand.tmp 16) (Operand.tmp 17) 3, type := 4, pos := "l03_normal.go:56", after := #[{ on := 0, ground := Ground.data }, { on := 1, ground := Ground.data }], guard := none }) (v := ?_) rfl (by kernel_rfl) (by kernel_rfl) (by kernel_rfl) (fun _ _ _ h => h) (Or.inl ⟨by rfl, ?_⟩) (by assumption) ?_
     rotate_left
     ·intro w hSw
      (try dsimp only at hSw)
      go_simp
      try with_reducible rfl
     try simp only [Act.put, List.setIfInBounds_toArray, List.set_cons_zero, List.set_cons_succ]
     refine wpAnyH_take (i := 3) (oi := { dst := some 19, op := Op.move (Operand.tmp 18), type := 4, pos := "l03_normal.go:56", after := #[{ on := 2, ground := Ground.data }], guard := none }) (v := ?_) rfl (by kernel_rfl) (by kernel_rfl) (by kernel_rfl) (fun _ _ _ h => h) (Or.inl ⟨by rfl, ?_⟩) (by assumption) ?_
     rotate_left
     ·intro w hSw
      (try dsimp only at hSw)
      go_simp
      try with_reducible rfl
     try simp only [Act.put, List.setIfInBounds_toArray, List.set_cons_zero, List.set_cons_succ]
     refine wpAnyH_take (i := 4) (oi := { dst := some 20, op := Op.move (Operand.tmp 2), type := 26, pos := "l03_normal.go:56", after := #[{ on := 3, ground := Ground.guard }], guard := some (3, true) }) (v := ?_) rfl (by kernel_rfl) (by kernel_rfl) (by kernel_rfl) (fun _ _ _ h => h) (Or.inl ⟨by rfl, ?_⟩) (by assumption) ?_
     rotate_left
     ·intro w hSw
      (try dsimp only at hSw)
      go_simp
      try with_reducible rfl
     try simp only [Act.put, List.setIfInBounds_toArray, List.set_cons_zero, List.set_cons_succ]
     refine wpAnyH_take (i := 5) (oi := { dst := some 21, op := Op.move (Operand.tmp 7), type := 3, pos := "l03_normal.go:56", after := #[{ on := 3, ground := Ground.guard }], guard := some (3, true) }) (v := ?_) rfl (by kernel_rfl) (by kernel_rfl) (by kernel_rfl) (fun _ _ _ h => h) (Or.inl ⟨by rfl, ?_⟩) (by assumption) ?_
     rotate_left
     ·intro w hSw
      (try dsimp only at hSw)
      go_simp
      try with_reducible rfl
     try simp only [Act.put, List.setIfInBounds_toArray, List.set_cons_zero, List.set_cons_succ]
     refine wpAnyH_take (i := 6) (oi := { dst := some 22, op := Op.indexAddr 26 (Operand.tmp 20) (Operand.tmp 21), type := 0, pos := "l03_normal.go:56", after := #[{ on := 4, ground := Ground.data }, { on := 5, ground := Ground.data }, { on := 3, ground := Ground.guard }], guard := some (3, true) }) (v := ?_) rfl (by kernel_rfl) (by kernel_rfl) (by kernel_rfl) (fun _ _ _ h => h) (Or.inl ⟨by rfl, ?_⟩) (by assumption) ?_
     rotate_left
     ·intro w hSw
      (try dsimp only at hSw)
      go_simp
      try with_reducible rfl
     try simp only [Act.put, List.setIfInBounds_toArray, List.set_cons_zero, List.set_cons_succ]
     refine wpAnyH_take (i := 7) (oi := { dst := some 23, op := Op.load 53 (Operand.tmp 22), type := 53, pos := "l03_normal.go:56", after := #[{ on := 6, ground := Ground.data }, { on := 3, ground := Ground.guard }], guard := some (3, true) }) (v := ?_) rfl (by kernel_rfl) (by kernel_rfl) (by kernel_rfl) (fun _ _ _ h => h) (Or.inl ⟨by rfl, ?_⟩) (by assumption) ?_
     rotate_left
     ·intro w hSw
      (try dsimp only at hSw)
      go_simp
      try with_reducible rfl
     try simp only [Act.put, List.setIfInBounds_toArray, List.set_cons_zero, List.set_cons_succ]
     refine wpAnyH_take (i := 8) (oi := { dst := some 24, op := Op.move (Operand.tmp 0), type := 2, pos := "l03_normal.go:56", after := #[{ on := 3, ground := Ground.guard }], guard := some (3, true) }) (v := ?_) rfl (by kernel_rfl) (by kernel_rfl) (by kernel_rfl) (fun _ _ _ h => h) (Or.inl ⟨by rfl, ?_⟩) (by assumption) ?_
     rotate_left
     ·intro w hSw
      (try dsimp only at hSw)
      go_simp
      try with_reducible rfl
     try simp only [Act.put, List.setIfInBounds_toArray, List.set_cons_zero, List.set_cons_succ]
     refine wpAnyH_ready (rs := [9]) (by kernel_rfl) (by simp) ?_
     refine AllReadyH.cons (o := { dst := some 25, op := Op.call { callee := Callee.value (Operand.func 37), args := #[Operand.tmp 24], argTypes := #[2] }, type := 53, pos := "l03_normal.go:56", after := #[{ on := 8, ground := Ground.data }, { on := 3, ground := Ground.chain }, { on := 3, ground := Ground.guard }], guard := some (3, true) }) rfl (fun K hK => ?_) AllReadyH.nil
     go_simp
     (refine (l02Half_any m m8 _).mono ?_; rintro e w3 ⟨rfl, gg⟩; replace F := Lib.hid (F.out.below gg); replace Z := Lib.hid (Z.out.below gg))
     go_wp2_with fail
     refine hK.out _ _ ?_ (fun hHeld => ?_)
     ·with_reducible exact (HRA.out _ F.out).flat
     clear hK K
     try simp only [Act.put, List.setIfInBounds_toArray, List.set_cons_zero, List.set_cons_succ]
     refine wpAnyH_take (i := 10) (oi := { dst := some 26, op := Op.binOp BinOp.eql 53 (Operand.tmp 23) (Operand.tmp 25) 53, type := 4, pos := "l03_normal.go:56", after := #[{ on := 7, ground := Ground.data }, { on := 9, ground := Ground.data }, { on := 3, ground := Ground.guard }], guard := some (3, true) }) (v := ?_) rfl (by kernel_rfl) (by kernel_rfl) (by kernel_rfl) (fun _ _ _ h => h) (Or.inl ⟨by rfl, ?_⟩) (by assumption) ?_
     rotate_left
     ·intro w hSw
      (try dsimp only at hSw)
      go_simp
      try with_reducible rfl
     try simp only [Act.put, List.setIfInBounds_toArray, List.set_cons_zero, List.set_cons_succ]
     refine wpAnyH_take (i := 11) (oi := { dst := some 27, op := Op.pick (Operand.tmp 19) (Operand.tmp 26) (Operand.const (Value.bool false)), type := 4, pos := "l03_normal.go:56", after := #[{ on := 3, ground := Ground.data }, { on := 10, ground := Ground.data }], guard := none }) (v := ?_) rfl (by kernel_rfl) (by kernel_rfl) (by kernel_rfl) (fun _ _ _ h => h) (Or.inl ⟨by rfl, ?_⟩) (by assumption) ?_
     rotate_left
     ·intro w hSw
      (try dsimp only at hSw)
      go_simp
      try with_reducible rfl
     try simp only [Act.put, List.setIfInBounds_toArray, List.set_cons_zero, List.set_cons_succ]
     refine wpAnyH_done (by kernel_rfl) ?_ _
     have HLM : Hid (firstM m R ≤ lastM m R ∧ lastM m R ≤ n2) := Lib.hid ⟨lastM_ge m R, by have := lastM_le m R; have := HRL.out; omega⟩
     have hlm := HLM.out
     go_wp2
     go_loopg [8] (n2 - lastM m R) (fun g v wx => ∃ j : Nat, j ≤ n2 ∧ g + lastM m R = j ∧ v = .int .i64 j ∧ AtWei w wx gb n2 c2 R ∧ At3 wx w.heap.size (.int .i64 0) (.int .i64 0) (.slice none 0 0))
     case atStart => exact ⟨n2, Nat.le_refl _, by omega, rfl, F.out, Z.out⟩
     case round =>
      obtain ⟨j, hj, hgj, rfl, hF, hZ⟩ := hrel
      clear F Z
      have F := Lib.hid hF
      have Z := Lib.hid hZ
      clear hF hZ
      have hRL := HRL.out
      have hfe := HFE.out
      by_cases hlt : f < j
      ·obtain ⟨i, rfl⟩ : ∃ i, j = i + 1 := ⟨j - 1, by omega⟩
       obtain ⟨ra, hra⟩ : ∃ ra, ra = rowAt R i := ⟨_, rfl⟩
       have HRA : Hid (∀ W, AtWei w W gb n2 c2 R → Cells8 W gb (i * 8) ra) := Lib.hid fun W h => by rw [hra]; exact h.row i (by omega)
       have SA : Hid (Sim m ra) := Lib.hid (by rw [hra]; exact rows_sims.1 SR.out i (by omega))
       have hi1 : (i : Int) < (n2 : Int) := by omega
       have hi2 : (0 : Int) ≤ (i : Int) := by omega
       have hi3 : ((f : Nat) : Int) < (i : Int) + 1 := by omega
       have hw1 : IntKind.i64.wrap (i : Int) = (i : Int) := IntWalk.i64_in _ (by omega)
       by_cases he : ra = sameR m
       ·have hjs : lastM m R < i + 1 := by
         rcases Nat.lt_or_ge (lastM m R) (i + 1) with h | h
         ·exact h
         ·exfalso
          have h2 : i = lastM m R - 1 := by omega
          rw [hra, h2] at he
          exact last_end m R (by omega) he
        have heq1 : ∀ W, Sem.run Try.prog (Op.equalIn 10000 53 (arr8 .u8 ra) (arr8 .u8 (sameR m))) W = .ok true W := fun W => by rw [equal8 ra (sameR m) SA.out.len (mapR_len _ _ m8) W, decide_eq_true he]
        clear he hra hfe
        go_upto_region 7 with fail
        replace F := Lib.hid F.out.drew
        replace Z := Lib.hid Z.out.drew
        refine wp_region_held_drew (S := (fun w' => w'.cell? ⟨gb, i * 8, none⟩ = some (.int .u8 (at8 ra 0)) ∧ w'.cell? ⟨gb, i * 8 + 1, none⟩ = some (.int .u8 (at8 ra 1)) ∧ w'.cell? ⟨gb, i * 8 + 2, none⟩ = some (.int .u8 (at8 ra 2)) ∧ w'.cell? ⟨gb, i * 8 + 3, none⟩ = some (.int .u8 (at8 ra 3)) ∧ w'.cell? ⟨gb, i * 8 + 4, none⟩ = some (.int .u8 (at8 ra 4)) ∧ w'.cell? ⟨gb, i * 8 + 5, none⟩ = some (.int .u8 (at8 ra 5)) ∧ w'.cell? ⟨gb, i * 8 + 6, none⟩ = some (.int .u8 (at8 ra 6)) ∧ w'.cell? ⟨gb, i * 8 + 7, none⟩ = some (.int .u8 (at8 ra 7)))) (by kernel_rfl) ?_ (fun hHeld => ?_)
        ·with_reducible exact (HRA.out _ F.out).flat
        refine wpAnyH_take (i := 0) (oi := { dst := some 32, op := Op.move (Operand.tmp 8), type := 3, pos := "l03_normal.go:61", after := #[], guard := none }) (v := ?_) rfl (by kernel_rfl) (by kernel_rfl) (by kernel_rfl) (fun _ _ _ h => h) (Or.inl ⟨by rfl, ?_⟩) (by assumption) ?_
        rotate_left
        ·intro w hSw
         (try dsimp only at hSw)
         go_simp
         try with_reducible rfl
        try simp only [Act.put, List.setIfInBounds_toArray, List.set_cons_zero, List.set_cons_succ]
        refine wpAnyH_take (i := 1) (oi := { dst := some 33, op := Op.move (Operand.tmp 7), type := 3, pos := "l03_normal.go:61", after := #[], guard := none }) (v := ?_) rfl (by kernel_rfl) (by kernel_rfl) (by kernel_rfl) (fun _ _ _ h => h) (Or.inl ⟨by rfl, ?_⟩) (by assumption) ?_
        rotate_left
        ·intro w hSw
         (try dsimp only at hSw)
         go_simp
         try with_reducible rfl
        try simp only [Act.put, List.setIfInBounds_toArray, List.set_cons_zero, List.set_cons_succ]
        refine wpAnyH_take (i := 2) (oi := { dst := some 34, op := Op.binOp BinOp.gtr 3 (Operand.tmp 32) (Operand.tmp 33) 3, type := 4, pos := "l03_normal.go:61", after := #[{ on := 0, ground := Ground.data }, { on := 1, ground := Ground.data }], guard := none }) (v := ?_) rfl (by kernel_rfl) (by kernel_rfl) (by kernel_rfl) (fun _ _ _ h => h) (Or.inl ⟨by rfl, ?_⟩) (by assumption) ?_
        rotate_left
        ·intro w hSw
         (try dsimp only at hSw)
         go_simp
         try with_reducible rfl
        try simp only [Act.put, List.setIfInBounds_toArray, List.set_cons_zero, List.set_cons_succ]
        refine wpAnyH_take (i := 3) (oi := { dst := some 35, op := Op.move (Operand.tmp 34), type := 4, pos := "l03_normal.go:61", after := #[{ on := 2, ground := Ground.data }], guard := none }) (v := ?_) rfl (by kernel_rfl) (by kernel_rfl) (by kernel_rfl) (fun _ _ _ h => h) (Or.inl ⟨by rfl, ?_⟩) (by assumption) ?_
        rotate_left
        ·intro w hSw
         (try dsimp only at hSw)
         go_simp
         try with_reducible rfl
        try simp only [Act.put, List.setIfInBounds_toArray, List.set_cons_zero, List.set_cons_succ]
        refine wpAnyH_take (i := 4) (oi := { dst := some 36, op := Op.move (Operand.tmp 2), type := 26, pos := "l03_normal.go:61", after := #[{ on := 3, ground := Ground.guard }], guard := some (3, true) }) (v := ?_) rfl (by kernel_rfl) (by kernel_rfl) (by kernel_rfl) (fun _ _ _ h => h) (Or.inl ⟨by rfl, ?_⟩) (by assumption) ?_
        rotate_left
        ·intro w hSw
         (try dsimp only at hSw)
         go_simp
         try with_reducible rfl
        try simp only [Act.put, List.setIfInBounds_toArray, List.set_cons_zero, List.set_cons_succ]
        refine wpAnyH_take (i := 5) (oi := { dst := some 37, op := Op.move (Operand.tmp 8), type := 3, pos := "l03_normal.go:61", after := #[{ on := 3, ground := Ground.guard }], guard := some (3, true) }) (v := ?_) rfl (by kernel_rfl) (by kernel_rfl) (by kernel_rfl) (fun _ _ _ h => h) (Or.inl ⟨by rfl, ?_⟩) (by assumption) ?_
        rotate_left
        ·intro w hSw
         (try dsimp only at hSw)
         go_simp
         try with_reducible rfl
        try simp only [Act.put, List.setIfInBounds_toArray, List.set_cons_zero, List.set_cons_succ]
        refine wpAnyH_take (i := 6) (oi := { dst := some 38, op := Op.binOp BinOp.sub 3 (Operand.tmp 37) (Operand.const (Value.int IntKind.i64 1)) 3, type := 3, pos := "l03_normal.go:61", after := #[{ on := 5, ground := Ground.data }, { on := 3, ground := Ground.guard }], guard := some (3, true) }) (v := ?_) rfl (by kernel_rfl) (by kernel_rfl) (by kernel_rfl) (fun _ _ _ h => h) (Or.inl ⟨by rfl, ?_⟩) (by assumption) ?_
        rotate_left
        ·intro w hSw
         (try dsimp only at hSw)
         go_simp
         try with_reducible rfl
        try simp only [Act.put, List.setIfInBounds_toArray, List.set_cons_zero, List.set_cons_succ]
        refine wpAnyH_take (i := 7) (oi := { dst := some 39, op := Op.indexAddr 26 (Operand.tmp 36) (Operand.tmp 38), type := 0, pos := "l03_normal.go:61", after := #[{ on := 4, ground := Ground.data }, { on := 6, ground := Ground.data }, { on := 3, ground := Ground.guard }], guard := some (3, true) }) (v := ?_) rfl (by kernel_rfl) (by kernel_rfl) (by kernel_rfl) (fun _ _ _ h => h) (Or.inl ⟨by rfl, ?_⟩) (by assumption) ?_
        rotate_left
        ·intro w hSw
         (try dsimp only at hSw)
         go_simp
         try with_reducible rfl
        try simp only [Act.put, List.setIfInBounds_toArray, List.set_cons_zero, List.set_cons_succ]
        refine wpAnyH_take (i := 8) (oi := { dst := some 40, op := Op.load 53 (Operand.tmp 39), type := 53, pos := "l03_normal.go:61", after := #[{ on := 7, ground := Ground.data }, { on := 3, ground := Ground.guard }], guard := some (3, true) }) (v := ?_) rfl (by kernel_rfl) (by kernel_rfl) (by kernel_rfl) (fun _ _ _ h => h) (Or.inl ⟨by rfl, ?_⟩) (by assumption) ?_
        rotate_left
        ·intro w hSw
         (try dsimp only at hSw)
         go_simp
         try with_reducible rfl
        try simp only [Act.put, List.setIfInBounds_toArray, List.set_cons_zero, List.set_cons_succ]
        refine wpAnyH_take (i := 9) (oi := { dst := some 41, op := Op.move (Operand.tmp 0), type := 2, pos := "l03_normal.go:61", after := #[{ on := 3, ground := Ground.guard }], guard := some (3, true) }) (v := ?_) rfl (by kernel_rfl) (by kernel_rfl) (by kernel_rfl) (fun _ _ _ h => h) (Or.inl ⟨by rfl, ?_⟩) (by assumption) ?_
        rotate_left
        ·intro w hSw
         (try dsimp only at hSw)
         go_simp
         try with_reducible rfl
        try simp only [Act.put, List.setIfInBounds_toArray, List.set_cons_zero, List.set_cons_succ]
        refine wpAnyH_ready (rs := [10]) (by kernel_rfl) (by simp) ?_
        refine AllReadyH.cons (o := { dst := some 42, op := Op.call { callee := Callee.value (Operand.func 36), args := #[Operand.tmp 41], argTypes := #[2] }, type := 53, pos := "l03_normal.go:61", after := #[{ on := 9, ground := Ground.data }, { on := 3, ground := Ground.chain }, { on := 3, ground := Ground.guard }], guard := some (3, true) }) rfl (fun K hK => ?_) AllReadyH.nil
        go_simp
        (refine (l02Same_any m m8 _).mono ?_; rintro e w4 ⟨rfl, gg⟩; replace F := Lib.hid (F.out.below gg); replace Z := Lib.hid (Z.out.below gg))
        go_wp2_with fail
        refine hK.out _ _ ?_ (fun hHeld => ?_)
        ·with_reducible exact (HRA.out _ F.out).flat
        clear hK K
        try simp only [Act.put, List.setIfInBounds_toArray, List.set_cons_zero, List.set_cons_succ]
        refine wpAnyH_take (i := 11) (oi := { dst := some 43, op := Op.binOp BinOp.eql 53 (Operand.tmp 40) (Operand.tmp 42) 53, type := 4, pos := "l03_normal.go:61", after := #[{ on := 8, ground := Ground.data }, { on := 10, ground := Ground.data }, { on := 3, ground := Ground.guard }], guard := some (3, true) }) (v := ?_) rfl (by kernel_rfl) (by kernel_rfl) (by kernel_rfl) (fun _ _ _ h => h) (Or.inl ⟨by rfl, ?_⟩) (by assumption) ?_
        rotate_left
        ·intro w hSw
         (try dsimp only at hSw)
         go_simp
         try with_reducible rfl
        try simp only [Act.put, List.setIfInBounds_toArray, List.set_cons_zero, List.set_cons_succ]
        refine wpAnyH_take (i := 12) (oi := { dst := some 44, op := Op.pick (Operand.tmp 35) (Operand.tmp 43) (Operand.const (Value.bool false)), type := 4, pos := "l03_normal.go:61", after := #[{ on := 3, ground := Ground.data }, { on := 11, ground := Ground.data }], guard := none }) (v := ?_) rfl (by kernel_rfl) (by kernel_rfl) (by kernel_rfl) (fun _ _ _ h => h) (Or.inl ⟨by rfl, ?_⟩) (by assumption) ?_
        rotate_left
        ·intro w hSw
         (try dsimp only at hSw)
         go_simp
         try with_reducible rfl
        try simp only [Act.put, List.setIfInBounds_toArray, List.set_cons_zero, List.set_cons_succ]
        refine wpAnyH_done (by kernel_rfl) ?_ _
        go_wp2
        go_roundg (gk - 1)
        case measure => omega
        case rel => exact ⟨i, by omega, by omega, by go_num, F.out, Z.out⟩
       ·have hje : i + 1 = lastM m R := by
         rcases Nat.lt_or_ge (lastM m R) (i + 1) with h | h
         ·exfalso
          have := last_at m R (i + 1) h (by omega)
          rw [show i + 1 - 1 = i by omega, ← hra] at this
          exact he this
         ·omega
        have heq1 : ∀ W, Sem.run Try.prog (Op.equalIn 10000 53 (arr8 .u8 ra) (arr8 .u8 (sameR m))) W = .ok false W := fun W => by rw [equal8 ra (sameR m) SA.out.len (mapR_len _ _ m8) W, decide_eq_false he]
        have HJE := Lib.hid hje
        clear he hra hje hfe
        go_upto_region 7 with fail
        replace F := Lib.hid F.out.drew
        replace Z := Lib.hid Z.out.drew
        refine wp_region_held_drew (S := (fun w' => w'.cell? ⟨gb, i * 8, none⟩ = some (.int .u8 (at8 ra 0)) ∧ w'.cell? ⟨gb, i * 8 + 1, none⟩ = some (.int .u8 (at8 ra 1)) ∧ w'.cell? ⟨gb, i * 8 + 2, none⟩ = some (.int .u8 (at8 ra 2)) ∧ w'.cell? ⟨gb, i * 8 + 3, none⟩ = some (.int .u8 (at8 ra 3)) ∧ w'.cell? ⟨gb, i * 8 + 4, none⟩ = some (.int .u8 (at8 ra 4)) ∧ w'.cell? ⟨gb, i * 8 + 5, none⟩ = some (.int .u8 (at8 ra 5)) ∧ w'.cell? ⟨gb, i * 8 + 6, none⟩ = some (.int .u8 (at8 ra 6)) ∧ w'.cell? ⟨gb, i * 8 + 7, none⟩ = some (.int .u8 (at8 ra 7)))) (by kernel_rfl) ?_ (fun hHeld => ?_)
        ·with_reducible exact (HRA.out _ F.out).flat
        refine wpAnyH_take (i := 0) (oi := { dst := some 32, op := Op.move (Operand.tmp 8), type := 3, pos := "l03_normal.go:61", after := #[], guard := none }) (v := ?_) rfl (by kernel_rfl) (by kernel_rfl) (by kernel_rfl) (fun _ _ _ h => h) (Or.inl ⟨by rfl, ?_⟩) (by assumption) ?_
        rotate_left
        ·intro w hSw
         (try dsimp only at hSw)
         go_simp
         try with_reducible rfl
        try simp only [Act.put, List.setIfInBounds_toArray, List.set_cons_zero, List.set_cons_succ]
        refine wpAnyH_take (i := 1) (oi := { dst := some 33, op := Op.move (Operand.tmp 7), type := 3, pos := "l03_normal.go:61", after := #[], guard := none }) (v := ?_) rfl (by kernel_rfl) (by kernel_rfl) (by kernel_rfl) (fun _ _ _ h => h) (Or.inl ⟨by rfl, ?_⟩) (by assumption) ?_
        rotate_left
        ·intro w hSw
         (try dsimp only at hSw)
         go_simp
         try with_reducible rfl
        try simp only [Act.put, List.setIfInBounds_toArray, List.set_cons_zero, List.set_cons_succ]
        refine wpAnyH_take (i := 2) (oi := { dst := some 34, op := Op.binOp BinOp.gtr 3 (Operand.tmp 32) (Operand.tmp 33) 3, type := 4, pos := "l03_normal.go:61", after := #[{ on := 0, ground := Ground.data }, { on := 1, ground := Ground.data }], guard := none }) (v := ?_) rfl (by kernel_rfl) (by kernel_rfl) (by kernel_rfl) (fun _ _ _ h => h) (Or.inl ⟨by rfl, ?_⟩) (by assumption) ?_
        rotate_left
        ·intro w hSw
         (try dsimp only at hSw)
         go_simp
         try with_reducible rfl
        try simp only [Act.put, List.setIfInBounds_toArray, List.set_cons_zero, List.set_cons_succ]
        refine wpAnyH_take (i := 3) (oi := { dst := some 35, op := Op.move (Operand.tmp 34), type := 4, pos := "l03_normal.go:61", after := #[{ on := 2, ground := Ground.data }], guard := none }) (v := ?_) rfl (by kernel_rfl) (by kernel_rfl) (by kernel_rfl) (fun _ _ _ h => h) (Or.inl ⟨by rfl, ?_⟩) (by assumption) ?_
        rotate_left
        ·intro w hSw
         (try dsimp only at hSw)
         go_simp
         try with_reducible rfl
        try simp only [Act.put, List.setIfInBounds_toArray, List.set_cons_zero, List.set_cons_succ]
        refine wpAnyH_take (i := 4) (oi := { dst := some 36, op := Op.move (Operand.tmp 2), type := 26, pos := "l03_normal.go:61", after := #[{ on := 3, ground := Ground.guard }], guard := some (3, true) }) (v := ?_) rfl (by kernel_rfl) (by kernel_rfl) (by kernel_rfl) (fun _ _ _ h => h) (Or.inl ⟨by rfl, ?_⟩) (by assumption) ?_
        rotate_left
        ·intro w hSw
         (try dsimp only at hSw)
         go_simp
         try with_reducible rfl
        try simp only [Act.put, List.setIfInBounds_toArray, List.set_cons_zero, List.set_cons_succ]
        refine wpAnyH_take (i := 5) (oi := { dst := some 37, op := Op.move (Operand.tmp 8), type := 3, pos := "l03_normal.go:61", after := #[{ on := 3, ground := Ground.guard }], guard := some (3, true) }) (v := ?_) rfl (by kernel_rfl) (by kernel_rfl) (by kernel_rfl) (fun _ _ _ h => h) (Or.inl ⟨by rfl, ?_⟩) (by assumption) ?_
        rotate_left
        ·intro w hSw
         (try dsimp only at hSw)
         go_simp
         try with_reducible rfl
        try simp only [Act.put, List.setIfInBounds_toArray, List.set_cons_zero, List.set_cons_succ]
        refine wpAnyH_take (i := 6) (oi := { dst := some 38, op := Op.binOp BinOp.sub 3 (Operand.tmp 37) (Operand.const (Value.int IntKind.i64 1)) 3, type := 3, pos := "l03_normal.go:61", after := #[{ on := 5, ground := Ground.data }, { on := 3, ground := Ground.guard }], guard := some (3, true) }) (v := ?_) rfl (by kernel_rfl) (by kernel_rfl) (by kernel_rfl) (fun _ _ _ h => h) (Or.inl ⟨by rfl, ?_⟩) (by assumption) ?_
        rotate_left
        ·intro w hSw
         (try dsimp only at hSw)
         go_simp
         try with_reducible rfl
        try simp only [Act.put, List.setIfInBounds_toArray, List.set_cons_zero, List.set_cons_succ]
        refine wpAnyH_take (i := 7) (oi := { dst := some 39, op := Op.indexAddr 26 (Operand.tmp 36) (Operand.tmp 38), type := 0, pos := "l03_normal.go:61", after := #[{ on := 4, ground := Ground.data }, { on := 6, ground := Ground.data }, { on := 3, ground := Ground.guard }], guard := some (3, true) }) (v := ?_) rfl (by kernel_rfl) (by kernel_rfl) (by kernel_rfl) (fun _ _ _ h => h) (Or.inl ⟨by rfl, ?_⟩) (by assumption) ?_
        rotate_left
        ·intro w hSw
         (try dsimp only at hSw)
         go_simp
         try with_reducible rfl
        try simp only [Act.put, List.setIfInBounds_toArray, List.set_cons_zero, List.set_cons_succ]
        refine wpAnyH_take (i := 8) (oi := { dst := some 40, op := Op.load 53 (Operand.tmp 39), type := 53, pos := "l03_normal.go:61", after := #[{ on := 7, ground := Ground.data }, { on := 3, ground := Ground.guard }], guard := some (3, true) }) (v := ?_) rfl (by kernel_rfl) (by kernel_rfl) (by kernel_rfl) (fun _ _ _ h => h) (Or.inl ⟨by rfl, ?_⟩) (by assumption) ?_
        rotate_left
        ·intro w hSw
         (try dsimp only at hSw)
         go_simp
         try with_reducible rfl
        try simp only [Act.put, List.setIfInBounds_toArray, List.set_cons_zero, List.set_cons_succ]
        refine wpAnyH_take (i := 9) (oi := { dst := some 41, op := Op.move (Operand.tmp 0), type := 2, pos := "l03_normal.go:61", after := #[{ on := 3, ground := Ground.guard }], guard := some (3, true) }) (v := ?_) rfl (by kernel_rfl) (by kernel_rfl) (by kernel_rfl) (fun _ _ _ h => h) (Or.inl ⟨by rfl, ?_⟩) (by assumption) ?_
        rotate_left
        ·intro w hSw
         (try dsimp only at hSw)
         go_simp
         try with_reducible rfl
        try simp only [Act.put, List.setIfInBounds_toArray, List.set_cons_zero, List.set_cons_succ]
        refine wpAnyH_ready (rs := [10]) (by kernel_rfl) (by simp) ?_
        refine AllReadyH.cons (o := { dst := some 42, op := Op.call { callee := Callee.value (Operand.func 36), args := #[Operand.tmp 41], argTypes := #[2] }, type := 53, pos := "l03_normal.go:61", after := #[{ on := 9, ground := Ground.data }, { on := 3, ground := Ground.chain }, { on := 3, ground := Ground.guard }], guard := some (3, true) }) rfl (fun K hK => ?_) AllReadyH.nil
        go_simp
        (refine (l02Same_any m m8 _).mono ?_; rintro e w4 ⟨rfl, gg⟩; replace F := Lib.hid (F.out.below gg); replace Z := Lib.hid (Z.out.below gg))
        go_wp2_with fail
        refine hK.out _ _ ?_ (fun hHeld => ?_)
        ·with_reducible exact (HRA.out _ F.out).flat
        clear hK K
        try simp only [Act.put, List.setIfInBounds_toArray, List.set_cons_zero, List.set_cons_succ]
        refine wpAnyH_take (i := 11) (oi := { dst := some 43, op := Op.binOp BinOp.eql 53 (Operand.tmp 40) (Operand.tmp 42) 53, type := 4, pos := "l03_normal.go:61", after := #[{ on := 8, ground := Ground.data }, { on := 10, ground := Ground.data }, { on := 3, ground := Ground.guard }], guard := some (3, true) }) (v := ?_) rfl (by kernel_rfl) (by kernel_rfl) (by kernel_rfl) (fun _ _ _ h => h) (Or.inl ⟨by rfl, ?_⟩) (by assumption) ?_
        rotate_left
        ·intro w hSw
         (try dsimp only at hSw)
         go_simp
         try with_reducible rfl
        try simp only [Act.put, List.setIfInBounds_toArray, List.set_cons_zero, List.set_cons_succ]
        refine wpAnyH_take (i := 12) (oi := { dst := some 44, op := Op.pick (Operand.tmp 35) (Operand.tmp 43) (Operand.const (Value.bool false)), type := 4, pos := "l03_normal.go:61", after := #[{ on := 3, ground := Ground.data }, { on := 11, ground := Ground.data }], guard := none }) (v := ?_) rfl (by kernel_rfl) (by kernel_rfl) (by kernel_rfl) (fun _ _ _ h => h) (Or.inl ⟨by rfl, ?_⟩) (by assumption) ?_
        rotate_left
        ·intro w hSw
         (try dsimp only at hSw)
         go_simp
         try with_reducible rfl
        try simp only [Act.put, List.setIfInBounds_toArray, List.set_cons_zero, List.set_cons_succ]
        refine wpAnyH_done (by kernel_rfl) ?_ _
        have hcap := F.out.cap
        have hsub := F.out.sub (f) (i + 1) (by omega) (by omega)
        have HX : Hid ((R.take (i + 1)).drop (f) = restM m R) := Lib.hid (by unfold restM; rw [← HFE.out, ← HJE.out])
        rw [HX.out] at hsub
        have HSB := Lib.hid hsub
        clear hsub
        have hc1 : (i + 1 : Int) ≤ (c2 : Int) := by omega
        have hc2 : ((f : Nat) : Int) ≤ (i + 1 : Int) := by omega
        by_cases hcf : c2 = f
        ·first
          | (exfalso; omega)
          | skip
         all_goals
          have HRZ : Hid (restM m R = []) := Lib.hid (List.eq_nil_of_length_eq_zero (by have h1 := HSB.out.len; omega))
          have HNZ : Hid (∀ (W : World) (ao : Option Addr), ReadsA W ao (i + 1 - f) (restM m R)) := Lib.hid fun W ao => by rw [HRZ.out, show i + 1 - f = 0 by omega]; exact ReadsA.zero
          go_wp2_with (at_builtin; refine wpList_append_rows_at rfl _ _ 26 rfl _ i0 Try.underlying26 hi hz0 hz1 hz2 _ _ _ rfl (OwnAV.empty _) _ _ _ (restM m R) rfl (HNZ.out _ _) (by omega) (by simp) ?_)
          intro v' w5 ho' hg hv
          have Z5 := (Z.out.alloc (.cells #[] 53)).heap hg.size (hg.block _ (Z.out.alloc _).1 fun e => by have := Z.out.1; simp [Value.ownBlock] at e; omega)
          have B5 : Hid (Below w.heap.size w w5) := Lib.hid (by
           have z9 := F.out.bel.size
           first
            | exact below_ownA (F.out.bel.alloc z9 (.cells #[] 53)) (by simp; omega) z9 (OwnAV.empty _) hg
            | exact below_ownA (F.out.bel.alloc z9 (.cells #[] 53)).drew (by simp; omega) z9 (OwnAV.empty _).drew hg)
          have z5 := Z.out.1
          obtain ⟨a', c', rfl, hoA⟩ := ho'.form
          have HOA := Lib.hid hoA
          clear ho' hg hv hoA
          have Z6 := Lib.hid Z5
          obtain ⟨x0, ⟨x1, x2, x3⟩, y1, y2, y3⟩ := Z5
          go_wp2
          try rw [Exit.noGoto_ret]
          obtain ⟨_, ⟨e1, e2, e3⟩, _⟩ := Z6.out.fill (.int .i64 m) (.int .i64 (p + (f : Int))) (.slice a' (i + 1 - f) c')
          refine bodyPost_ret (v := .agg #[.int .i64 m, .int .i64 (p + (f : Int)), .slice a' (i + 1 - f) c']) (by simp [results, Try.results24, go_sem, e1, e2, e3]) rfl ⟨a', _, c', by simp [← HFE.out], ((((HOA.out.setCell_below (p := ⟨w.heap.size, 0, none⟩) z5 _).setCell_below (p := ⟨w.heap.size, 1, none⟩) z5 _).setCell_below (p := ⟨w.heap.size, 2, none⟩) z5 _)).mono (Nat.le_of_lt z5), ((B5.out.setCell (p := ⟨w.heap.size, 0, none⟩) (Nat.le_refl _) _).setCell (p := ⟨w.heap.size, 1, none⟩) (Nat.le_refl _) _).setCell (p := ⟨w.heap.size, 2, none⟩) (Nat.le_refl _) _⟩
        ·try (exfalso; omega)
         all_goals
          go_wp2_with (at_builtin; refine wpList_append_rows_at rfl _ _ 26 rfl _ i0 Try.underlying26 hi hz0 hz1 hz2 _ _ _ rfl (OwnAV.empty _) _ _ _ (restM m R) rfl (HSB.out.alloc _) (by omega) (by simp) ?_)
          intro v' w5 ho' hg hv
          have Z5 := (Z.out.alloc (.cells #[] 53)).heap hg.size (hg.block _ (Z.out.alloc _).1 fun e => by have := Z.out.1; simp [Value.ownBlock] at e; omega)
          have B5 : Hid (Below w.heap.size w w5) := Lib.hid (by
           have z9 := F.out.bel.size
           first
            | exact below_ownA (F.out.bel.alloc z9 (.cells #[] 53)) (by simp; omega) z9 (OwnAV.empty _) hg
            | exact below_ownA (F.out.bel.alloc z9 (.cells #[] 53)).drew (by simp; omega) z9 (OwnAV.empty _).drew hg)
          have z5 := Z.out.1
          obtain ⟨a', c', rfl, hoA⟩ := ho'.form
          have HOA := Lib.hid hoA
          clear ho' hg hv hoA
          have Z6 := Lib.hid Z5
          obtain ⟨x0, ⟨x1, x2, x3⟩, y1, y2, y3⟩ := Z5
          go_wp2
          try rw [Exit.noGoto_ret]
          obtain ⟨_, ⟨e1, e2, e3⟩, _⟩ := Z6.out.fill (.int .i64 m) (.int .i64 (p + (f : Int))) (.slice a' (i + 1 - f) c')
          refine bodyPost_ret (v := .agg #[.int .i64 m, .int .i64 (p + (f : Int)), .slice a' (i + 1 - f) c']) (by simp [results, Try.results24, go_sem, e1, e2, e3]) rfl ⟨a', _, c', by simp [← HFE.out], ((((HOA.out.setCell_below (p := ⟨w.heap.size, 0, none⟩) z5 _).setCell_below (p := ⟨w.heap.size, 1, none⟩) z5 _).setCell_below (p := ⟨w.heap.size, 2, none⟩) z5 _)).mono (Nat.le_of_lt z5), ((B5.out.setCell (p := ⟨w.heap.size, 0, none⟩) (Nat.le_refl _) _).setCell (p := ⟨w.heap.size, 1, none⟩) (Nat.le_refl _) _).setCell (p := ⟨w.heap.size, 2, none⟩) (Nat.le_refl _) _⟩
      ·have hje : j = lastM m R := by omega
       have HJE := Lib.hid hje
       have hi3 : ¬ ((f : Nat) : Int) < (j : Int) := by omega
       clear hje hfe
       go_upto_region 7 with fail
       refine wp_region_held_drew (S := (fun _ => True)) (by kernel_rfl) ?_ (fun hHeld => ?_)
       ·trivial
       refine wpAnyH_take (i := 0) (oi := { dst := some 32, op := Op.move (Operand.tmp 8), type := 3, pos := "l03_normal.go:61", after := #[], guard := none }) (v := ?_) rfl (by kernel_rfl) (by kernel_rfl) (by kernel_rfl) (fun _ _ _ h => h) (Or.inl ⟨by rfl, ?_⟩) (by assumption) ?_
       rotate_left
       ·intro w hSw
        (try dsimp only at hSw)
        go_simp
        try with_reducible rfl
       try simp only [Act.put, List.setIfInBounds_toArray, List.set_cons_zero, List.set_cons_succ]
       refine wpAnyH_take (i := 1) (oi := { dst := some 33, op := Op.move (Operand.tmp 7), type := 3, pos := "l03_normal.go:61", after := #[], guard := none }) (v := ?_) rfl (by kernel_rfl) (by kernel_rfl) (by kernel_rfl) (fun _ _ _ h => h) (Or.inl ⟨by rfl, ?_⟩) (by assumption) ?_
       rotate_left
       ·intro w hSw
        (try dsimp only at hSw)
        go_simp
        try with_reducible rfl
       try simp only [Act.put, List.setIfInBounds_toArray, List.set_cons_zero, List.set_cons_succ]
       refine wpAnyH_take (i := 2) (oi := { dst := some 34, op := Op.binOp BinOp.gtr 3 (Operand.tmp 32) (Operand.tmp 33) 3, type := 4, pos := "l03_normal.go:61", after := #[{ on := 0, ground := Ground.data }, { on := 1, ground := Ground.data }], guard := none }) (v := ?_) rfl (by kernel_rfl) (by kernel_rfl) (by kernel_rfl) (fun _ _ _ h => h) (Or.inl ⟨by rfl, ?_⟩) (by assumption) ?_
       rotate_left
       ·intro w hSw
        (try dsimp only at hSw)
        go_simp
        try with_reducible rfl
       try simp only [Act.put, List.setIfInBounds_toArray, List.set_cons_zero, List.set_cons_succ]
       refine wpAnyH_take (i := 3) (oi := { dst := some 35, op := Op.move (Operand.tmp 34), type := 4, pos := "l03_normal.go:61", after := #[{ on := 2, ground := Ground.data }], guard := none }) (v := ?_) rfl (by kernel_rfl) (by kernel_rfl) (by kernel_rfl) (fun _ _ _ h => h) (Or.inl ⟨by rfl, ?_⟩) (by assumption) ?_
       rotate_left
       ·intro w hSw
        (try dsimp only at hSw)
        go_simp
        try with_reducible rfl
       try simp only [Act.put, List.setIfInBounds_toArray, List.set_cons_zero, List.set_cons_succ]
       refine wpAnyH_take (i := 4) (oi := { dst := some 36, op := Op.move (Operand.tmp 2), type := 26, pos := "l03_normal.go:61", after := #[{ on := 3, ground := Ground.guard }], guard := some (3, true) }) (v := undef) rfl (by kernel_rfl) (by kernel_rfl) (by kernel_rfl) (fun _ _ _ h => h) (Or.inr ⟨by rfl, rfl⟩) (by assumption) ?_
       try simp only [Act.put, List.setIfInBounds_toArray, List.set_cons_zero, List.set_cons_succ]
       refine wpAnyH_take (i := 5) (oi := { dst := some 37, op := Op.move (Operand.tmp 8), type := 3, pos := "l03_normal.go:61", after := #[{ on := 3, ground := Ground.guard }], guard := some (3, true) }) (v := undef) rfl (by kernel_rfl) (by kernel_rfl) (by kernel_rfl) (fun _ _ _ h => h) (Or.inr ⟨by rfl, rfl⟩) (by assumption) ?_
       try simp only [Act.put, List.setIfInBounds_toArray, List.set_cons_zero, List.set_cons_succ]
       refine wpAnyH_take (i := 6) (oi := { dst := some 38, op := Op.binOp BinOp.sub 3 (Operand.tmp 37) (Operand.const (Value.int IntKind.i64 1)) 3, type := 3, pos := "l03_normal.go:61", after := #[{ on := 5, ground := Ground.data }, { on := 3, ground := Ground.guard }], guard := some (3, true) }) (v := undef) rfl (by kernel_rfl) (by kernel_rfl) (by kernel_rfl) (fun _ _ _ h => h) (Or.inr ⟨by rfl, rfl⟩) (by assumption) ?_
       try simp only [Act.put, List.setIfInBounds_toArray, List.set_cons_zero, List.set_cons_succ]
       refine wpAnyH_take (i := 7) (oi := { dst := some 39, op := Op.indexAddr 26 (Operand.tmp 36) (Operand.tmp 38), type := 0, pos := "l03_normal.go:61", after := #[{ on := 4, ground := Ground.data }, { on := 6, ground := Ground.data }, { on := 3, ground := Ground.guard }], guard := some (3, true) }) (v := undef) rfl (by kernel_rfl) (by kernel_rfl) (by kernel_rfl) (fun _ _ _ h => h) (Or.inr ⟨by rfl, rfl⟩) (by assumption) ?_
       try simp only [Act.put, List.setIfInBounds_toArray, List.set_cons_zero, List.set_cons_succ]
       refine wpAnyH_take (i := 8) (oi := { dst := some 40, op := Op.load 53 (Operand.tmp 39), type := 53, pos := "l03_normal.go:61", after := #[{ on := 7, ground := Ground.data }, { on := 3, ground := Ground.guard }], guard := some (3, true) }) (v := undef) rfl (by kernel_rfl) (by kernel_rfl) (by kernel_rfl) (fun _ _ _ h => h) (Or.inr ⟨by rfl, rfl⟩) (by assumption) ?_
       try simp only [Act.put, List.setIfInBounds_toArray, List.set_cons_zero, List.set_cons_succ]
       refine wpAnyH_take (i := 9) (oi := { dst := some 41, op := Op.move (Operand.tmp 0), type := 2, pos := "l03_normal.go:61", after := #[{ on := 3, ground := Ground.guard }], guard := some (3, true) }) (v := undef) rfl (by kernel_rfl) (by kernel_rfl) (by kernel_rfl) (fun _ _ _ h => h) (Or.inr ⟨by rfl, rfl⟩) (by assumption) ?_
       try simp only [Act.put, List.setIfInBounds_toArray, List.set_cons_zero, List.set_cons_succ]
       refine wpAnyH_ready (rs := [10]) (by kernel_rfl) (by simp) ?_
       refine AllReadyH.cons (o := { dst := some 42, op := Op.call { callee := Callee.value (Operand.func 36), args := #[Operand.tmp 41], argTypes := #[2] }, type := 53, pos := "l03_normal.go:61", after := #[{ on := 9, ground := Ground.data }, { on := 3, ground := Ground.chain }, { on := 3, ground := Ground.guard }], guard := some (3, true) }) rfl (fun K hK => ?_) AllReadyH.nil
       go_simp
       refine hK.out _ _ ?_ (fun hHeld => ?_)
       ·trivial
       clear hK K
       try simp only [Act.put, List.setIfInBounds_toArray, List.set_cons_zero, List.set_cons_succ]
       refine wpAnyH_take (i := 11) (oi := { dst := some 43, op := Op.binOp BinOp.eql 53 (Operand.tmp 40) (Operand.tmp 42) 53, type := 4, pos := "l03_normal.go:61", after := #[{ on := 8, ground := Ground.data }, { on := 10, ground := Ground.data }, { on := 3, ground := Ground.guard }], guard := some (3, true) }) (v := undef) rfl (by kernel_rfl) (by kernel_rfl) (by kernel_rfl) (fun _ _ _ h => h) (Or.inr ⟨by rfl, rfl⟩) (by assumption) ?_
       try simp only [Act.put, List.setIfInBounds_toArray, List.set_cons_zero, List.set_cons_succ]
       refine wpAnyH_take (i := 12) (oi := { dst := some 44, op := Op.pick (Operand.tmp 35) (Operand.tmp 43) (Operand.const (Value.bool false)), type := 4, pos := "l03_normal.go:61", after := #[{ on := 3, ground := Ground.data }, { on := 11, ground := Ground.data }], guard := none }) (v := ?_) rfl (by kernel_rfl) (by kernel_rfl) (by kernel_rfl) (fun _ _ _ h => h) (Or.inl ⟨by rfl, ?_⟩) (by assumption) ?_
       rotate_left
       ·intro w hSw
        (try dsimp only at hSw)
        go_simp
        try with_reducible rfl
       try simp only [Act.put, List.setIfInBounds_toArray, List.set_cons_zero, List.set_cons_succ]
       refine wpAnyH_done (by kernel_rfl) ?_ _
       have hcap := F.out.cap
       have hsub := F.out.sub (f) (j) (by omega) (by omega)
       have HX : Hid ((R.take (j)).drop (f) = restM m R) := Lib.hid (by unfold restM; rw [← HFE.out, ← HJE.out])
       rw [HX.out] at hsub
       have HSB := Lib.hid hsub
       clear hsub
       have hc1 : (j : Int) ≤ (c2 : Int) := by omega
       have hc2 : ((f : Nat) : Int) ≤ (j : Int) := by omega
       by_cases hcf : c2 = f
       ·first
         | (exfalso; omega)
         | skip
        all_goals
         have HRZ : Hid (restM m R = []) := Lib.hid (List.eq_nil_of_length_eq_zero (by have h1 := HSB.out.len; omega))
         have HNZ : Hid (∀ (W : World) (ao : Option Addr), ReadsA W ao (j - f) (restM m R)) := Lib.hid fun W ao => by rw [HRZ.out, show j - f = 0 by omega]; exact ReadsA.zero
         go_wp2_with (at_builtin; refine wpList_append_rows_at rfl _ _ 26 rfl _ i0 Try.underlying26 hi hz0 hz1 hz2 _ _ _ rfl (OwnAV.empty _) _ _ _ (restM m R) rfl (HNZ.out _ _) (by omega) (by simp) ?_)
         intro v' w5 ho' hg hv
         have Z5 := (Z.out.alloc (.cells #[] 53)).heap hg.size (hg.block _ (Z.out.alloc _).1 fun e => by have := Z.out.1; simp [Value.ownBlock] at e; omega)
         have B5 : Hid (Below w.heap.size w w5) := Lib.hid (by
          have z9 := F.out.bel.size
          first
           | exact below_ownA (F.out.bel.alloc z9 (.cells #[] 53)) (by simp; omega) z9 (OwnAV.empty _) hg
           | exact below_ownA (F.out.bel.alloc z9 (.cells #[] 53)).drew (by simp; omega) z9 (OwnAV.empty _).drew hg)
         have z5 := Z.out.1
         obtain ⟨a', c', rfl, hoA⟩ := ho'.form
         have HOA := Lib.hid hoA
         clear ho' hg hv hoA
         have Z6 := Lib.hid Z5
         obtain ⟨x0, ⟨x1, x2, x3⟩, y1, y2, y3⟩ := Z5
         go_wp2
         try rw [Exit.noGoto_ret]
         obtain ⟨_, ⟨e1, e2, e3⟩, _⟩ := Z6.out.fill (.int .i64 m) (.int .i64 (p + (f : Int))) (.slice a' (j - f) c')
         refine bodyPost_ret (v := .agg #[.int .i64 m, .int .i64 (p + (f : Int)), .slice a' (j - f) c']) (by simp [results, Try.results24, go_sem, e1, e2, e3]) rfl ⟨a', _, c', by simp [← HFE.out], ((((HOA.out.setCell_below (p := ⟨w.heap.size, 0, none⟩) z5 _).setCell_below (p := ⟨w.heap.size, 1, none⟩) z5 _).setCell_below (p := ⟨w.heap.size, 2, none⟩) z5 _)).mono (Nat.le_of_lt z5), ((B5.out.setCell (p := ⟨w.heap.size, 0, none⟩) (Nat.le_refl _) _).setCell (p := ⟨w.heap.size, 1, none⟩) (Nat.le_refl _) _).setCell (p := ⟨w.heap.size, 2, none⟩) (Nat.le_refl _) _⟩
       ·try (exfalso; omega)
        all_goals
         go_wp2_with (at_builtin; refine wpList_append_rows_at rfl _ _ 26 rfl _ i0 Try.underlying26 hi hz0 hz1 hz2 _ _ _ rfl (OwnAV.empty _) _ _ _ (restM m R) rfl (HSB.out.alloc _) (by omega) (by simp) ?_)
         intro v' w5 ho' hg hv
         have Z5 := (Z.out.alloc (.cells #[] 53)).heap hg.size (hg.block _ (Z.out.alloc _).1 fun e => by have := Z.out.1; simp [Value.ownBlock] at e; omega)
         have B5 : Hid (Below w.heap.size w w5) := Lib.hid (by
          have z9 := F.out.bel.size
          first
           | exact below_ownA (F.out.bel.alloc z9 (.cells #[] 53)) (by simp; omega) z9 (OwnAV.empty _) hg
           | exact below_ownA (F.out.bel.alloc z9 (.cells #[] 53)).drew (by simp; omega) z9 (OwnAV.empty _).drew hg)
         have z5 := Z.out.1
         obtain ⟨a', c', rfl, hoA⟩ := ho'.form
         have HOA := Lib.hid hoA
         clear ho' hg hv hoA
         have Z6 := Lib.hid Z5
         obtain ⟨x0, ⟨x1, x2, x3⟩, y1, y2, y3⟩ := Z5
         go_wp2
         try rw [Exit.noGoto_ret]
         obtain ⟨_, ⟨e1, e2, e3⟩, _⟩ := Z6.out.fill (.int .i64 m) (.int .i64 (p + (f : Int))) (.slice a' (j - f) c')
         refine bodyPost_ret (v := .agg #[.int .i64 m, .int .i64 (p + (f : Int)), .slice a' (j - f) c']) (by simp [results, Try.results24, go_sem, e1, e2, e3]) rfl ⟨a', _, c', by simp [← HFE.out], ((((HOA.out.setCell_below (p := ⟨w.heap.size, 0, none⟩) z5 _).setCell_below (p := ⟨w.heap.size, 1, none⟩) z5 _).setCell_below (p := ⟨w.heap.size, 2, none⟩) z5 _)).mono (Nat.le_of_lt z5), ((B5.out.setCell (p := ⟨w.heap.size, 0, none⟩) (Nat.le_refl _) _).setCell (p := ⟨w.heap.size, 1, none⟩) (Nat.le_refl _) _).setCell (p := ⟨w.heap.size, 2, none⟩) (Nat.le_refl _) _⟩
   ·have hfe : f = firstM m R := by omega
    have HFE := Lib.hid hfe
    have hi1 : ¬ (f : Int) < (n2 : Int) := by omega
    clear hfe
    go_upto_region 4 with fail
    replace F := Lib.hid F.out.drew
    replace Z := Lib.hid Z.out.drew
    refine wp_region_held_drew (S := (fun _ => True)) (by kernel_rfl) ?_ (fun hHeld => ?_)
    ·trivial
    refine wpAnyH_take (i := 0) (oi := { dst := some 16, op := Op.move (Operand.tmp 7), type := 3, pos := "l03_normal.go:56", after := #[], guard := none }) (v := ?_) rfl (by kernel_rfl) (by kernel_rfl) (by kernel_rfl) (fun _ _ _ h => h) (Or.inl ⟨by rfl, ?_⟩) (by assumption) ?_
    rotate_left
    ·intro w hSw
     (try dsimp only at hSw)
     go_simp
     try with_reducible rfl
    try simp only [Act.put, List.setIfInBounds_toArray, List.set_cons_zero, List.set_cons_succ]
    refine wpAnyH_take (i := 1) (oi := { dst := some 17, op := Op.move (Operand.tmp 8), type := 3, pos := "l03_normal.go:56", after := #[], guard := none }) (v := ?_) rfl (by kernel_rfl) (by kernel_rfl) (by kernel_rfl) (fun _ _ _ h => h) (Or.inl ⟨by rfl, ?_⟩) (by assumption) ?_
    rotate_left
    ·intro w hSw
     (try dsimp only at hSw)
     go_simp
     try with_reducible rfl
    try simp only [Act.put, List.setIfInBounds_toArray, List.set_cons_zero, List.set_cons_succ]
    refine wpAnyH_take (i := 2) (oi := { dst := some 18, op := Op.binOp BinOp.lss 3 (Operand.tmp 16) (Operand.tmp 17) 3, type := 4, pos := "l03_normal.go:56", after := #[{ on := 0, ground := Ground.data }, { on := 1, ground := Ground.data }], guard := none }) (v := ?_) rfl (by kernel_rfl) (by kernel_rfl) (by kernel_rfl) (fun _ _ _ h => h) (Or.inl ⟨by rfl, ?_⟩) (by assumption) ?_
    rotate_left
    ·intro w hSw
     (try dsimp only at hSw)
     go_simp
     try with_reducible rfl
    try simp only [Act.put, List.setIfInBounds_toArray, List.set_cons_zero, List.set_cons_succ]
    refine wpAnyH_take (i := 3) (oi := { dst := some 19, op := Op.move (Operand.tmp 18), type := 4, pos := "l03_normal.go:56", after := #[{ on := 2, ground := Ground.data }], guard := none }) (v := ?_) rfl (by kernel_rfl) (by kernel_rfl) (by kernel_rfl) (fun _ _ _ h => h) (Or.inl ⟨by rfl, ?_⟩) (by assumption) ?_
    rotate_left
    ·intro w hSw
     (try dsimp only at hSw)
     go_simp
     try with_reducible rfl
    try simp only [Act.put, List.setIfInBounds_toArray, List.set_cons_zero, List.set_cons_succ]
    refine wpAnyH_take (i := 4) (oi := { dst := some 20, op := Op.move (Operand.tmp 2), type := 26, pos := "l03_normal.go:56", after := #[{ on := 3, ground := Ground.guard }], guard := some (3, true) }) (v := undef) rfl (by kernel_rfl) (by kernel_rfl) (by kernel_rfl) (fun _ _ _ h => h) (Or.inr ⟨by rfl, rfl⟩) (by assumption) ?_
    try simp only [Act.put, List.setIfInBounds_toArray, List.set_cons_zero, List.set_cons_succ]
    refine wpAnyH_take (i := 5) (oi := { dst := some 21, op := Op.move (Operand.tmp 7), type := 3, pos := "l03_normal.go:56", after := #[{ on := 3, ground := Ground.guard }], guard := some (3, true) }) (v := undef) rfl (by kernel_rfl) (by kernel_rfl) (by kernel_rfl) (fun _ _ _ h => h) (Or.inr ⟨by rfl, rfl⟩) (by assumption) ?_
    try simp only [Act.put, List.setIfInBounds_toArray, List.set_cons_zero, List.set_cons_succ]
    refine wpAnyH_take (i := 6) (oi := { dst := some 22, op := Op.indexAddr 26 (Operand.tmp 20) (Operand.tmp 21), type := 0, pos := "l03_normal.go:56", after := #[{ on := 4, ground := Ground.data }, { on := 5, ground := Ground.data }, { on := 3, ground := Ground.guard }], guard := some (3, true) }) (v := undef) rfl (by kernel_rfl) (by kernel_rfl) (by kernel_rfl) (fun _ _ _ h => h) (Or.inr ⟨by rfl, rfl⟩) (by assumption) ?_
    try simp only [Act.put, List.setIfInBounds_toArray, List.set_cons_zero, List.set_cons_succ]
    refine wpAnyH_take (i := 7) (oi := { dst := some 23, op := Op.load 53 (Operand.tmp 22), type := 53, pos := "l03_normal.go:56", after := #[{ on := 6, ground := Ground.data }, { on := 3, ground := Ground.guard }], guard := some (3, true) }) (v := undef) rfl (by kernel_rfl) (by kernel_rfl) (by kernel_rfl) (fun _ _ _ h => h) (Or.inr ⟨by rfl, rfl⟩) (by assumption) ?_
    try simp only [Act.put, List.setIfInBounds_toArray, List.set_cons_zero, List.set_cons_succ]
    refine wpAnyH_take (i := 8) (oi := { dst := some 24, op := Op.move (Operand.tmp 0), type := 2, pos := "l03_normal.go:56", after := #[{ on := 3, ground := Ground.guard }], guard := some (3, true) }) (v := undef) rfl (by kernel_rfl) (by kernel_rfl) (by kernel_rfl) (fun _ _ _ h => h) (Or.inr ⟨by rfl, rfl⟩) (by assumption) ?_
    try simp only [Act.put, List.setIfInBounds_toArray, List.set_cons_zero, List.set_cons_succ]
    refine wpAnyH_ready (rs := [9]) (by kernel_rfl) (by simp) ?_
    refine AllReadyH.cons (o := { dst := some 25, op := Op.call { callee := Callee.value (Operand.func 37), args := #[Operand.tmp 24], argTypes := #[2] }, type := 53, pos := "l03_normal.go:56", after := #[{ on := 8, ground := Ground.data }, { on := 3, ground := Ground.chain }, { on := 3, ground := Ground.guard }], guard := some (3, true) }) rfl (fun K hK => ?_) AllReadyH.nil
    go_simp
    refine hK.out _ _ ?_ (fun hHeld => ?_)
    ·trivial
    clear hK K
    try simp only [Act.put, List.setIfInBounds_toArray, List.set_cons_zero, List.set_cons_succ]
    refine wpAnyH_take (i := 10) (oi := { dst := some 26, op := Op.binOp BinOp.eql 53 (Operand.tmp 23) (Operand.tmp 25) 53, type := 4, pos := "l03_normal.go:56", after := #[{ on := 7, ground := Ground.data }, { on := 9, ground := Ground.data }, { on := 3, ground := Ground.guard }], guard := some (3, true) }) (v := undef) rfl (by kernel_rfl) (by kernel_rfl) (by kernel_rfl) (fun _ _ _ h => h) (Or.inr ⟨by rfl, rfl⟩) (by assumption) ?_
    try simp only [Act.put, List.setIfInBounds_toArray, List.set_cons_zero, List.set_cons_succ]
    refine wpAnyH_take (i := 11) (oi := { dst := some 27, op := Op.pick (Operand.tmp 19) (Operand.tmp 26) (Operand.const (Value.bool false)), type := 4, pos := "l03_normal.go:56", after := #[{ on := 3, ground := Ground.data }, { on := 10, ground := Ground.data }], guard := none }) (v := ?_) rfl (by kernel_rfl) (by kernel_rfl) (by kernel_rfl) (fun _ _ _ h => h) (Or.inl ⟨by rfl, ?_⟩) (by assumption) ?_
    rotate_left
    ·intro w hSw
     (try dsimp only at hSw)
     go_simp
     try with_reducible rfl
    try simp only [Act.put, List.setIfInBounds_toArray, List.set_cons_zero, List.set_cons_succ]
    refine wpAnyH_done (by kernel_rfl) ?_ _
    have HLM : Hid (firstM m R ≤ lastM m R ∧ lastM m R ≤ n2) := Lib.hid ⟨lastM_ge m R, by have := lastM_le m R; have := HRL.out; omega⟩
    have hlm := HLM.out
    go_wp2
    go_loopg [8] (n2 - lastM m R) (fun g v wx => ∃ j : Nat, j ≤ n2 ∧ g + lastM m R = j ∧ v = .int .i64 j ∧ AtWei w wx gb n2 c2 R ∧ At3 wx w.heap.size (.int .i64 0) (.int .i64 0) (.slice none 0 0))
    case atStart => exact ⟨n2, Nat.le_refl _, by omega, rfl, F.out, Z.out⟩
    case round =>
     obtain ⟨j, hj, hgj, rfl, hF, hZ⟩ := hrel
     clear F Z
     have F := Lib.hid hF
     have Z := Lib.hid hZ
     clear hF hZ
     have hRL := HRL.out
     have hfe := HFE.out
     by_cases hlt : f < j
     ·obtain ⟨i, rfl⟩ : ∃ i, j = i + 1 := ⟨j - 1, by omega⟩
      obtain ⟨ra, hra⟩ : ∃ ra, ra = rowAt R i := ⟨_, rfl⟩
      have HRA : Hid (∀ W, AtWei w W gb n2 c2 R → Cells8 W gb (i * 8) ra) := Lib.hid fun W h => by rw [hra]; exact h.row i (by omega)
      have SA : Hid (Sim m ra) := Lib.hid (by rw [hra]; exact rows_sims.1 SR.out i (by omega))
      have hi1 : (i : Int) < (n2 : Int) := by omega
      have hi2 : (0 : Int) ≤ (i : Int) := by omega
      have hi3 : ((f : Nat) : Int) < (i : Int) + 1 := by omega
      have hw1 : IntKind.i64.wrap (i : Int) = (i : Int) := IntWalk.i64_in _ (by omega)
      by_cases he : ra = sameR m
      ·have hjs : lastM m R < i + 1 := by
        rcases Nat.lt_or_ge (lastM m R) (i + 1) with h | h
        ·exact h
        ·exfalso
         have h2 : i = lastM m R - 1 := by omega
         rw [hra, h2] at he
         exact last_end m R (by omega) he
       have heq1 : ∀ W, Sem.run Try.prog (Op.equalIn 10000 53 (arr8 .u8 ra) (arr8 .u8 (sameR m))) W = .ok true W := fun W => by rw [equal8 ra (sameR m) SA.out.len (mapR_len _ _ m8) W, decide_eq_true he]
       clear he hra hfe
       go_upto_region 7 with fail
       replace F := Lib.hid F.out.drew
       replace Z := Lib.hid Z.out.drew
       refine wp_region_held_drew (S := (fun w' => w'.cell? ⟨gb, i * 8, none⟩ = some (.int .u8 (at8 ra 0)) ∧ w'.cell? ⟨gb, i * 8 + 1, none⟩ = some (.int .u8 (at8 ra 1)) ∧ w'.cell? ⟨gb, i * 8 + 2, none⟩ = some (.int .u8 (at8 ra 2)) ∧ w'.cell? ⟨gb, i * 8 + 3, none⟩ = some (.int .u8 (at8 ra 3)) ∧ w'.cell? ⟨gb, i * 8 + 4, none⟩ = some (.int .u8 (at8 ra 4)) ∧ w'.cell? ⟨gb, i * 8 + 5, none⟩ = some (.int .u8 (at8 ra 5)) ∧ w'.cell? ⟨gb, i * 8 + 6, none⟩ = some (.int .u8 (at8 ra 6)) ∧ w'.cell? ⟨gb, i * 8 + 7, none⟩ = some (.int .u8 (at8 ra 7)))) (by kernel_rfl) ?_ (fun hHeld => ?_)
       ·with_reducible exact (HRA.out _ F.out).flat
       refine wpAnyH_take (i := 0) (oi := { dst := some 32, op := Op.move (Operand.tmp 8), type := 3, pos := "l03_normal.go:61", after := #[], guard := none }) (v := ?_) rfl (by kernel_rfl) (by kernel_rfl) (by kernel_rfl) (fun _ _ _ h => h) (Or.inl ⟨by rfl, ?_⟩) (by assumption) ?_
       rotate_left
       ·intro w hSw
        (try dsimp only at hSw)
        go_simp
        try with_reducible rfl
       try simp only [Act.put, List.setIfInBounds_toArray, List.set_cons_zero, List.set_cons_succ]
       refine wpAnyH_take (i := 1) (oi := { dst := some 33, op := Op.move (Operand.tmp 7), type := 3, pos := "l03_normal.go:61", after := #[], guard := none }) (v := ?_) rfl (by kernel_rfl) (by kernel_rfl) (by kernel_rfl) (fun _ _ _ h => h) (Or.inl ⟨by rfl, ?_⟩) (by assumption) ?_
       rotate_left
       ·intro w hSw
        (try dsimp only at hSw)
        go_simp
        try with_reducible rfl
       try simp only [Act.put, List.setIfInBounds_toArray, List.set_cons_zero, List.set_cons_succ]
       refine wpAnyH_take (i := 2) (oi := { dst := some 34, op := Op.binOp BinOp.gtr 3 (Operand.tmp 32) (Operand.tmp 33) 3, type := 4, pos := "l03_normal.go:61", after := #[{ on := 0, ground := Ground.data }, { on := 1, ground := Ground.data }], guard := none }) (v := ?_) rfl (by kernel_rfl) (by kernel_rfl) (by kernel_rfl) (fun _ _ _ h => h) (Or.inl ⟨by rfl, ?_⟩) (by assumption) ?_
       rotate_left
       ·intro w hSw
        (try dsimp only at hSw)
        go_simp
        try with_reducible rfl
       try simp only [Act.put, List.setIfInBounds_toArray, List.set_cons_zero, List.set_cons_succ]
       refine wpAnyH_take (i := 3) (oi := { dst := some 35, op := Op.move (Operand.tmp 34), type := 4, pos := "l03_normal.go:61", after := #[{ on := 2, ground := Ground.data }], guard := none }) (v := ?_) rfl (by kernel_rfl) (by kernel_rfl) (by kernel_rfl) (fun _ _ _ h => h) (Or.inl ⟨by rfl, ?_⟩) (by assumption) ?_
       rotate_left
       ·intro w hSw
        (try dsimp only at hSw)
        go_simp
        try with_reducible rfl
       try simp only [Act.put, List.setIfInBounds_toArray, List.set_cons_zero, List.set_cons_succ]
       refine wpAnyH_take (i := 4) (oi := { dst := some 36, op := Op.move (Operand.tmp 2), type := 26, pos := "l03_normal.go:61", after := #[{ on := 3, ground := Ground.guard }], guard := some (3, true) }) (v := ?_) rfl (by kernel_rfl) (by kernel_rfl) (by kernel_rfl) (fun _ _ _ h => h) (Or.inl ⟨by rfl, ?_⟩) (by assumption) ?_
       rotate_left
       ·intro w hSw
        (try dsimp only at hSw)
        go_simp
        try with_reducible rfl
       try simp only [Act.put, List.setIfInBounds_toArray, List.set_cons_zero, List.set_cons_succ]
       refine wpAnyH_take (i := 5) (oi := { dst := some 37, op := Op.move (Operand.tmp 8), type := 3, pos := "l03_normal.go:61", after := #[{ on := 3, ground := Ground.guard }], guard := some (3, true) }) (v := ?_) rfl (by kernel_rfl) (by kernel_rfl) (by kernel_rfl) (fun _ _ _ h => h) (Or.inl ⟨by rfl, ?_⟩) (by assumption) ?_
       rotate_left
       ·intro w hSw
        (try dsimp only at hSw)
        go_simp
        try with_reducible rfl
       try simp only [Act.put, List.setIfInBounds_toArray, List.set_cons_zero, List.set_cons_succ]
       refine wpAnyH_take (i := 6) (oi := { dst := some 38, op := Op.binOp BinOp.sub 3 (Operand.tmp 37) (Operand.const (Value.int IntKind.i64 1)) 3, type := 3, pos := "l03_normal.go:61", after := #[{ on := 5, ground := Ground.data }, { on := 3, ground := Ground.guard }], guard := some (3, true) }) (v := ?_) rfl (by kernel_rfl) (by kernel_rfl) (by kernel_rfl) (fun _ _ _ h => h) (Or.inl ⟨by rfl, ?_⟩) (by assumption) ?_
       rotate_left
       ·intro w hSw
        (try dsimp only at hSw)
        go_simp
        try with_reducible rfl
       try simp only [Act.put, List.setIfInBounds_toArray, List.set_cons_zero, List.set_cons_succ]
       refine wpAnyH_take (i := 7) (oi := { dst := some 39, op := Op.indexAddr 26 (Operand.tmp 36) (Operand.tmp 38), type := 0, pos := "l03_normal.go:61", after := #[{ on := 4, ground := Ground.data }, { on := 6, ground := Ground.data }, { on := 3, ground := Ground.guard }], guard := some (3, true) }) (v := ?_) rfl (by kernel_rfl) (by kernel_rfl) (by kernel_rfl) (fun _ _ _ h => h) (Or.inl ⟨by rfl, ?_⟩) (by assumption) ?_
       rotate_left
       ·intro w hSw
        (try dsimp only at hSw)
        go_simp
        try with_reducible rfl
       try simp only [Act.put, List.setIfInBounds_toArray, List.set_cons_zero, List.set_cons_succ]
       refine wpAnyH_take (i := 8) (oi := { dst := some 40, op := Op.load 53 (Operand.tmp 39), type := 53, pos := "l03_normal.go:61", after := #[{ on := 7, ground := Ground.data }, { on := 3, ground := Ground.guard }], guard := some (3, true) }) (v := ?_) rfl (by kernel_rfl) (by kernel_rfl) (by kernel_rfl) (fun _ _ _ h => h) (Or.inl ⟨by rfl, ?_⟩) (by assumption) ?_
       rotate_left
       ·intro w hSw
        (try dsimp only at hSw)
        go_simp
        try with_reducible rfl
       try simp only [Act.put, List.setIfInBounds_toArray, List.set_cons_zero, List.set_cons_succ]
       refine wpAnyH_take (i := 9) (oi := { dst := some 41, op := Op.move (Operand.tmp 0), type := 2, pos := "l03_normal.go:61", after := #[{ on := 3, ground := Ground.guard }], guard := some (3, true) }) (v := ?_) rfl (by kernel_rfl) (by kernel_rfl) (by kernel_rfl) (fun _ _ _ h => h) (Or.inl ⟨by rfl, ?_⟩) (by assumption) ?_
       rotate_left
       ·intro w hSw
        (try dsimp only at hSw)
        go_simp
        try with_reducible rfl
       try simp only [Act.put, List.setIfInBounds_toArray, List.set_cons_zero, List.set_cons_succ]
       refine wpAnyH_ready (rs := [10]) (by kernel_rfl) (by simp) ?_
       refine AllReadyH.cons (o := { dst := some 42, op := Op.call { callee := Callee.value (Operand.func 36), args := #[Operand.tmp 41], argTypes := #[2] }, type := 53, pos := "l03_normal.go:61", after := #[{ on := 9, ground := Ground.data }, { on := 3, ground := Ground.chain }, { on := 3, ground := Ground.guard }], guard := some (3, true) }) rfl (fun K hK => ?_) AllReadyH.nil
       go_simp
       (refine (l02Same_any m m8 _).mono ?_; rintro e w4 ⟨rfl, gg⟩; replace F := Lib.hid (F.out.below gg); replace Z := Lib.hid (Z.out.below gg))
       go_wp2_with fail
       refine hK.out _ _ ?_ (fun hHeld => ?_)
       ·with_reducible exact (HRA.out _ F.out).flat
       clear hK K
       try simp only [Act.put, List.setIfInBounds_toArray, List.set_cons_zero, List.set_cons_succ]
       refine wpAnyH_take (i := 11) (oi := { dst := some 43, op := Op.binOp BinOp.eql 53 (Operand.tmp 40) (Operand.tmp 42) 53, type := 4, pos := "l03_normal.go:61", after := #[{ on := 8, ground := Ground.data }, { on := 10, ground := Ground.data }, { on := 3, ground := Ground.guard }], guard := some (3, true) }) (v := ?_) rfl (by kernel_rfl) (by kernel_rfl) (by kernel_rfl) (fun _ _ _ h => h) (Or.inl ⟨by rfl, ?_⟩) (by assumption) ?_
       rotate_left
       ·intro w hSw
        (try dsimp only at hSw)
        go_simp
        try with_reducible rfl
       try simp only [Act.put, List.setIfInBounds_toArray, List.set_cons_zero, List.set_cons_succ]
       refine wpAnyH_take (i := 12) (oi := { dst := some 44, op := Op.pick (Operand.tmp 35) (Operand.tmp 43) (Operand.const (Value.bool false)), type := 4, pos := "l03_normal.go:61", after := #[{ on := 3, ground := Ground.data }, { on := 11, ground := Ground.data }], guard := none }) (v := ?_) rfl (by kernel_rfl) (by kernel_rfl) (by kernel_rfl) (fun _ _ _ h => h) (Or.inl ⟨by rfl, ?_⟩) (by assumption) ?_
       rotate_left
       ·intro w hSw
        (try dsimp only at hSw)
        go_simp
        try with_reducible rfl
       try simp only [Act.put, List.setIfInBounds_toArray, List.set_cons_zero, List.set_cons_succ]
       refine wpAnyH_done (by kernel_rfl) ?_ _
       go_wp2
       go_roundg (gk - 1)
       case measure => omega
       case rel => exact ⟨i, by omega, by omega, by go_num, F.out, Z.out⟩
      ·have hje : i + 1 = lastM m R := by
        rcases Nat.lt_or_ge (lastM m R) (i + 1) with h | h
        ·exfalso
         have := last_at m R (i + 1) h (by omega)
         rw [show i + 1 - 1 = i by omega, ← hra] at this
         exact he this
        ·omega
       have heq1 : ∀ W, Sem.run Try.prog (Op.equalIn 10000 53 (arr8 .u8 ra) (arr8 .u8 (sameR m))) W = .ok false W := fun W => by rw [equal8 ra (sameR m) SA.out.len (mapR_len _ _ m8) W, decide_eq_false he]
       have HJE := Lib.hid hje
       clear he hra hje hfe
       go_upto_region 7 with fail
       replace F := Lib.hid F.out.drew
       replace Z := Lib.hid Z.out.drew
       refine wp_region_held_drew (S := (fun w' => w'.cell? ⟨gb, i * 8, none⟩ = some (.int .u8 (at8 ra 0)) ∧ w'.cell? ⟨gb, i * 8 + 1, none⟩ = some (.int .u8 (at8 ra 1)) ∧ w'.cell? ⟨gb, i * 8 + 2, none⟩ = some (.int .u8 (at8 ra 2)) ∧ w'.cell? ⟨gb, i * 8 + 3, none⟩ = some (.int .u8 (at8 ra 3)) ∧ w'.cell? ⟨gb, i * 8 + 4, none⟩ = some (.int .u8 (at8 ra 4)) ∧ w'.cell? ⟨gb, i * 8 + 5, none⟩ = some (.int .u8 (at8 ra 5)) ∧ w'.cell? ⟨gb, i * 8 + 6, none⟩ = some (.int .u8 (at8 ra 6)) ∧ w'.cell? ⟨gb, i * 8 + 7, none⟩ = some (.int .u8 (at8 ra 7)))) (by kernel_rfl) ?_ (fun hHeld => ?_)
       ·with_reducible exact (HRA.out _ F.out).flat
       refine wpAnyH_take (i := 0) (oi := { dst := some 32, op := Op.move (Operand.tmp 8), type := 3, pos := "l03_normal.go:61", after := #[], guard := none }) (v := ?_) rfl (by kernel_rfl) (by kernel_rfl) (by kernel_rfl) (fun _ _ _ h => h) (Or.inl ⟨by rfl, ?_⟩) (by assumption) ?_
       rotate_left
       ·intro w hSw
        (try dsimp only at hSw)
        go_simp
        try with_reducible rfl
       try simp only [Act.put, List.setIfInBounds_toArray, List.set_cons_zero, List.set_cons_succ]
       refine wpAnyH_take (i := 1) (oi := { dst := some 33, op := Op.move (Operand.tmp 7), type := 3, pos := "l03_normal.go:61", after := #[], guard := none }) (v := ?_) rfl (by kernel_rfl) (by kernel_rfl) (by kernel_rfl) (fun _ _ _ h => h) (Or.inl ⟨by rfl, ?_⟩) (by assumption) ?_
       rotate_left
       ·intro w hSw
        (try dsimp only at hSw)
        go_simp
        try with_reducible rfl
       try simp only [Act.put, List.setIfInBounds_toArray, List.set_cons_zero, List.set_cons_succ]
       refine wpAnyH_take (i := 2) (oi := { dst := some 34, op := Op.binOp BinOp.gtr 3 (Operand.tmp 32) (Operand.tmp 33) 3, type := 4, pos := "l03_normal.go:61", after := #[{ on := 0, ground := Ground.data }, { on := 1, ground := Ground.data }], guard := none }) (v := ?_) rfl (by kernel_rfl) (by kernel_rfl) (by kernel_rfl) (fun _ _ _ h => h) (Or.inl ⟨by rfl, ?_⟩) (by assumption) ?_
       rotate_left
       ·intro w hSw
        (try dsimp only at hSw)
        go_simp
        try with_reducible rfl
       try simp only [Act.put, List.setIfInBounds_toArray, List.set_cons_zero, List.set_cons_succ]
       refine wpAnyH_take (i := 3) (oi := { dst := some 35, op := Op.move (Operand.tmp 34), type := 4, pos := "l03_normal.go:61", after := #[{ on := 2, ground := Ground.data }], guard := none }) (v := ?_) rfl (by kernel_rfl) (by kernel_rfl) (by kernel_rfl) (fun _ _ _ h => h) (Or.inl ⟨by rfl, ?_⟩) (by assumption) ?_
       rotate_left
       ·intro w hSw
        (try dsimp only at hSw)
        go_simp
        try with_reducible rfl
       try simp only [Act.put, List.setIfInBounds_toArray, List.set_cons_zero, List.set_cons_succ]
       refine wpAnyH_take (i := 4) (oi := { dst := some 36, op := Op.move (Operand.tmp 2), type := 26, pos := "l03_normal.go:61", after := #[{ on := 3, ground := Ground.guard }], guard := some (3, true) }) (v := ?_) rfl (by kernel_rfl) (by kernel_rfl) (by kernel_rfl) (fun _ _ _ h => h) (Or.inl ⟨by rfl, ?_⟩) (by assumption) ?_
       rotate_left
       ·intro w hSw
        (try dsimp only at hSw)
        go_simp
        try with_reducible rfl
       try simp only [Act.put, List.setIfInBounds_toArray, List.set_cons_zero, List.set_cons_succ]
       refine wpAnyH_take (i := 5) (oi := { dst := some 37, op := Op.move (Operand.tmp 8), type := 3, pos := "l03_normal.go:61", after := #[{ on := 3, ground := Ground.guard }], guard := some (3, true) }) (v := ?_) rfl (by kernel_rfl) (by kernel_rfl) (by kernel_rfl) (fun _ _ _ h => h) (Or.inl ⟨by rfl, ?_⟩) (by assumption) ?_
       rotate_left
       ·intro w hSw
        (try dsimp only at hSw)
        go_simp
        try with_reducible rfl
       try simp only [Act.put, List.setIfInBounds_toArray, List.set_cons_zero, List.set_cons_succ]
       refine wpAnyH_take (i := 6) (oi := { dst := some 38, op := Op.binOp BinOp.sub 3 (Operand.tmp 37) (Operand.const (Value.int IntKind.i64 1)) 3, type := 3, pos := "l03_normal.go:61", after := #[{ on := 5, ground := Ground.data }, { on := 3, ground := Ground.guard }], guard := some (3, true) }) (v := ?_) rfl (by kernel_rfl) (by kernel_rfl) (by kernel_rfl) (fun _ _ _ h => h) (Or.inl ⟨by rfl, ?_⟩) (by assumption) ?_
       rotate_left
       ·intro w hSw
        (try dsimp only at hSw)
        go_simp
        try with_reducible rfl
       try simp only [Act.put, List.setIfInBounds_toArray, List.set_cons_zero, List.set_cons_succ]
       refine wpAnyH_take (i := 7) (oi := { dst := some 39, op := Op.indexAddr 26 (Operand.tmp 36) (Operand.tmp 38), type := 0, pos := "l03_normal.go:61", after := #[{ on := 4, ground := Ground.data }, { on := 6, ground := Ground.data }, { on := 3, ground := Ground.guard }], guard := some (3, true) }) (v := ?_) rfl (by kernel_rfl) (by kernel_rfl) (by kernel_rfl) (fun _ _ _ h => h) (Or.inl ⟨by rfl, ?_⟩) (by assumption) ?_
       rotate_left
       ·intro w hSw
        (try dsimp only at hSw)
        go_simp
        try with_reducible rfl
       try simp only [Act.put, List.setIfInBounds_toArray, List.set_cons_zero, List.set_cons_succ]
       refine wpAnyH_take (i := 8) (oi := { dst := some 40, op := Op.load 53 (Operand.tmp 39), type := 53, pos := "l03_normal.go:61", after := #[{ on := 7, ground := Ground.data }, { on := 3, ground := Ground.guard }], guard := some (3, true) }) (v := ?_) rfl (by kernel_rfl) (by kernel_rfl) (by kernel_rfl) (fun _ _ _ h => h) (Or.inl ⟨by rfl, ?_⟩) (by assumption) ?_
       rotate_left
       ·intro w hSw
        (try dsimp only at hSw)
        go_simp
        try with_reducible rfl
       try simp only [Act.put, List.setIfInBounds_toArray, List.set_cons_zero, List.set_cons_succ]
       refine wpAnyH_take (i := 9) (oi := { dst := some 41, op := Op.move (Operand.tmp 0), type := 2, pos := "l03_normal.go:61", after := #[{ on := 3, ground := Ground.guard }], guard := some (3, true) }) (v := ?_) rfl (by kernel_rfl) (by kernel_rfl) (by kernel_rfl) (fun _ _ _ h => h) (Or.inl ⟨by rfl, ?_⟩) (by assumption) ?_
       rotate_left
       ·intro w hSw
        (try dsimp only at hSw)
        go_simp
        try with_reducible rfl
       try simp only [Act.put, List.setIfInBounds_toArray, List.set_cons_zero, List.set_cons_succ]
       refine wpAnyH_ready (rs := [10]) (by kernel_rfl) (by simp) ?_
       refine AllReadyH.cons (o := { dst := some 42, op := Op.call { callee := Callee.value (Operand.func 36), args := #[Operand.tmp 41], argTypes := #[2] }, type := 53, pos := "l03_normal.go:61", after := #[{ on := 9, ground := Ground.data }, { on := 3, ground := Ground.chain }, { on := 3, ground := Ground.guard }], guard := some (3, true) }) rfl (fun K hK => ?_) AllReadyH.nil
       go_simp
       (refine (l02Same_any m m8 _).mono ?_; rintro e w4 ⟨rfl, gg⟩; replace F := Lib.hid (F.out.below gg); replace Z := Lib.hid (Z.out.below gg))
       go_wp2_with fail
       refine hK.out _ _ ?_ (fun hHeld => ?_)
       ·with_reducible exact (HRA.out _ F.out).flat
       clear hK K
       try simp only [Act.put, List.setIfInBounds_toArray, List.set_cons_zero, List.set_cons_succ]
       refine wpAnyH_take (i := 11) (oi := { dst := some 43, op := Op.binOp BinOp.eql 53 (Operand.tmp 40) (Operand.tmp 42) 53, type := 4, pos := "l03_normal.go:61", after := #[{ on := 8, ground := Ground.data }, { on := 10, ground := Ground.data }, { on := 3, ground := Ground.guard }], guard := some (3, true) }) (v := ?_) rfl (by kernel_rfl) (by kernel_rfl) (by kernel_rfl) (fun _ _ _ h => h) (Or.inl ⟨by rfl, ?_⟩) (by assumption) ?_
       rotate_left
       ·intro w hSw
        (try dsimp only at hSw)
        go_simp
        try with_reducible rfl
       try simp only [Act.put, List.setIfInBounds_toArray, List.set_cons_zero, List.set_cons_succ]
       refine wpAnyH_take (i := 12) (oi := { dst := some 44, op := Op.pick (Operand.tmp 35) (Operand.tmp 43) (Operand.const (Value.bool false)), type := 4, pos := "l03_normal.go:61", after := #[{ on := 3, ground := Ground.data }, { on := 11, ground := Ground.data }], guard := none }) (v := ?_) rfl (by kernel_rfl) (by kernel_rfl) (by kernel_rfl) (fun _ _ _ h => h) (Or.inl ⟨by rfl, ?_⟩) (by assumption) ?_
       rotate_left
       ·intro w hSw
        (try dsimp only at hSw)
        go_simp
        try with_reducible rfl
       try simp only [Act.put, List.setIfInBounds_toArray, List.set_cons_zero, List.set_cons_succ]
       refine wpAnyH_done (by kernel_rfl) ?_ _
       have hcap := F.out.cap
       have hsub := F.out.sub (f) (i + 1) (by omega) (by omega)
       have HX : Hid ((R.take (i + 1)).drop (f) = restM m R) := Lib.hid (by unfold restM; rw [← HFE.out, ← HJE.out])
       rw [HX.out] at hsub
       have HSB := Lib.hid hsub
       clear hsub
       have hc1 : (i + 1 : Int) ≤ (c2 : Int) := by omega
       have hc2 : ((f : Nat) : Int) ≤ (i + 1 : Int) := by omega
       by_cases hcf : c2 = f
       ·first
         | (exfalso; omega)
         | skip
        all_goals
         have HRZ : Hid (restM m R = []) := Lib.hid (List.eq_nil_of_length_eq_zero (by have h1 := HSB.out.len; omega))
         have HNZ : Hid (∀ (W : World) (ao : Option Addr), ReadsA W ao (i + 1 - f) (restM m R)) := Lib.hid fun W ao => by rw [HRZ.out, show i + 1 - f = 0 by omega]; exact ReadsA.zero
         go_wp2_with (at_builtin; refine wpList_append_rows_at rfl _ _ 26 rfl _ i0 Try.underlying26 hi hz0 hz1 hz2 _ _ _ rfl (OwnAV.empty _) _ _ _ (restM m R) rfl (HNZ.out _ _) (by omega) (by simp) ?_)
         intro v' w5 ho' hg hv
         have Z5 := (Z.out.alloc (.cells #[] 53)).heap hg.size (hg.block _ (Z.out.alloc _).1 fun e => by have := Z.out.1; simp [Value.ownBlock] at e; omega)
         have B5 : Hid (Below w.heap.size w w5) := Lib.hid (by
          have z9 := F.out.bel.size
          first
           | exact below_ownA (F.out.bel.alloc z9 (.cells #[] 53)) (by simp; omega) z9 (OwnAV.empty _) hg
           | exact below_ownA (F.out.bel.alloc z9 (.cells #[] 53)).drew (by simp; omega) z9 (OwnAV.empty _).drew hg)
         have z5 := Z.out.1
         obtain ⟨a', c', rfl, hoA⟩ := ho'.form
         have HOA := Lib.hid hoA
         clear ho' hg hv hoA
         have Z6 := Lib.hid Z5
         obtain ⟨x0, ⟨x1, x2, x3⟩, y1, y2, y3⟩ := Z5
         go_wp2
         try rw [Exit.noGoto_ret]
         obtain ⟨_, ⟨e1, e2, e3⟩, _⟩ := Z6.out.fill (.int .i64 m) (.int .i64 (p + (f : Int))) (.slice a' (i + 1 - f) c')
         refine bodyPost_ret (v := .agg #[.int .i64 m, .int .i64 (p + (f : Int)), .slice a' (i + 1 - f) c']) (by simp [results, Try.results24, go_sem, e1, e2, e3]) rfl ⟨a', _, c', by simp [← HFE.out], ((((HOA.out.setCell_below (p := ⟨w.heap.size, 0, none⟩) z5 _).setCell_below (p := ⟨w.heap.size, 1, none⟩) z5 _).setCell_below (p := ⟨w.heap.size, 2, none⟩) z5 _)).mono (Nat.le_of_lt z5), ((B5.out.setCell (p := ⟨w.heap.size, 0, none⟩) (Nat.le_refl _) _).setCell (p := ⟨w.heap.size, 1, none⟩) (Nat.le_refl _) _).setCell (p := ⟨w.heap.size, 2, none⟩) (Nat.le_refl _) _⟩
       ·try (exfalso; omega)
        all_goals
         go_wp2_with (at_builtin; refine wpList_append_rows_at rfl _ _ 26 rfl _ i0 Try.underlying26 hi hz0 hz1 hz2 _ _ _ rfl (OwnAV.empty _) _ _ _ (restM m R) rfl (HSB.out.alloc _) (by omega) (by simp) ?_)
         intro v' w5 ho' hg hv
         have Z5 := (Z.out.alloc (.cells #[] 53)).heap hg.size (hg.block _ (Z.out.alloc _).1 fun e => by have := Z.out.1; simp [Value.ownBlock] at e; omega)
         have B5 : Hid (Below w.heap.size w w5) := Lib.hid (by
          have z9 := F.out.bel.size
          first
           | exact below_ownA (F.out.bel.alloc z9 (.cells #[] 53)) (by simp; omega) z9 (OwnAV.empty _) hg
           | exact below_ownA (F.out.bel.alloc z9 (.cells #[] 53)).drew (by simp; omega) z9 (OwnAV.empty _).drew hg)
         have z5 := Z.out.1
         obtain ⟨a', c', rfl, hoA⟩ := ho'.form
         have HOA := Lib.hid hoA
         clear ho' hg hv hoA
         have Z6 := Lib.hid Z5
         obtain ⟨x0, ⟨x1, x2, x3⟩, y1, y2, y3⟩ := Z5
         go_wp2
         try rw [Exit.noGoto_ret]
         obtain ⟨_, ⟨e1, e2, e3⟩, _⟩ := Z6.out.fill (.int .i64 m) (.int .i64 (p + (f : Int))) (.slice a' (i + 1 - f) c')
         refine bodyPost_ret (v := .agg #[.int .i64 m, .int .i64 (p + (f : Int)), .slice a' (i + 1 - f) c']) (by simp [results, Try.results24, go_sem, e1, e2, e3]) rfl ⟨a', _, c', by simp [← HFE.out], ((((HOA.out.setCell_below (p := ⟨w.heap.size, 0, none⟩) z5 _).setCell_below (p := ⟨w.heap.size, 1, none⟩) z5 _).setCell_below (p := ⟨w.heap.size, 2, none⟩) z5 _)).mono (Nat.le_of_lt z5), ((B5.out.setCell (p := ⟨w.heap.size, 0, none⟩) (Nat.le_refl _) _).setCell (p := ⟨w.heap.size, 1, none⟩) (Nat.le_refl _) _).setCell (p := ⟨w.heap.size, 2, none⟩) (Nat.le_refl _) _⟩
     ·have hje : j = lastM m R := by omega
      have HJE := Lib.hid hje
      have hi3 : ¬ ((f : Nat) : Int) < (j : Int) := by omega
      clear hje hfe
      go_upto_region 7 with fail
      refine wp_region_held_drew (S := (fun _ => True)) (by kernel_rfl) ?_ (fun hHeld => ?_)
      ·trivial
      refine wpAnyH_take (i := 0) (oi := { dst := some 32, op := Op.move (Operand.tmp 8), type := 3, pos := "l03_normal.go:61", after := #[], guard := none }) (v := ?_) rfl (by kernel_rfl) (by kernel_rfl) (by kernel_rfl) (fun _ _ _ h => h) (Or.inl ⟨by rfl, ?_⟩) (by assumption) ?_
      rotate_left
      ·intro w hSw
       (try dsimp only at hSw)
       go_simp
       try with_reducible rfl
      try simp only [Act.put, List.setIfInBounds_toArray, List.set_cons_zero, List.set_cons_succ]
      refine wpAnyH_take (i := 1) (oi := { dst := some 33, op := Op.move (Operand.tmp 7), type := 3, pos := "l03_normal.go:61", after := #[], guard := none }) (v := ?_) rfl (by kernel_rfl) (by kernel_rfl) (by kernel_rfl) (fun _ _ _ h => h) (Or.inl ⟨by rfl, ?_⟩) (by assumption) ?_
      rotate_left
      ·intro w hSw
       (try dsimp only at hSw)
       go_simp
       try with_reducible rfl
      try simp only [Act.put, List.setIfInBounds_toArray, List.set_cons_zero, List.set_cons_succ]
      refine wpAnyH_take (i := 2) (oi := { dst := some 34, op := Op.binOp BinOp.gtr 3 (Operand.tmp 32) (Operand.tmp 33) 3, type := 4, pos := "l03_normal.go:61", after := #[{ on := 0, ground := Ground.data }, { on := 1, ground := Ground.data }], guard := none }) (v := ?_) rfl (by kernel_rfl) (by kernel_rfl) (by kernel_rfl) (fun _ _ _ h => h) (Or.inl ⟨by rfl, ?_⟩) (by assumption) ?_
      rotate_left
      ·intro w hSw
       (try dsimp only at hSw)
       go_simp
       try with_reducible rfl
      try simp only [Act.put, List.setIfInBounds_toArray, List.set_cons_zero, List.set_cons_succ]
      refine wpAnyH_take (i := 3) (oi := { dst := some 35, op := Op.move (Operand.tmp 34), type := 4, pos := "l03_normal.go:61", after := #[{ on := 2, ground := Ground.data }], guard := none }) (v := ?_) rfl (by kernel_rfl) (by kernel_rfl) (by kernel_rfl) (fun _ _ _ h => h) (Or.inl ⟨by rfl, ?_⟩) (by assumption) ?_
      rotate_left
      ·intro w hSw
       (try dsimp only at hSw)
       go_simp
       try with_reducible rfl
      try simp only [Act.put, List.setIfInBounds_toArray, List.set_cons_zero, List.set_cons_succ]
      refine wpAnyH_take (i := 4) (oi := { dst := some 36, op := Op.move (Operand.tmp 2), type := 26, pos := "l03_normal.go:61", after := #[{ on := 3, ground := Ground.guard }], guard := some (3, true) }) (v := undef) rfl (by kernel_rfl) (by kernel_rfl) (by kernel_rfl) (fun _ _ _ h => h) (Or.inr ⟨by rfl, rfl⟩) (by assumption) ?_
      try simp only [Act.put, List.setIfInBounds_toArray, List.set_cons_zero, List.set_cons_succ]
      refine wpAnyH_take (i := 5) (oi := { dst := some 37, op := Op.move (Operand.tmp 8), type := 3, pos := "l03_normal.go:61", after := #[{ on := 3, ground := Ground.guard }], guard := some (3, true) }) (v := undef) rfl (by kernel_rfl) (by kernel_rfl) (by kernel_rfl) (fun _ _ _ h => h) (Or.inr ⟨by rfl, rfl⟩) (by assumption) ?_
      try simp only [Act.put, List.setIfInBounds_toArray, List.set_cons_zero, List.set_cons_succ]
      refine wpAnyH_take (i := 6) (oi := { dst := some 38, op := Op.binOp BinOp.sub 3 (Operand.tmp 37) (Operand.const (Value.int IntKind.i64 1)) 3, type := 3, pos := "l03_normal.go:61", after := #[{ on := 5, ground := Ground.data }, { on := 3, ground := Ground.guard }], guard := some (3, true) }) (v := undef) rfl (by kernel_rfl) (by kernel_rfl) (by kernel_rfl) (fun _ _ _ h => h) (Or.inr ⟨by rfl, rfl⟩) (by assumption) ?_
      try simp only [Act.put, List.setIfInBounds_toArray, List.set_cons_zero, List.set_cons_succ]
      refine wpAnyH_take (i := 7) (oi := { dst := some 39, op := Op.indexAddr 26 (Operand.tmp 36) (Operand.tmp 38), type := 0, pos := "l03_normal.go:61", after := #[{ on := 4, ground := Ground.data }, { on := 6, ground := Ground.data }, { on := 3, ground := Ground.guard }], guard := some (3, true) }) (v := undef) rfl (by kernel_rfl) (by kernel_rfl) (by kernel_rfl) (fun _ _ _ h => h) (Or.inr ⟨by rfl, rfl⟩) (by assumption) ?_
      try simp only [Act.put, List.setIfInBounds_toArray, List.set_cons_zero, List.set_cons_succ]
      refine wpAnyH_take (i := 8) (oi := { dst := some 40, op := Op.load 53 (Operand.tmp 39), type := 53, pos := "l03_normal.go:61", after := #[{ on := 7, ground := Ground.data }, { on := 3, ground := Ground.guard }], guard := some (3, true) }) (v := undef) rfl (by kernel_rfl) (by kernel_rfl) (by kernel_rfl) (fun _ _ _ h => h) (Or.inr ⟨by rfl, rfl⟩) (by assumption) ?_
      try simp only [Act.put, List.setIfInBounds_toArray, List.set_cons_zero, List.set_cons_succ]
      refine wpAnyH_take (i := 9) (oi := { dst := some 41, op := Op.move (Operand.tmp 0), type := 2, pos := "l03_normal.go:61", after := #[{ on := 3, ground := Ground.guard }], guard := some (3, true) }) (v := undef) rfl (by kernel_rfl) (by kernel_rfl) (by kernel_rfl) (fun _ _ _ h => h) (Or.inr ⟨by rfl, rfl⟩) (by assumption) ?_
      try simp only [Act.put, List.setIfInBounds_toArray, List.set_cons_zero, List.set_cons_succ]
      refine wpAnyH_ready (rs := [10]) (by kernel_rfl) (by simp) ?_
      refine AllReadyH.cons (o := { dst := some 42, op := Op.call { callee := Callee.value (Operand.func 36), args := #[Operand.tmp 41], argTypes := #[2] }, type := 53, pos := "l03_normal.go:61", after := #[{ on := 9, ground := Ground.data }, { on := 3, ground := Ground.chain }, { on := 3, ground := Ground.guard }], guard := some (3, true) }) rfl (fun K hK => ?_) AllReadyH.nil
      go_simp
      refine hK.out _ _ ?_ (fun hHeld => ?_)
      ·trivial
      clear hK K
      try simp only [Act.put, List.setIfInBounds_toArray, List.set_cons_zero, List.set_cons_succ]
      refine wpAnyH_take (i := 11) (oi := { dst := some 43, op := Op.binOp BinOp.eql 53 (Operand.tmp 40) (Operand.tmp 42) 53, type := 4, pos := "l03_normal.go:61", after := #[{ on := 8, ground := Ground.data }, { on := 10, ground := Ground.data }, { on := 3, ground := Ground.guard }], guard := some (3, true) }) (v := undef) rfl (by kernel_rfl) (by kernel_rfl) (by kernel_rfl) (fun _ _ _ h => h) (Or.inr ⟨by rfl, rfl⟩) (by assumption) ?_
      try simp only [Act.put, List.setIfInBounds_toArray, List.set_cons_zero, List.set_cons_succ]
      refine wpAnyH_take (i := 12) (oi := { dst := some 44, op := Op.pick (Operand.tmp 35) (Operand.tmp 43) (Operand.const (Value.bool false)), type := 4, pos := "l03_normal.go:61", after := #[{ on := 3, ground := Ground.data }, { on := 11, ground := Ground.data }], guard := none }) (v := ?_) rfl (by kernel_rfl) (by kernel_rfl) (by kernel_rfl) (fun _ _ _ h => h) (Or.inl ⟨by rfl, ?_⟩) (by assumption) ?_
      rotate_left
      ·intro w hSw
       (try dsimp only at hSw)
       go_simp
       try with_reducible rfl
      try simp only [Act.put, List.setIfInBounds_toArray, List.set_cons_zero, List.set_cons_succ]
      refine wpAnyH_done (by kernel_rfl) ?_ _
      have hcap := F.out.cap
      have hsub := F.out.sub (f) (j) (by omega) (by omega)
      have HX : Hid ((R.take (j)).drop (f) = restM m R) := Lib.hid (by unfold restM; rw [← HFE.out, ← HJE.out])
      rw [HX.out] at hsub
      have HSB := Lib.hid hsub
      clear hsub
      have hc1 : (j : Int) ≤ (c2 : Int) := by omega
      have hc2 : ((f : Nat) : Int) ≤ (j : Int) := by omega
      by_cases hcf : c2 = f
      ·first
        | (exfalso; omega)
        | skip
       all_goals
        have HRZ : Hid (restM m R = []) := Lib.hid (List.eq_nil_of_length_eq_zero (by have h1 := HSB.out.len; omega))
        have HNZ : Hid (∀ (W : World) (ao : Option Addr), ReadsA W ao (j - f) (restM m R)) := Lib.hid fun W ao => by rw [HRZ.out, show j - f = 0 by omega]; exact ReadsA.zero
        go_wp2_with (at_builtin; refine wpList_append_rows_at rfl _ _ 26 rfl _ i0 Try.underlying26 hi hz0 hz1 hz2 _ _ _ rfl (OwnAV.empty _) _ _ _ (restM m R) rfl (HNZ.out _ _) (by omega) (by simp) ?_)
        intro v' w5 ho' hg hv
        have Z5 := (Z.out.alloc (.cells #[] 53)).heap hg.size (hg.block _ (Z.out.alloc _).1 fun e => by have := Z.out.1; simp [Value.ownBlock] at e; omega)
        have B5 : Hid (Below w.heap.size w w5) := Lib.hid (by
         have z9 := F.out.bel.size
         first
          | exact below_ownA (F.out.bel.alloc z9 (.cells #[] 53)) (by simp; omega) z9 (OwnAV.empty _) hg
          | exact below_ownA (F.out.bel.alloc z9 (.cells #[] 53)).drew (by simp; omega) z9 (OwnAV.empty _).drew hg)
        have z5 := Z.out.1
        obtain ⟨a', c', rfl, hoA⟩ := ho'.form
        have HOA := Lib.hid hoA
        clear ho' hg hv hoA
        have Z6 := Lib.hid Z5
        obtain ⟨x0, ⟨x1, x2, x3⟩, y1, y2, y3⟩ := Z5
        go_wp2
        try rw [Exit.noGoto_ret]
        obtain ⟨_, ⟨e1, e2, e3⟩, _⟩ := Z6.out.fill (.int .i64 m) (.int .i64 (p + (f : Int))) (.slice a' (j - f) c')
        refine bodyPost_ret (v := .agg #[.int .i64 m, .int .i64 (p + (f : Int)), .slice a' (j - f) c']) (by simp [results, Try.results24, go_sem, e1, e2, e3]) rfl ⟨a', _, c', by simp [← HFE.out], ((((HOA.out.setCell_below (p := ⟨w.heap.size, 0, none⟩) z5 _).setCell_below (p := ⟨w.heap.size, 1, none⟩) z5 _).setCell_below (p := ⟨w.heap.size, 2, none⟩) z5 _)).mono (Nat.le_of_lt z5), ((B5.out.setCell (p := ⟨w.heap.size, 0, none⟩) (Nat.le_refl _) _).setCell (p := ⟨w.heap.size, 1, none⟩) (Nat.le_refl _) _).setCell (p := ⟨w.heap.size, 2, none⟩) (Nat.le_refl _) _⟩
      ·try (exfalso; omega)
       all_goals
        go_wp2_with (at_builtin; refine wpList_append_rows_at rfl _ _ 26 rfl _ i0 Try.underlying26 hi hz0 hz1 hz2 _ _ _ rfl (OwnAV.empty _) _ _ _ (restM m R) rfl (HSB.out.alloc _) (by omega) (by simp) ?_)
        intro v' w5 ho' hg hv
        have Z5 := (Z.out.alloc (.cells #[] 53)).heap hg.size (hg.block _ (Z.out.alloc _).1 fun e => by have := Z.out.1; simp [Value.ownBlock] at e; omega)
        have B5 : Hid (Below w.heap.size w w5) := Lib.hid (by
         have z9 := F.out.bel.size
         first
          | exact below_ownA (F.out.bel.alloc z9 (.cells #[] 53)) (by simp; omega) z9 (OwnAV.empty _) hg
          | exact below_ownA (F.out.bel.alloc z9 (.cells #[] 53)).drew (by simp; omega) z9 (OwnAV.empty _).drew hg)
        have z5 := Z.out.1
        obtain ⟨a', c', rfl, hoA⟩ := ho'.form
        have HOA := Lib.hid hoA
        clear ho' hg hv hoA
        have Z6 := Lib.hid Z5
        obtain ⟨x0, ⟨x1, x2, x3⟩, y1, y2, y3⟩ := Z5
        go_wp2
        try rw [Exit.noGoto_ret]
        obtain ⟨_, ⟨e1, e2, e3⟩, _⟩ := Z6.out.fill (.int .i64 m) (.int .i64 (p + (f : Int))) (.slice a' (j - f) c')
        refine bodyPost_ret (v := .agg #[.int .i64 m, .int .i64 (p + (f : Int)), .slice a' (j - f) c']) (by simp [results, Try.results24, go_sem, e1, e2, e3]) rfl ⟨a', _, c', by simp [← HFE.out], ((((HOA.out.setCell_below (p := ⟨w.heap.size, 0, none⟩) z5 _).setCell_below (p := ⟨w.heap.size, 1, none⟩) z5 _).setCell_below (p := ⟨w.heap.size, 2, none⟩) z5 _)).mono (Nat.le_of_lt z5), ((B5.out.setCell (p := ⟨w.heap.size, 0, none⟩) (Nat.le_refl _) _).setCell (p := ⟨w.heap.size, 1, none⟩) (Nat.le_refl _) _).setCell (p := ⟨w.heap.size, 2, none⟩) (Nat.le_refl _) _⟩
 ·have hm2 : ¬ (1 : Int) < (m : Int) := by omega
  have HFE : Hid (0 = firstM m R) := Lib.hid (by unfold firstM; rw [if_neg (by omega)])
  have HLM : Hid (firstM m R ≤ lastM m R ∧ lastM m R ≤ n2) := Lib.hid ⟨lastM_ge m R, by have := lastM_le m R; have := HRL.out; omega⟩
  have hlm := HLM.out
  go_wp2
  go_loopg [8] (n2 - lastM m R) (fun g v wx => ∃ j : Nat, j ≤ n2 ∧ g + lastM m R = j ∧ v = .int .i64 j ∧ AtWei w wx gb n2 c2 R ∧ At3 wx w.heap.size (.int .i64 0) (.int .i64 0) (.slice none 0 0))
  case atStart => exact ⟨n2, Nat.le_refl _, by omega, rfl, F.out, Z.out⟩
  case round =>
   obtain ⟨j, hj, hgj, rfl, hF, hZ⟩ := hrel
   clear F Z
   have F := Lib.hid hF
   have Z := Lib.hid hZ
   clear hF hZ
   have hRL := HRL.out
   have hfe := HFE.out
   by_cases hlt : 0 < j
   ·obtain ⟨i, rfl⟩ : ∃ i, j = i + 1 := ⟨j - 1, by omega⟩
    obtain ⟨ra, hra⟩ : ∃ ra, ra = rowAt R i := ⟨_, rfl⟩
    have HRA : Hid (∀ W, AtWei w W gb n2 c2 R → Cells8 W gb (i * 8) ra) := Lib.hid fun W h => by rw [hra]; exact h.row i (by omega)
    have SA : Hid (Sim m ra) := Lib.hid (by rw [hra]; exact rows_sims.1 SR.out i (by omega))
    have hi1 : (i : Int) < (n2 : Int) := by omega
    have hi2 : (0 : Int) ≤ (i : Int) := by omega
    have hi3 : ((0 : Nat) : Int) < (i : Int) + 1 := by omega
    have hw1 : IntKind.i64.wrap (i : Int) = (i : Int) := IntWalk.i64_in _ (by omega)
    by_cases he : ra = sameR m
    ·have hjs : lastM m R < i + 1 := by
      rcases Nat.lt_or_ge (lastM m R) (i + 1) with h | h
      ·exact h
      ·exfalso
       have h2 : i = lastM m R - 1 := by omega
       rw [hra, h2] at he
       exact last_end m R (by omega) he
     have heq1 : ∀ W, Sem.run Try.prog (Op.equalIn 10000 53 (arr8 .u8 ra) (arr8 .u8 (sameR m))) W = .ok true W := fun W => by rw [equal8 ra (sameR m) SA.out.len (mapR_len _ _ m8) W, decide_eq_true he]
     clear he hra hfe
     go_upto_region 7 with fail
     replace F := Lib.hid F.out.drew
     replace Z := Lib.hid Z.out.drew
     refine wp_region_held_drew (S := (fun w' => w'.cell? ⟨gb, i * 8, none⟩ = some (.int .u8 (at8 ra 0)) ∧ w'.cell? ⟨gb, i * 8 + 1, none⟩ = some (.int .u8 (at8 ra 1)) ∧ w'.cell? ⟨gb, i * 8 + 2, none⟩ = some (.int .u8 (at8 ra 2)) ∧ w'.cell? ⟨gb, i * 8 + 3, none⟩ = some (.int .u8 (at8 ra 3)) ∧ w'.cell? ⟨gb, i * 8 + 4, none⟩ = some (.int .u8 (at8 ra 4)) ∧ w'.cell? ⟨gb, i * 8 + 5, none⟩ = some (.int .u8 (at8 ra 5)) ∧ w'.cell? ⟨gb, i * 8 + 6, none⟩ = some (.int .u8 (at8 ra 6)) ∧ w'.cell? ⟨gb, i * 8 + 7, none⟩ = some (.int .u8 (at8 ra 7)))) (by kernel_rfl) ?_ (fun hHeld => ?_)
     ·with_reducible exact (HRA.out _ F.out).flat
     refine wpAnyH_take (i := 0) (oi := { dst := some 32, op := Op.move (Operand.tmp 8), type := 3, pos := "l03_normal.go:61", after := #[], guard := none }) (v := ?_) rfl (by kernel_rfl) (by kernel_rfl) (by kernel_rfl) (fun _ _ _ h => h) (Or.inl ⟨by rfl, ?_⟩) (by assumption) ?_
     rotate_left
     ·intro w hSw
      (try dsimp only at hSw)
      go_simp
      try with_reducible rfl
     try simp only [Act.put, List.setIfInBounds_toArray, List.set_cons_zero, List.set_cons_succ]
     refine wpAnyH_take (i := 1) (oi := { dst := some 33, op := Op.move (Operand.tmp 7), type := 3, pos := "l03_normal.go:61", after := #[], guard := none }) (v := ?_) rfl (by kernel_rfl) (by kernel_rfl) (by kernel_rfl) (fun _ _ _ h => h) (Or.inl ⟨by rfl, ?_⟩) (by assumption) ?_
     rotate_left
     ·intro w hSw
      (try dsimp only at hSw)
      go_simp
      try with_reducible rfl
     try simp only [Act.put, List.setIfInBounds_toArray, List.set_cons_zero, List.set_cons_succ]
     refine wpAnyH_take (i := 2) (oi := { dst := some 34, op := Op.binOp BinOp.gtr 3 (Operand.tmp 32) (Operand.tmp 33) 3, type := 4, pos := "l03_normal.go:61", after := #[{ on := 0, ground := Ground.data }, { on := 1, ground := Ground.data }], guard := none }) (v := ?_) rfl (by kernel_rfl) (by kernel_rfl) (by kernel_rfl) (fun _ _ _ h => h) (Or.inl ⟨by rfl, ?_⟩) (by assumption) ?_
     rotate_left
     ·intro w hSw
      (try dsimp only at hSw)
      go_simp
      try with_reducible rfl
     try simp only [Act.put, List.setIfInBounds_toArray, List.set_cons_zero, List.set_cons_succ]
     refine wpAnyH_take (i := 3) (oi := { dst := some 35, op := Op.move (Operand.tmp 34), type := 4, pos := "l03_normal.go:61", after := #[{ on := 2, ground := Ground.data }], guard := none }) (v := ?_) rfl (by kernel_rfl) (by kernel_rfl) (by kernel_rfl) (fun _ _ _ h => h) (Or.inl ⟨by rfl, ?_⟩) (by assumption) ?_
     rotate_left
     ·intro w hSw
      (try dsimp only at hSw)
      go_simp
      try with_reducible rfl
     try simp only [Act.put, List.setIfInBounds_toArray, List.set_cons_zero, List.set_cons_succ]
     refine wpAnyH_take (i := 4) (oi := { dst := some 36, op := Op.move (Operand.tmp 2), type := 26, pos := "l03_normal.go:61", after := #[{ on := 3, ground := Ground.guard }], guard := some (3, true) }) (v := ?_) rfl (by kernel_rfl) (by kernel_rfl) (by kernel_rfl) (fun _ _ _ h => h) (Or.inl ⟨by rfl, ?_⟩) (by assumption) ?_
     rotate_left
     ·intro w hSw
      (try dsimp only at hSw)
      go_simp
      try with_reducible rfl
     try simp only [Act.put, List.setIfInBounds_toArray, List.set_cons_zero, List.set_cons_succ]
     refine wpAnyH_take (i := 5) (oi := { dst := some 37, op := Op.move (Operand.tmp 8), type := 3, pos := "l03_normal.go:61", after := #[{ on := 3, ground := Ground.guard }], guard := some (3, true) }) (v := ?_) rfl (by kernel_rfl) (by kernel_rfl) (by kernel_rfl) (fun _ _ _ h => h) (Or.inl ⟨by rfl, ?_⟩) (by assumption) ?_
     rotate_left
     ·intro w hSw
      (try dsimp only at hSw)
      go_simp
      try with_reducible rfl
     try simp only [Act.put, List.setIfInBounds_toArray, List.set_cons_zero, List.set_cons_succ]
     refine wpAnyH_take (i := 6) (oi := { dst := some 38, op := Op.binOp BinOp.sub 3 (Operand.tmp 37) (Operand.const (Value.int IntKind.i64 1)) 3, type := 3, pos := "l03_normal.go:61", after := #[{ on := 5, ground := Ground.data }, { on := 3, ground := Ground.guard }], guard := some (3, true) }) (v := ?_) rfl (by kernel_rfl) (by kernel_rfl) (by kernel_rfl) (fun _ _ _ h => h) (Or.inl ⟨by rfl, ?_⟩) (by assumption) ?_
     rotate_left
     ·intro w hSw
      (try dsimp only at hSw)
      go_simp
      try with_reducible rfl
     try simp only [Act.put, List.setIfInBounds_toArray, List.set_cons_zero, List.set_cons_succ]
     refine wpAnyH_take (i := 7) (oi := { dst := some 39, op := Op.indexAddr 26 (Operand.tmp 36) (Operand.tmp 38), type := 0, pos := "l03_normal.go:61", after := #[{ on := 4, ground := Ground.data }, { on := 6, ground := Ground.data }, { on := 3, ground := Ground.guard }], guard := some (3, true) }) (v := ?_) rfl (by kernel_rfl) (by kernel_rfl) (by kernel_rfl) (fun _ _ _ h => h) (Or.inl ⟨by rfl, ?_⟩) (by assumption) ?_
     rotate_left
     ·intro w hSw
      (try dsimp only at hSw)
      go_simp
      try with_reducible rfl
     try simp only [Act.put, List.setIfInBounds_toArray, List.set_cons_zero, List.set_cons_succ]
     refine wpAnyH_take (i := 8) (oi := { dst := some 40, op := Op.load 53 (Operand.tmp 39), type := 53, pos := "l03_normal.go:61", after := #[{ on := 7, ground := Ground.data }, { on := 3, ground := Ground.guard }], guard := some (3, true) }) (v := ?_) rfl (by kernel_rfl) (by kernel_rfl) (by kernel_rfl) (fun _ _ _ h => h) (Or.inl ⟨by rfl, ?_⟩) (by assumption) ?_
     rotate_left
     ·intro w hSw
      (try dsimp only at hSw)
      go_simp
      try with_reducible rfl
     try simp only [Act.put, List.setIfInBounds_toArray, List.set_cons_zero, List.set_cons_succ]
     refine wpAnyH_take (i := 9) (oi := { dst := some 41, op := Op.move (Operand.tmp 0), type := 2, pos := "l03_normal.go:61", after := #[{ on := 3, ground := Ground.guard }], guard := some (3, true) }) (v := ?_) rfl (by kernel_rfl) (by kernel_rfl) (by kernel_rfl) (fun _ _ _ h => h) (Or.inl ⟨by rfl, ?_⟩) (by assumption) ?_
     rotate_left
     ·intro w hSw
      (try dsimp only at hSw)
      go_simp
      try with_reducible rfl
     try simp only [Act.put, List.setIfInBounds_toArray, List.set_cons_zero, List.set_cons_succ]
     refine wpAnyH_ready (rs := [10]) (by kernel_rfl) (by simp) ?_
     refine AllReadyH.cons (o := { dst := some 42, op := Op.call { callee := Callee.value (Operand.func 36), args := #[Operand.tmp 41], argTypes := #[2] }, type := 53, pos := "l03_normal.go:61", after := #[{ on := 9, ground := Ground.data }, { on := 3, ground := Ground.chain }, { on := 3, ground := Ground.guard }], guard := some (3, true) }) rfl (fun K hK => ?_) AllReadyH.nil
     go_simp
     (refine (l02Same_any m m8 _).mono ?_; rintro e w4 ⟨rfl, gg⟩; replace F := Lib.hid (F.out.below gg); replace Z := Lib.hid (Z.out.below gg))
     go_wp2_with fail
     refine hK.out _ _ ?_ (fun hHeld => ?_)
     ·with_reducible exact (HRA.out _ F.out).flat
     clear hK K
     try simp only [Act.put, List.setIfInBounds_toArray, List.set_cons_zero, List.set_cons_succ]
     refine wpAnyH_take (i := 11) (oi := { dst := some 43, op := Op.binOp BinOp.eql 53 (Operand.tmp 40) (Operand.tmp 42) 53, type := 4, pos := "l03_normal.go:61", after := #[{ on := 8, ground := Ground.data }, { on := 10, ground := Ground.data }, { on := 3, ground := Ground.guard }], guard := some (3, true) }) (v := ?_) rfl (by kernel_rfl) (by kernel_rfl) (by kernel_rfl) (fun _ _ _ h => h) (Or.inl ⟨by rfl, ?_⟩) (by assumption) ?_
     rotate_left
     ·intro w hSw
      (try dsimp only at hSw)
      go_simp
      try with_reducible rfl
     try simp only [Act.put, List.setIfInBounds_toArray, List.set_cons_zero, List.set_cons_succ]
     refine wpAnyH_take (i := 12) (oi := { dst := some 44, op := Op.pick (Operand.tmp 35) (Operand.tmp 43) (Operand.const (Value.bool false)), type := 4, pos := "l03_normal.go:61", after := #[{ on := 3, ground := Ground.data }, { on := 11, ground := Ground.data }], guard := none }) (v := ?_) rfl (by kernel_rfl) (by kernel_rfl) (by kernel_rfl) (fun _ _ _ h => h) (Or.inl ⟨by rfl, ?_⟩) (by assumption) ?_
     rotate_left
     ·intro w hSw
      (try dsimp only at hSw)
      go_simp
      try with_reducible rfl
     try simp only [Act.put, List.setIfInBounds_toArray, List.set_cons_zero, List.set_cons_succ]
     refine wpAnyH_done (by kernel_rfl) ?_ _
     go_wp2
     go_roundg (gk - 1)
     case measure => omega
     case rel => exact ⟨i, by omega, by omega, by go_num, F.out, Z.out⟩
    ·have hje : i + 1 = lastM m R := by
      rcases Nat.lt_or_ge (lastM m R) (i + 1) with h | h
      ·exfalso
       have := last_at m R (i + 1) h (by omega)
       rw [show i + 1 - 1 = i by omega, ← hra] at this
       exact he this
      ·omega
     have heq1 : ∀ W, Sem.run Try.prog (Op.equalIn 10000 53 (arr8 .u8 ra) (arr8 .u8 (sameR m))) W = .ok false W := fun W => by rw [equal8 ra (sameR m) SA.out.len (mapR_len _ _ m8) W, decide_eq_false he]
     have HJE := Lib.hid hje
     clear he hra hje hfe
     go_upto_region 7 with fail
     replace F := Lib.hid F.out.drew
     replace Z := Lib.hid Z.out.drew
     refine wp_region_held_drew (S := (fun w' => w'.cell? ⟨gb, i * 8, none⟩ = some (.int .u8 (at8 ra 0)) ∧ w'.cell? ⟨gb, i * 8 + 1, none⟩ = some (.int .u8 (at8 ra 1)) ∧ w'.cell? ⟨gb, i * 8 + 2, none⟩ = some (.int .u8 (at8 ra 2)) ∧ w'.cell? ⟨gb, i * 8 + 3, none⟩ = some (.int .u8 (at8 ra 3)) ∧ w'.cell? ⟨gb, i * 8 + 4, none⟩ = some (.int .u8 (at8 ra 4)) ∧ w'.cell? ⟨gb, i * 8 + 5, none⟩ = some (.int .u8 (at8 ra 5)) ∧ w'.cell? ⟨gb, i * 8 + 6, none⟩ = some (.int .u8 (at8 ra 6)) ∧ w'.cell? ⟨gb, i * 8 + 7, none⟩ = some (.int .u8 (at8 ra 7)))) (by kernel_rfl) ?_ (fun hHeld => ?_)
     ·with_reducible exact (HRA.out _ F.out).flat
     refine wpAnyH_take (i := 0) (oi := { dst := some 32, op := Op.move (Operand.tmp 8), type := 3, pos := "l03_normal.go:61", after := #[], guard := none }) (v := ?_) rfl (by kernel_rfl) (by kernel_rfl) (by kernel_rfl) (fun _ _ _ h => h) (Or.inl ⟨by rfl, ?_⟩) (by assumption) ?_
     rotate_left
     ·intro w hSw
      (try dsimp only at hSw)
      go_simp
      try with_reducible rfl
     try simp only [Act.put, List.setIfInBounds_toArray, List.set_cons_zero, List.set_cons_succ]
     refine wpAnyH_take (i := 1) (oi := { dst := some 33, op := Op.move (Operand.tmp 7), type := 3, pos := "l03_normal.go:61", after := #[], guard := none }) (v := ?_) rfl (by kernel_rfl) (by kernel_rfl) (by kernel_rfl) (fun _ _ _ h => h) (Or.inl ⟨by rfl, ?_⟩) (by assumption) ?_
     rotate_left
     ·intro w hSw
      (try dsimp only at hSw)
      go_simp
      try with_reducible rfl
     try simp only [Act.put, List.setIfInBounds_toArray, List.set_cons_zero, List.set_cons_succ]
     refine wpAnyH_take (i := 2) (oi := { dst := some 34, op := Op.binOp BinOp.gtr 3 (Operand.tmp 32) (Operand.tmp 33) 3, type := 4, pos := "l03_normal.go:61", after := #[{ on := 0, ground := Ground.data }, { on := 1, ground := Ground.data }], guard := none }) (v := ?_) rfl (by kernel_rfl) (by kernel_rfl) (by kernel_rfl) (fun _ _ _ h => h) (Or.inl ⟨by rfl, ?_⟩) (by assumption) ?_
     rotate_left
     ·intro w hSw
      (try dsimp only at hSw)
      go_simp
      try with_reducible rfl
     try simp only [Act.put, List.setIfInBounds_toArray, List.set_cons_zero, List.set_cons_succ]
     refine wpAnyH_take (i := 3) (oi := { dst := some 35, op := Op.move (Operand.tmp 34), type := 4, pos := "l03_normal.go:61", after := #[{ on := 2, ground := Ground.data }], guard := none }) (v := ?_) rfl (by kernel_rfl) (by kernel_rfl) (by kernel_rfl) (fun _ _ _ h => h) (Or.inl ⟨by rfl, ?_⟩) (by assumption) ?_
     rotate_left
     ·intro w hSw
      (try dsimp only at hSw)
      go_simp
      try with_reducible rfl
     try simp only [Act.put, List.setIfInBounds_toArray, List.set_cons_zero, List.set_cons_succ]
     refine wpAnyH_take (i := 4) (oi := { dst := some 36, op := Op.move (Operand.tmp 2), type := 26, pos := "l03_normal.go:61", after := #[{ on := 3, ground := Ground.guard }], guard := some (3, true) }) (v := ?_) rfl (by kernel_rfl) (by kernel_rfl) (by kernel_rfl) (fun _ _ _ h => h) (Or.inl ⟨by rfl, ?_⟩) (by assumption) ?_
     rotate_left
     ·intro w hSw
      (try dsimp only at hSw)
      go_simp
      try with_reducible rfl
     try simp only [Act.put, List.setIfInBounds_toArray, List.set_cons_zero, List.set_cons_succ]
     refine wpAnyH_take (i := 5) (oi := { dst := some 37, op := Op.move (Operand.tmp 8), type := 3, pos := "l03_normal.go:61", after := #[{ on := 3, ground := Ground.guard }], guard := some (3, true) }) (v := ?_) rfl (by kernel_rfl) (by kernel_rfl) (by kernel_rfl) (fun _ _ _ h => h) (Or.inl ⟨by rfl, ?_⟩) (by assumption) ?_
     rotate_left
     ·intro w hSw
      (try dsimp only at hSw)
      go_simp
      try with_reducible rfl
     try simp only [Act.put, List.setIfInBounds_toArray, List.set_cons_zero, List.set_cons_succ]
     refine wpAnyH_take (i := 6) (oi := { dst := some 38, op := Op.binOp BinOp.sub 3 (Operand.tmp 37) (Operand.const (Value.int IntKind.i64 1)) 3, type := 3, pos := "l03_normal.go:61", after := #[{ on := 5, ground := Ground.data }, { on := 3, ground := Ground.guard }], guard := some (3, true) }) (v := ?_) rfl (by kernel_rfl) (by kernel_rfl) (by kernel_rfl) (fun _ _ _ h => h) (Or.inl ⟨by rfl, ?_⟩) (by assumption) ?_
     rotate_left
     ·intro w hSw
      (try dsimp only at hSw)
      go_simp
      try with_reducible rfl
     try simp only [Act.put, List.setIfInBounds_toArray, List.set_cons_zero, List.set_cons_succ]
     refine wpAnyH_take (i := 7) (oi := { dst := some 39, op := Op.indexAddr 26 (Operand.tmp 36) (Operand.tmp 38), type := 0, pos := "l03_normal.go:61", after := #[{ on := 4, ground := Ground.data }, { on := 6, ground := Ground.data }, { on := 3, ground := Ground.guard }], guard := some (3, true) }) (v := ?_) rfl (by kernel_rfl) (by kernel_rfl) (by kernel_rfl) (fun _ _ _ h => h) (Or.inl ⟨by rfl, ?_⟩) (by assumption) ?_
     rotate_left
     ·intro w hSw
      (try dsimp only at hSw)
      go_simp
      try with_reducible rfl
     try simp only [Act.put, List.setIfInBounds_toArray, List.set_cons_zero, List.set_cons_succ]
     refine wpAnyH_take (i := 8) (oi := { dst := some 40, op := Op.load 53 (Operand.tmp 39), type := 53, pos := "l03_normal.go:61", after := #[{ on := 7, ground := Ground.data }, { on := 3, ground := Ground.guard }], guard := some (3, true) }) (v := ?_) rfl (by kernel_rfl) (by kernel_rfl) (by kernel_rfl) (fun _ _ _ h => h) (Or.inl ⟨by rfl, ?_⟩) (by assumption) ?_
     rotate_left
     ·intro w hSw
      (try dsimp only at hSw)
      go_simp
      try with_reducible rfl
     try simp only [Act.put, List.setIfInBounds_toArray, List.set_cons_zero, List.set_cons_succ]
     refine wpAnyH_take (i := 9) (oi := { dst := some 41, op := Op.move (Operand.tmp 0), type := 2, pos := "l03_normal.go:61", after := #[{ on := 3, ground := Ground.guard }], guard := some (3, true) }) (v := ?_) rfl (by kernel_rfl) (by kernel_rfl) (by kernel_rfl) (fun _ _ _ h => h) (Or.inl ⟨by rfl, ?_⟩) (by assumption) ?_
     rotate_left
     ·intro w hSw
      (try dsimp only at hSw)
      go_simp
      try with_reducible rfl
     try simp only [Act.put, List.setIfInBounds_toArray, List.set_cons_zero, List.set_cons_succ]
     refine wpAnyH_ready (rs := [10]) (by kernel_rfl) (by simp) ?_
     refine AllReadyH.cons (o := { dst := some 42, op := Op.call { callee := Callee.value (Operand.func 36), args := #[Operand.tmp 41], argTypes := #[2] }, type := 53, pos := "l03_normal.go:61", after := #[{ on := 9, ground := Ground.data }, { on := 3, ground := Ground.chain }, { on := 3, ground := Ground.guard }], guard := some (3, true) }) rfl (fun K hK => ?_) AllReadyH.nil
     go_simp
     (refine (l02Same_any m m8 _).mono ?_; rintro e w4 ⟨rfl, gg⟩; replace F := Lib.hid (F.out.below gg); replace Z := Lib.hid (Z.out.below gg))
     go_wp2_with fail
     refine hK.out _ _ ?_ (fun hHeld => ?_)
     ·with_reducible exact (HRA.out _ F.out).flat
     clear hK K
     try simp only [Act.put, List.setIfInBounds_toArray, List.set_cons_zero, List.set_cons_succ]
     refine wpAnyH_take (i := 11) (oi := { dst := some 43, op := Op.binOp BinOp.eql 53 (Operand.tmp 40) (Operand.tmp 42) 53, type := 4, pos := "l03_normal.go:61", after := #[{ on := 8, ground := Ground.data }, { on := 10, ground := Ground.data }, { on := 3, ground := Ground.guard }], guard := some (3, true) }) (v := ?_) rfl (by kernel_rfl) (by kernel_rfl) (by kernel_rfl) (fun _ _ _ h => h) (Or.inl ⟨by rfl, ?_⟩) (by assumption) ?_
     rotate_left
     ·intro w hSw
      (try dsimp only at hSw)
      go_simp
      try with_reducible rfl
     try simp only [Act.put, List.setIfInBounds_toArray, List.set_cons_zero, List.set_cons_succ]
     refine wpAnyH_take (i := 12) (oi := { dst := some 44, op := Op.pick (Operand.tmp 35) (Operand.tmp 43) (Operand.const (Value.bool false)), type := 4, pos := "l03_normal.go:61", after := #[{ on := 3, ground := Ground.data }, { on := 11, ground := Ground.data }], guard := none }) (v := ?_) rfl (by kernel_rfl) (by kernel_rfl) (by kernel_rfl) (fun _ _ _ h => h) (Or.inl ⟨by rfl, ?_⟩) (by assumption) ?_
     rotate_left
     ·intro w hSw
      (try dsimp only at hSw)
      go_simp
      try with_reducible rfl
     try simp only [Act.put, List.setIfInBounds_toArray, List.set_cons_zero, List.set_cons_succ]
     refine wpAnyH_done (by kernel_rfl) ?_ _
     have hcap := F.out.cap
     have hsub := F.out.sub (0) (i + 1) (by omega) (by omega)
     have HX : Hid ((R.take (i + 1)).drop (0) = restM m R) := Lib.hid (by unfold restM; rw [← HFE.out, ← HJE.out])
     rw [HX.out] at hsub
     have HSB := Lib.hid hsub
     clear hsub
     have hc1 : (i + 1 : Int) ≤ (c2 : Int) := by omega
     have hc2 : ((0 : Nat) : Int) ≤ (i + 1 : Int) := by omega
     by_cases hcf : c2 = 0
     ·first
       | (exfalso; omega)
       | skip
      all_goals
       have HRZ : Hid (restM m R = []) := Lib.hid (List.eq_nil_of_length_eq_zero (by have h1 := HSB.out.len; omega))
       have HNZ : Hid (∀ (W : World) (ao : Option Addr), ReadsA W ao (i + 1 - 0) (restM m R)) := Lib.hid fun W ao => by rw [HRZ.out, show i + 1 - 0 = 0 by omega]; exact ReadsA.zero
       go_wp2_with (at_builtin; refine wpList_append_rows_at rfl _ _ 26 rfl _ i0 Try.underlying26 hi hz0 hz1 hz2 _ _ _ rfl (OwnAV.empty _) _ _ _ (restM m R) rfl (HNZ.out _ _) (by omega) (by simp) ?_)
       intro v' w5 ho' hg hv
       have Z5 := (Z.out.alloc (.cells #[] 53)).heap hg.size (hg.block _ (Z.out.alloc _).1 fun e => by have := Z.out.1; simp [Value.ownBlock] at e; omega)
       have B5 : Hid (Below w.heap.size w w5) := Lib.hid (by
        have z9 := F.out.bel.size
        first
         | exact below_ownA (F.out.bel.alloc z9 (.cells #[] 53)) (by simp; omega) z9 (OwnAV.empty _) hg
         | exact below_ownA (F.out.bel.alloc z9 (.cells #[] 53)).drew (by simp; omega) z9 (OwnAV.empty _).drew hg)
       have z5 := Z.out.1
       obtain ⟨a', c', rfl, hoA⟩ := ho'.form
       have HOA := Lib.hid hoA
       clear ho' hg hv hoA
       have Z6 := Lib.hid Z5
       obtain ⟨x0, ⟨x1, x2, x3⟩, y1, y2, y3⟩ := Z5
       go_wp2
       try rw [Exit.noGoto_ret]
       obtain ⟨_, ⟨e1, e2, e3⟩, _⟩ := Z6.out.fill (.int .i64 m) (.int .i64 (p)) (.slice a' (i + 1) c')
       refine bodyPost_ret (v := .agg #[.int .i64 m, .int .i64 (p), .slice a' (i + 1) c']) (by simp [results, Try.results24, go_sem, e1, e2, e3]) rfl ⟨a', _, c', by simp [← HFE.out], ((((HOA.out.setCell_below (p := ⟨w.heap.size, 0, none⟩) z5 _).setCell_below (p := ⟨w.heap.size, 1, none⟩) z5 _).setCell_below (p := ⟨w.heap.size, 2, none⟩) z5 _)).mono (Nat.le_of_lt z5), ((B5.out.setCell (p := ⟨w.heap.size, 0, none⟩) (Nat.le_refl _) _).setCell (p := ⟨w.heap.size, 1, none⟩) (Nat.le_refl _) _).setCell (p := ⟨w.heap.size, 2, none⟩) (Nat.le_refl _) _⟩
     ·try (exfalso; omega)
      all_goals
       go_wp2_with (at_builtin; refine wpList_append_rows_at rfl _ _ 26 rfl _ i0 Try.underlying26 hi hz0 hz1 hz2 _ _ _ rfl (OwnAV.empty _) _ _ _ (restM m R) rfl (HSB.out.alloc _) (by omega) (by simp) ?_)
       intro v' w5 ho' hg hv
       have Z5 := (Z.out.alloc (.cells #[] 53)).heap hg.size (hg.block _ (Z.out.alloc _).1 fun e => by have := Z.out.1; simp [Value.ownBlock] at e; omega)
       have B5 : Hid (Below w.heap.size w w5) := Lib.hid (by
        have z9 := F.out.bel.size
        first
         | exact below_ownA (F.out.bel.alloc z9 (.cells #[] 53)) (by simp; omega) z9 (OwnAV.empty _) hg
         | exact below_ownA (F.out.bel.alloc z9 (.cells #[] 53)).drew (by simp; omega) z9 (OwnAV.empty _).drew hg)
       have z5 := Z.out.1
       obtain ⟨a', c', rfl, hoA⟩ := ho'.form
       have HOA := Lib.hid hoA
       clear ho' hg hv hoA
       have Z6 := Lib.hid Z5
       obtain ⟨x0, ⟨x1, x2, x3⟩, y1, y2, y3⟩ := Z5
       go_wp2
       try rw [Exit.noGoto_ret]
       obtain ⟨_, ⟨e1, e2, e3⟩, _⟩ := Z6.out.fill (.int .i64 m) (.int .i64 (p)) (.slice a' (i + 1) c')
       refine bodyPost_ret (v := .agg #[.int .i64 m, .int .i64 (p), .slice a' (i + 1) c']) (by simp [results, Try.results24, go_sem, e1, e2, e3]) rfl ⟨a', _, c', by simp [← HFE.out], ((((HOA.out.setCell_below (p := ⟨w.heap.size, 0, none⟩) z5 _).setCell_below (p := ⟨w.heap.size, 1, none⟩) z5 _).setCell_below (p := ⟨w.heap.size, 2, none⟩) z5 _)).mono (Nat.le_of_lt z5), ((B5.out.setCell (p := ⟨w.heap.size, 0, none⟩) (Nat.le_refl _) _).setCell (p := ⟨w.heap.size, 1, none⟩) (Nat.le_refl _) _).setCell (p := ⟨w.heap.size, 2, none⟩) (Nat.le_refl _) _⟩
   ·have hje : j = lastM m R := by omega
    have HJE := Lib.hid hje
    have hi3 : ¬ ((0 : Nat) : Int) < (j : Int) := by omega
    clear hje hfe
    go_upto_region 7 with fail
    refine wp_region_held_drew (S := (fun _ => True)) (by kernel_rfl) ?_ (fun hHeld => ?_)
    ·trivial
    refine wpAnyH_take (i := 0) (oi := { dst := some 32, op := Op.move (Operand.tmp 8), type := 3, pos := "l03_normal.go:61", after := #[], guard := none }) (v := ?_) rfl (by kernel_rfl) (by kernel_rfl) (by kernel_rfl) (fun _ _ _ h => h) (Or.inl ⟨by rfl, ?_⟩) (by assumption) ?_
    rotate_left
    ·intro w hSw
     (try dsimp only at hSw)
     go_simp
     try with_reducible rfl
    try simp only [Act.put, List.setIfInBounds_toArray, List.set_cons_zero, List.set_cons_succ]
    refine wpAnyH_take (i := 1) (oi := { dst := some 33, op := Op.move (Operand.tmp 7), type := 3, pos := "l03_normal.go:61", after := #[], guard := none }) (v := ?_) rfl (by kernel_rfl) (by kernel_rfl) (by kernel_rfl) (fun _ _ _ h => h) (Or.inl ⟨by rfl, ?_⟩) (by assumption) ?_
    rotate_left
    ·intro w hSw
     (try dsimp only at hSw)
     go_simp
     try with_reducible rfl
    try simp only [Act.put, List.setIfInBounds_toArray, List.set_cons_zero, List.set_cons_succ]
    refine wpAnyH_take (i := 2) (oi := { dst := some 34, op := Op.binOp BinOp.gtr 3 (Operand.tmp 32) (Operand.tmp 33) 3, type := 4, pos := "l03_normal.go:61", after := #[{ on := 0, ground := Ground.data }, { on := 1, ground := Ground.data }], guard := none }) (v := ?_) rfl (by kernel_rfl) (by kernel_rfl) (by kernel_rfl) (fun _ _ _ h => h) (Or.inl ⟨by rfl, ?_⟩) (by assumption) ?_
    rotate_left
    ·intro w hSw
     (try dsimp only at hSw)
     go_simp
     try with_reducible rfl
    try simp only [Act.put, List.setIfInBounds_toArray, List.set_cons_zero, List.set_cons_succ]
    refine wpAnyH_take (i := 3) (oi := { dst := some 35, op := Op.move (Operand.tmp 34), type := 4, pos := "l03_normal.go:61", after := #[{ on := 2, ground := Ground.data }], guard := none }) (v := ?_) rfl (by kernel_rfl) (by kernel_rfl) (by kernel_rfl) (fun _ _ _ h => h) (Or.inl ⟨by rfl, ?_⟩) (by assumption) ?_
    rotate_left
    ·intro w hSw
     (try dsimp only at hSw)
     go_simp
     try with_reducible rfl
    try simp only [Act.put, List.setIfInBounds_toArray, List.set_cons_zero, List.set_cons_succ]
    refine wpAnyH_take (i := 4) (oi := { dst := some 36, op := Op.move (Operand.tmp 2), type := 26, pos := "l03_normal.go:61", after := #[{ on := 3, ground := Ground.guard }], guard := some (3, true) }) (v := undef) rfl (by kernel_rfl) (by kernel_rfl) (by kernel_rfl) (fun _ _ _ h => h) (Or.inr ⟨by rfl, rfl⟩) (by assumption) ?_
    try simp only [Act.put, List.setIfInBounds_toArray, List.set_cons_zero, List.set_cons_succ]
    refine wpAnyH_take (i := 5) (oi := { dst := some 37, op := Op.move (Operand.tmp 8), type := 3, pos := "l03_normal.go:61", after := #[{ on := 3, ground := Ground.guard }], guard := some (3, true) }) (v := undef) rfl (by kernel_rfl) (by kernel_rfl) (by kernel_rfl) (fun _ _ _ h => h) (Or.inr ⟨by rfl, rfl⟩) (by assumption) ?_
    try simp only [Act.put, List.setIfInBounds_toArray, List.set_cons_zero, List.set_cons_succ]
    refine wpAnyH_take (i := 6) (oi := { dst := some 38, op := Op.binOp BinOp.sub 3 (Operand.tmp 37) (Operand.const (Value.int IntKind.i64 1)) 3, type := 3, pos := "l03_normal.go:61", after := #[{ on := 5, ground := Ground.data }, { on := 3, ground := Ground.guard }], guard := some (3, true) }) (v := undef) rfl (by kernel_rfl) (by kernel_rfl) (by kernel_rfl) (fun _ _ _ h => h) (Or.inr ⟨by rfl, rfl⟩) (by assumption) ?_
    try simp only [Act.put, List.setIfInBounds_toArray, List.set_cons_zero, List.set_cons_succ]
    refine wpAnyH_take (i := 7) (oi := { dst := some 39, op := Op.indexAddr 26 (Operand.tmp 36) (Operand.tmp 38), type := 0, pos := "l03_normal.go:61", after := #[{ on := 4, ground := Ground.data }, { on := 6, ground := Ground.data }, { on := 3, ground := Ground.guard }], guard := some (3, true) }) (v := undef) rfl (by kernel_rfl) (by kernel_rfl) (by kernel_rfl) (fun _ _ _ h => h) (Or.inr ⟨by rfl, rfl⟩) (by assumption) ?_
    try simp only [Act.put, List.setIfInBounds_toArray, List.set_cons_zero, List.set_cons_succ]
    refine wpAnyH_take (i := 8) (oi := { dst := some 40, op := Op.load 53 (Operand.tmp 39), type := 53, pos := "l03_normal.go:61", after := #[{ on := 7, ground := Ground.data }, { on := 3, ground := Ground.guard }], guard := some (3, true) }) (v := undef) rfl (by kernel_rfl) (by kernel_rfl) (by kernel_rfl) (fun _ _ _ h => h) (Or.inr ⟨by rfl, rfl⟩) (by assumption) ?_
    try simp only [Act.put, List.setIfInBounds_toArray, List.set_cons_zero, List.set_cons_succ]
    refine wpAnyH_take (i := 9) (oi := { dst := some 41, op := Op.move (Operand.tmp 0), type := 2, pos := "l03_normal.go:61", after := #[{ on := 3, ground := Ground.guard }], guard := some (3, true) }) (v := undef) rfl (by kernel_rfl) (by kernel_rfl) (by kernel_rfl) (fun _ _ _ h => h) (Or.inr ⟨by rfl, rfl⟩) (by assumption) ?_
    try simp only [Act.put, List.setIfInBounds_toArray, List.set_cons_zero, List.set_cons_succ]
    refine wpAnyH_ready (rs := [10]) (by kernel_rfl) (by simp) ?_
    refine AllReadyH.cons (o := { dst := some 42, op := Op.call { callee := Callee.value (Operand.func 36), args := #[Operand.tmp 41], argTypes := #[2] }, type := 53, pos := "l03_normal.go:61", after := #[{ on := 9, ground := Ground.data }, { on := 3, ground := Ground.chain }, { on := 3, ground := Ground.guard }], guard := some (3, true) }) rfl (fun K hK => ?_) AllReadyH.nil
    go_simp
    refine hK.out _ _ ?_ (fun hHeld => ?_)
    ·trivial
    clear hK K
    try simp only [Act.put, List.setIfInBounds_toArray, List.set_cons_zero, List.set_cons_succ]
    refine wpAnyH_take (i := 11) (oi := { dst := some 43, op := Op.binOp BinOp.eql 53 (Operand.tmp 40) (Operand.tmp 42) 53, type := 4, pos := "l03_normal.go:61", after := #[{ on := 8, ground := Ground.data }, { on := 10, ground := Ground.data }, { on := 3, ground := Ground.guard }], guard := some (3, true) }) (v := undef) rfl (by kernel_rfl) (by kernel_rfl) (by kernel_rfl) (fun _ _ _ h => h) (Or.inr ⟨by rfl, rfl⟩) (by assumption) ?_
    try simp only [Act.put, List.setIfInBounds_toArray, List.set_cons_zero, List.set_cons_succ]
    refine wpAnyH_take (i := 12) (oi := { dst := some 44, op := Op.pick (Operand.tmp 35) (Operand.tmp 43) (Operand.const (Value.bool false)), type := 4, pos := "l03_normal.go:61", after := #[{ on := 3, ground := Ground.data }, { on := 11, ground := Ground.data }], guard := none }) (v := ?_) rfl (by kernel_rfl) (by kernel_rfl) (by kernel_rfl) (fun _ _ _ h => h) (Or.inl ⟨by rfl, ?_⟩) (by assumption) ?_
    rotate_left
    ·intro w hSw
     (try dsimp only at hSw)
     go_simp
     try with_reducible rfl
    try simp only [Act.put, List.setIfInBounds_toArray, List.set_cons_zero, List.set_cons_succ]
    refine wpAnyH_done (by kernel_rfl) ?_ _
    have hcap := F.out.cap
    have hsub := F.out.sub (0) (j) (by omega) (by omega)
    have HX : Hid ((R.take (j)).drop (0) = restM m R) := Lib.hid (by unfold restM; rw [← HFE.out, ← HJE.out])
    rw [HX.out] at hsub
    have HSB := Lib.hid hsub
    clear hsub
    have hc1 : (j : Int) ≤ (c2 : Int) := by omega
    have hc2 : ((0 : Nat) : Int) ≤ (j : Int) := by omega
    by_cases hcf : c2 = 0
    ·first
      | (exfalso; omega)
      | skip
     all_goals
      have HRZ : Hid (restM m R = []) := Lib.hid (List.eq_nil_of_length_eq_zero (by have h1 := HSB.out.len; omega))
      have HNZ : Hid (∀ (W : World) (ao : Option Addr), ReadsA W ao (j - 0) (restM m R)) := Lib.hid fun W ao => by rw [HRZ.out, show j - 0 = 0 by omega]; exact ReadsA.zero
      go_wp2_with (at_builtin; refine wpList_append_rows_at rfl _ _ 26 rfl _ i0 Try.underlying26 hi hz0 hz1 hz2 _ _ _ rfl (OwnAV.empty _) _ _ _ (restM m R) rfl (HNZ.out _ _) (by omega) (by simp) ?_)
      intro v' w5 ho' hg hv
      have Z5 := (Z.out.alloc (.cells #[] 53)).heap hg.size (hg.block _ (Z.out.alloc _).1 fun e => by have := Z.out.1; simp [Value.ownBlock] at e; omega)
      have B5 : Hid (Below w.heap.size w w5) := Lib.hid (by
       have z9 := F.out.bel.size
       first
        | exact below_ownA (F.out.bel.alloc z9 (.cells #[] 53)) (by simp; omega) z9 (OwnAV.empty _) hg
        | exact below_ownA (F.out.bel.alloc z9 (.cells #[] 53)).drew (by simp; omega) z9 (OwnAV.empty _).drew hg)
      have z5 := Z.out.1
      obtain ⟨a', c', rfl, hoA⟩ := ho'.form
      have HOA := Lib.hid hoA
      clear ho' hg hv hoA
      have Z6 := Lib.hid Z5
      obtain ⟨x0, ⟨x1, x2, x3⟩, y1, y2, y3⟩ := Z5
      go_wp2
      try rw [Exit.noGoto_ret]
      obtain ⟨_, ⟨e1, e2, e3⟩, _⟩ := Z6.out.fill (.int .i64 m) (.int .i64 (p)) (.slice a' (j) c')
      refine bodyPost_ret (v := .agg #[.int .i64 m, .int .i64 (p), .slice a' (j) c']) (by simp [results, Try.results24, go_sem, e1, e2, e3]) rfl ⟨a', _, c', by simp [← HFE.out], ((((HOA.out.setCell_below (p := ⟨w.heap.size, 0, none⟩) z5 _).setCell_below (p := ⟨w.heap.size, 1, none⟩) z5 _).setCell_below (p := ⟨w.heap.size, 2, none⟩) z5 _)).mono (Nat.le_of_lt z5), ((B5.out.setCell (p := ⟨w.heap.size, 0, none⟩) (Nat.le_refl _) _).setCell (p := ⟨w.heap.size, 1, none⟩) (Nat.le_refl _) _).setCell (p := ⟨w.heap.size, 2, none⟩) (Nat.le_refl _) _⟩
    ·try (exfalso; omega)
     all_goals
      go_wp2_with (at_builtin; refine wpList_append_rows_at rfl _ _ 26 rfl _ i0 Try.underlying26 hi hz0 hz1 hz2 _ _ _ rfl (OwnAV.empty _) _ _ _ (restM m R) rfl (HSB.out.alloc _) (by omega) (by simp) ?_)
      intro v' w5 ho' hg hv
      have Z5 := (Z.out.alloc (.cells #[] 53)).heap hg.size (hg.block _ (Z.out.alloc _).1 fun e => by have := Z.out.1; simp [Value.ownBlock] at e; omega)
      have B5 : Hid (Below w.heap.size w w5) := Lib.hid (by
       have z9 := F.out.bel.size
       first
        | exact below_ownA (F.out.bel.alloc z9 (.cells #[] 53)) (by simp; omega) z9 (OwnAV.empty _) hg
        | exact below_ownA (F.out.bel.alloc z9 (.cells #[] 53)).drew (by simp; omega) z9 (OwnAV.empty _).drew hg)
      have z5 := Z.out.1
      obtain ⟨a', c', rfl, hoA⟩ := ho'.form
      have HOA := Lib.hid hoA
      clear ho' hg hv hoA
      have Z6 := Lib.hid Z5
      obtain ⟨x0, ⟨x1, x2, x3⟩, y1, y2, y3⟩ := Z5
      go_wp2
      try rw [Exit.noGoto_ret]
      obtain ⟨_, ⟨e1, e2, e3⟩, _⟩ := Z6.out.fill (.int .i64 m) (.int .i64 (p)) (.slice a' (j) c')
      refine bodyPost_ret (v := .agg #[.int .i64 m, .int .i64 (p), .slice a' (j) c']) (by simp [results, Try.results24, go_sem, e1, e2, e3]) rfl ⟨a', _, c', by simp [← HFE.out], ((((HOA.out.setCell_below (p := ⟨w.heap.size, 0, none⟩) z5 _).setCell_below (p := ⟨w.heap.size, 1, none⟩) z5 _).setCell_below (p := ⟨w.heap.size, 2, none⟩) z5 _)).mono (Nat.le_of_lt z5), ((B5.out.setCell (p := ⟨w.heap.size, 0, none⟩) (Nat.le_refl _) _).setCell (p := ⟨w.heap.size, 1, none⟩) (Nat.le_refl _) _).setCell (p := ⟨w.heap.size, 2, none⟩) (Nat.le_refl _) _⟩

end Go.Proofs.Ytpkhddndapcpjaa

