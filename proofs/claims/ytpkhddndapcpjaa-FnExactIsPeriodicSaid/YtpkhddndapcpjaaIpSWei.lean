/- The model: weighing a list. -/
import Derived.Test.YtpkhddndapcpjaaIpPB
import Derived.Test.YtpkhddndapcpjaaIpSTrd
import Derived.Test.YtpkhddndapcpjaaIpKK
import Derived.Test.YtpkhddndapcpjaaIpSB
import Derived.Test.YtpkhddndapcpjaaIpPM
import Derived.Deep.RegionHeld3
namespace Go.Proofs.Ytpkhddndapcpjaa
open Go.RowKit Go.ChangeShapes

theorem l02Complement_com (n : Nat) (s : List Int) (hs : Sim n s) (w : World) :
  Calls Try.prog 62 #[arr8 .u8 s, .int .i64 n] w (RetArr .u8 w (comR n s)) := l02Complement_any n s hs w

theorem l02Meet_meet (n : Nat) (a b : List Int) (sa : Sim n a) (sb : Sim n b) (w : World) :
  Calls Try.prog 61 #[arr8 .u8 a, arr8 .u8 b, .int .i64 n] w (RetArr .u8 w (meetR n a b)) := l02Meet_any n a b sa sb w

/-- The weighed slice of rows that a call hands back: as many rows, with the same weighed form. -/
def RetWei (m : Nat) (l : List (List Int)) (w : World) (e : Ending) (w' : World) : Prop :=
 ∃ a n cap R, e = .returned (.slice a n cap) ∧ OwnA w.heap.size w' a n cap R ∧ Below w.heap.size w w' ∧ R.length = l.length ∧ Sims m R ∧ Wl m R ∧ nf m R = nf m l

set_option maxRecDepth 100000 in
set_option maxHeartbeats 1000000 in
theorem l03Weigh_any (m : Nat) (m1 : 1 ≤ m) (m8 : m ≤ 8) (a : Option Addr) (n cap : Nat) (l : List (List Int)) (w : World) (hr : ReadsA w a n l) (hs : Sims m l) (hn : n ≤ 1048576) (hpos : 0 < n) :
  Calls Try.prog 41 #[.slice a n cap, .int .i64 m] w (RetWei m l w) := by
 obtain ⟨i0, hi, hz0, hz1, hz2⟩ := info_parts infoSimple
 have HL := Lib.hid hr.len
 have HS := Lib.hid hs; clear hs
 have R := Lib.hid hr
 clear hr
 go_enter Try.func41, Try.ntmps41
 have B := Lib.hid (below1 w (.cells #[] 53))
 have O := Lib.hid (OwnAV.empty w)
 go_wp2_with (at_builtin; refine wpList_append_rows_at rfl _ _ 26 rfl w.heap.size i0 Try.underlying26 hi hz0 hz1 hz2 _ _ _ rfl O.out _ _ _ l rfl (R.out.alloc _) (by omega) (by simp) ?_)
 intro v' w2 ho' hg hv
 have O2 := Lib.hid ho'
 have B2 := Lib.hid (below_ownA B.out (by simp) (Nat.le_refl _) O.out hg)
 clear ho' hg hv O B
 obtain ⟨a2, c2, rfl, ho⟩ := O2.out.form
 obtain ⟨gb, rfl, hg1, hg2⟩ := ho.block hpos
 clear O2
 have O := Lib.hid ho
 clear ho
 go_wp2
 go_loopg [6] (Mr m l + 1) (fun g mv wx => ∃ l', mv = .bool (decide (0 < g)) ∧ OwnA w.heap.size wx (some ⟨gb, 0, none⟩) n c2 l' ∧ Below w.heap.size w wx ∧ l'.length = n ∧ Sims m l' ∧ nf m l' = nf m l ∧ (0 < g → Mr m l' < g) ∧ (g = 0 → Wl m l'))
 case atStart => exact ⟨l, by simp, O.out, B2.out, HL.out, HS.out, rfl, fun _ => Nat.lt_succ_self _, fun h => by omega⟩
 case round =>
  obtain ⟨l', rfl, ho, hB, hL, hS, hN, hM, hD⟩ := hrel
  clear O B2 HS
  have O := Lib.hid ho
  have B := Lib.hid hB
  have HS := Lib.hid hS
  have HLL := Lib.hid hL
  have HN := Lib.hid hN
  have HM := Lib.hid hM
  have HD := Lib.hid hD
  clear ho hB hS hN hM hD hL
  by_cases h0 : 0 < gk
  ·rw [decide_eq_true h0]
   obtain ⟨gO, hgO⟩ : ∃ gO, gO = gk := ⟨_, rfl⟩
   go_wp2
   go_loopg [6, 7] (n - 1) (fun g mv i wx => ∃ rows j q, g = j ∧ j + 1 ≤ n ∧ i = .int .i64 ((j : Int) - 1) ∧ mv = .bool q ∧ OwnA w.heap.size wx (some ⟨gb, 0, none⟩) n c2 rows ∧ Below w.heap.size w wx ∧ PassG m l' rows j q)
   case atStart =>
    refine ⟨l', n - 1, false, rfl, by omega, by go_num, rfl, O.out, B.out, ?_⟩
    have := PassG.start HS.out
    rw [HLL.out] at this
    exact this
   case round =>
    obtain ⟨rows, j, q, rfl, hj, rfl, rfl, ho, hB, hP⟩ := hrel
    by_cases hk0 : gk = 0
    ·subst hk0
     have hO := Lib.hid ho
     have hBB := Lib.hid hB
     have hPP := Lib.hid hP
     clear ho hB hP
     go_wp2
     cases q with
     | true =>
      go_roundg (Mr m rows + 1)
      case measure => have := hPP.out.less rfl; have := HM.out (by omega); omega
      case rel => exact ⟨rows, by simp, hO.out, hBB.out, by rw [hPP.out.len, HLL.out], hPP.out.sims, by rw [hPP.out.same, HN.out], fun _ => Nat.lt_succ_self _, fun h => by omega⟩
     | false =>
      go_roundg 0
      case measure => omega
      case rel => exact ⟨rows, rfl, hO.out, hBB.out, by rw [hPP.out.len, HLL.out], hPP.out.sims, by rw [hPP.out.same, HN.out], fun h => by omega, fun _ => hPP.out.done⟩
    ·obtain ⟨k, rfl⟩ : ∃ k, gk = k + 1 := ⟨gk - 1, by omega⟩
     rw [show ((k + 1 : Nat) : Int) - 1 = (k : Int) by omega]
     have O := Lib.hid ho
     have B := Lib.hid hB
     have S := Lib.hid hP.sims
     have P := Lib.hid hP
     clear ho hB hP
     have zb := B.out.size
     have hgw : gb < wr.heap.size := by have := O.out.lo _ rfl; exact this.2
     have hrl : Hid (rows.length = n) := Lib.hid O.out.len
     go_upto_region 8 with fail
     have F := Lib.hid (AtWei.mk O.out B.out hg1 hgw)
     obtain ⟨ra, hra⟩ : ∃ ra, ra = rowAt rows k := ⟨_, rfl⟩
     obtain ⟨rb, hrb⟩ : ∃ rb, rb = rowAt rows (k + 1) := ⟨_, rfl⟩
     have HRA : Hid (∀ W, AtWei w W gb n c2 rows → Cells8 W gb (k * 8) ra) := Lib.hid fun W h => by rw [hra]; exact h.row k (by omega)
     have HRB : Hid (∀ W, AtWei w W gb n c2 rows → Cells8 W gb ((k + 1) * 8) rb) := Lib.hid fun W h => by rw [hrb]; exact h.row (k + 1) (by omega)
     have SA : Hid (Sim m ra) := Lib.hid (by rw [hra]; exact rows_sims.1 S.out k (by rw [hrl.out]; omega))
     have SB : Hid (Sim m rb) := Lib.hid (by rw [hrb]; exact rows_sims.1 S.out (k + 1) (by rw [hrl.out]; omega))
     have SC : Hid (Sim m (comR m ra)) := Lib.hid (thenR_sim (backR_sim SA.out) (halfR_sim m m1 m8))
     have HA := Lib.hid hra
     have HB := Lib.hid hrb
     clear hra hrb O B
     have b0 : (k : Int) < (n : Int) := by omega
     have b1 : (k : Int) + 1 < (n : Int) := by omega
     have b2 : (0 : Int) ≤ (k : Int) + 1 := by omega
     have hw2 : IntKind.i64.wrap ((k : Int) + 1) = (k : Int) + 1 := IntWalk.i64_in _ (by omega)
     have hw3 : ((k : Int) + 1).toNat = k + 1 := by omega
     have HM8 : Hid ((meetR m (comR m ra) rb).length = 8) := Lib.hid (meetR_sim m1 m8 _ _).len
     have F0 := F
     have zx0 : wr.heap.size ≠ gb := Nat.ne_of_gt hgw
     have zl0 : w.heap.size ≤ wr.heap.size := F0.out.bel.size
     replace F := Lib.hid F.out.drew
     go_cut [8] from 20 to 32 (fun s8 wx => ∃ gp, s8 = .pointer (some ⟨gp, 0, none⟩) ∧ AtWei w wx gb n c2 rows ∧ gp ≠ gb ∧ w.heap.size ≤ gp ∧ Row8 wx gp .u8 (meetR m (comR m ra) rb))
     case first =>
      refine wp_region_held_drew (S := (fun w' => (w'.cell? ⟨gb, k * 8, none⟩ = some (.int .u8 (at8 ra 0)) ∧ w'.cell? ⟨gb, k * 8 + 1, none⟩ = some (.int .u8 (at8 ra 1)) ∧ w'.cell? ⟨gb, k * 8 + 2, none⟩ = some (.int .u8 (at8 ra 2)) ∧ w'.cell? ⟨gb, k * 8 + 3, none⟩ = some (.int .u8 (at8 ra 3)) ∧ w'.cell? ⟨gb, k * 8 + 4, none⟩ = some (.int .u8 (at8 ra 4)) ∧ w'.cell? ⟨gb, k * 8 + 5, none⟩ = some (.int .u8 (at8 ra 5)) ∧ w'.cell? ⟨gb, k * 8 + 6, none⟩ = some (.int .u8 (at8 ra 6)) ∧ w'.cell? ⟨gb, k * 8 + 7, none⟩ = some (.int .u8 (at8 ra 7))) ∧ (w'.cell? ⟨gb, (k + 1) * 8, none⟩ = some (.int .u8 (at8 rb 0)) ∧ w'.cell? ⟨gb, (k + 1) * 8 + 1, none⟩ = some (.int .u8 (at8 rb 1)) ∧ w'.cell? ⟨gb, (k + 1) * 8 + 2, none⟩ = some (.int .u8 (at8 rb 2)) ∧ w'.cell? ⟨gb, (k + 1) * 8 + 3, none⟩ = some (.int .u8 (at8 rb 3)) ∧ w'.cell? ⟨gb, (k + 1) * 8 + 4, none⟩ = some (.int .u8 (at8 rb 4)) ∧ w'.cell? ⟨gb, (k + 1) * 8 + 5, none⟩ = some (.int .u8 (at8 rb 5)) ∧ w'.cell? ⟨gb, (k + 1) * 8 + 6, none⟩ = some (.int .u8 (at8 rb 6)) ∧ w'.cell? ⟨gb, (k + 1) * 8 + 7, none⟩ = some (.int .u8 (at8 rb 7))))) (by kernel_rfl) ?_ (fun hHeld => ?_)
      ·(first | with_reducible exact ⟨(HRA.out _ F.out).flat, (HRB.out _ F.out).flat⟩ | with_reducible exact ⟨(HRA.out _ (F.out.alloc _)).flat, (HRB.out _ (F.out.alloc _)).flat⟩ | with_reducible exact ⟨(HRA.out _ (F0.out.alloc _).drew).flat, (HRB.out _ (F0.out.alloc _).drew).flat⟩ | with_reducible exact ⟨(HRA.out _ (F.out.fill _ (by assumption) (by assumption) _ _ _ _ _ _ _ _)).flat, (HRB.out _ (F.out.fill _ (by assumption) (by assumption) _ _ _ _ _ _ _ _)).flat⟩)
      refine wpAnyH_take (i := 0) (oi := { dst := some 20, op := Op.move (Operand.tmp 5), type := 26, pos := "l03_normal.go:39", after := #[], guard := none }) (v := ?_) rfl (by kernel_rfl) (by kernel_rfl) (by kernel_rfl) (fun _ _ _ h => h) (Or.inl ⟨by rfl, ?_⟩) (by assumption) ?_
      rotate_left
      ·intro w hSw
       (try dsimp only at hSw)
       go_simp
       try with_reducible rfl
      try simp only [Act.put, List.setIfInBounds_toArray, List.set_cons_zero, List.set_cons_succ]
      refine wpAnyH_take (i := 1) (oi := { dst := some 21, op := Op.move (Operand.tmp 7), type := 3, pos := "l03_normal.go:39", after := #[], guard := none }) (v := ?_) rfl (by kernel_rfl) (by kernel_rfl) (by kernel_rfl) (fun _ _ _ h => h) (Or.inl ⟨by rfl, ?_⟩) (by assumption) ?_
      rotate_left
      ·intro w hSw
       (try dsimp only at hSw)
       go_simp
       try with_reducible rfl
      try simp only [Act.put, List.setIfInBounds_toArray, List.set_cons_zero, List.set_cons_succ]
      refine wpAnyH_take (i := 2) (oi := { dst := some 22, op := Op.indexAddr 26 (Operand.tmp 20) (Operand.tmp 21), type := 0, pos := "l03_normal.go:39", after := #[{ on := 0, ground := Ground.data }, { on := 1, ground := Ground.data }], guard := none }) (v := ?_) rfl (by kernel_rfl) (by kernel_rfl) (by kernel_rfl) (fun _ _ _ h => h) (Or.inl ⟨by rfl, ?_⟩) (by assumption) ?_
      rotate_left
      ·intro w hSw
       (try dsimp only at hSw)
       go_simp
       try with_reducible rfl
      try simp only [Act.put, List.setIfInBounds_toArray, List.set_cons_zero, List.set_cons_succ]
      refine wpAnyH_take (i := 3) (oi := { dst := some 23, op := Op.load 53 (Operand.tmp 22), type := 53, pos := "l03_normal.go:39", after := #[{ on := 2, ground := Ground.data }], guard := none }) (v := ?_) rfl (by kernel_rfl) (by kernel_rfl) (by kernel_rfl) (fun _ _ _ h => h) (Or.inl ⟨by rfl, ?_⟩) (by assumption) ?_
      rotate_left
      ·intro w hSw
       (try dsimp only at hSw)
       go_simp
       try with_reducible rfl
      try simp only [Act.put, List.setIfInBounds_toArray, List.set_cons_zero, List.set_cons_succ]
      refine wpAnyH_take (i := 4) (oi := { dst := some 24, op := Op.move (Operand.tmp 1), type := 2, pos := "l03_normal.go:39", after := #[], guard := none }) (v := ?_) rfl (by kernel_rfl) (by kernel_rfl) (by kernel_rfl) (fun _ _ _ h => h) (Or.inl ⟨by rfl, ?_⟩) (by assumption) ?_
      rotate_left
      ·intro w hSw
       (try dsimp only at hSw)
       go_simp
       try with_reducible rfl
      try simp only [Act.put, List.setIfInBounds_toArray, List.set_cons_zero, List.set_cons_succ]
      refine wpAnyH_take (i := 6) (oi := { dst := some 26, op := Op.move (Operand.tmp 5), type := 26, pos := "l03_normal.go:39", after := #[], guard := none }) (v := ?_) rfl (by kernel_rfl) (by kernel_rfl) (by kernel_rfl) (fun _ _ _ h => h) (Or.inl ⟨by rfl, ?_⟩) (by assumption) ?_
      rotate_left
      ·intro w hSw
       (try dsimp only at hSw)
       go_simp
       try with_reducible rfl
      try simp only [Act.put, List.setIfInBounds_toArray, List.set_cons_zero, List.set_cons_succ]
      refine wpAnyH_take (i := 7) (oi := { dst := some 27, op := Op.move (Operand.tmp 7), type := 3, pos := "l03_normal.go:39", after := #[], guard := none }) (v := ?_) rfl (by kernel_rfl) (by kernel_rfl) (by kernel_rfl) (fun _ _ _ h => h) (Or.inl ⟨by rfl, ?_⟩) (by assumption) ?_
      rotate_left
      ·intro w hSw
       (try dsimp only at hSw)
       go_simp
       try with_reducible rfl
      try simp only [Act.put, List.setIfInBounds_toArray, List.set_cons_zero, List.set_cons_succ]
      refine wpAnyH_take (i := 8) (oi := { dst := some 28, op := Op.binOp BinOp.add 3 (Operand.tmp 27) (Operand.const (Value.int IntKind.i64 1)) 3, type := 3, pos := "l03_normal.go:39", after := #[{ on := 7, ground := Ground.data }], guard := none }) (v := ?_) rfl (by kernel_rfl) (by kernel_rfl) (by kernel_rfl) (fun _ _ _ h => h) (Or.inl ⟨by rfl, ?_⟩) (by assumption) ?_
      rotate_left
      ·intro w hSw
       (try dsimp only at hSw)
       go_simp
       try with_reducible rfl
      try simp only [Act.put, List.setIfInBounds_toArray, List.set_cons_zero, List.set_cons_succ]
      refine wpAnyH_take (i := 9) (oi := { dst := some 29, op := Op.indexAddr 26 (Operand.tmp 26) (Operand.tmp 28), type := 0, pos := "l03_normal.go:39", after := #[{ on := 6, ground := Ground.data }, { on := 8, ground := Ground.data }], guard := none }) (v := ?_) rfl (by kernel_rfl) (by kernel_rfl) (by kernel_rfl) (fun _ _ _ h => h) (Or.inl ⟨by rfl, ?_⟩) (by assumption) ?_
      rotate_left
      ·intro w hSw
       (try dsimp only at hSw)
       go_simp
       try with_reducible rfl
      try simp only [Act.put, List.setIfInBounds_toArray, List.set_cons_zero, List.set_cons_succ]
      refine wpAnyH_take (i := 10) (oi := { dst := some 30, op := Op.load 53 (Operand.tmp 29), type := 53, pos := "l03_normal.go:39", after := #[{ on := 9, ground := Ground.data }], guard := none }) (v := ?_) rfl (by kernel_rfl) (by kernel_rfl) (by kernel_rfl) (fun _ _ _ h => h) (Or.inl ⟨by rfl, ?_⟩) (by assumption) ?_
      rotate_left
      ·intro w hSw
       (try dsimp only at hSw)
       go_simp
       try with_reducible rfl
      try simp only [Act.put, List.setIfInBounds_toArray, List.set_cons_zero, List.set_cons_succ]
      refine wpAnyH_take (i := 11) (oi := { dst := some 31, op := Op.move (Operand.tmp 1), type := 2, pos := "l03_normal.go:39", after := #[], guard := none }) (v := ?_) rfl (by kernel_rfl) (by kernel_rfl) (by kernel_rfl) (fun _ _ _ h => h) (Or.inl ⟨by rfl, ?_⟩) (by assumption) ?_
      rotate_left
      ·intro w hSw
       (try dsimp only at hSw)
       go_simp
       try with_reducible rfl
      try simp only [Act.put, List.setIfInBounds_toArray, List.set_cons_zero, List.set_cons_succ]
      refine wpAnyH_ready (rs := [5, 13]) (by kernel_rfl) (by simp) ?_
      refine AllReadyH.cons (o := { dst := some 25, op := Op.call { callee := Callee.value (Operand.func 62), args := #[Operand.tmp 23, Operand.tmp 24], argTypes := #[53, 2] }, type := 53, pos := "l03_normal.go:39", after := #[{ on := 3, ground := Ground.data }, { on := 4, ground := Ground.data }], guard := none }) rfl (fun K hK => ?_) ?_
      ·go_simp
       (refine (l02Complement_com m ra SA.out _).mono ?_; rintro e w3 ⟨rfl, gg⟩; have zx := Nat.ne_of_gt F.out.hi; have zl := F.out.bel.size; (first | (replace F := Lib.hid (F.out.below gg); try replace RZ := Lib.hid (RZ.out.below gg)) | (have RZ := Lib.hid ((Row8.zeros _ .u8 53 _ rfl).below gg); replace F := Lib.hid ((F.out.alloc _).below gg)) | (have RZ := Lib.hid ((Row8.zeros wr .u8 53 _ rfl).drew.below gg); replace F := Lib.hid ((F0.out.alloc _).drew.below gg))); (try (obtain ⟨⟨d0, d1, d2, d3⟩, d4, d5, d6, d7⟩ := RZ.out.all; obtain ⟨⟨f0, f1, f2, f3⟩, f4, f5, f6, f7⟩ := RZ.out.frees)))
       go_wp2_with fail
       refine hK.out _ _ ?_ (fun hHeld => ?_)
       ·(first | with_reducible exact ⟨(HRA.out _ F.out).flat, (HRB.out _ F.out).flat⟩ | with_reducible exact ⟨(HRA.out _ (F.out.alloc _)).flat, (HRB.out _ (F.out.alloc _)).flat⟩ | with_reducible exact ⟨(HRA.out _ (F0.out.alloc _).drew).flat, (HRB.out _ (F0.out.alloc _).drew).flat⟩ | with_reducible exact ⟨(HRA.out _ (F.out.fill _ (by assumption) (by assumption) _ _ _ _ _ _ _ _)).flat, (HRB.out _ (F.out.fill _ (by assumption) (by assumption) _ _ _ _ _ _ _ _)).flat⟩)
       clear hK K
       try simp only [Act.put, List.setIfInBounds_toArray, List.set_cons_zero, List.set_cons_succ]
       refine wpAnyH_ready (rs := [12, 13]) (by kernel_rfl) (by simp) ?_
       refine AllReadyH.cons (o := { dst := some 32, op := Op.call { callee := Callee.value (Operand.func 61), args := #[Operand.tmp 25, Operand.tmp 30, Operand.tmp 31], argTypes := #[53, 53, 2] }, type := 53, pos := "l03_normal.go:39", after := #[{ on := 5, ground := Ground.data }, { on := 10, ground := Ground.data }, { on := 11, ground := Ground.data }, { on := 5, ground := Ground.chain }], guard := none }) rfl (fun K hK => ?_) ?_
       ·go_simp
        (refine (l02Meet_meet m (comR m ra) rb SC.out SB.out _).mono ?_; rintro e w4 ⟨rfl, gg⟩; have zx := Nat.ne_of_gt F.out.hi; have zl := F.out.bel.size; (first | (replace F := Lib.hid (F.out.below gg); try replace RZ := Lib.hid (RZ.out.below gg)) | (have RZ := Lib.hid ((Row8.zeros _ .u8 53 _ rfl).below gg); replace F := Lib.hid ((F.out.alloc _).below gg)) | (have RZ := Lib.hid ((Row8.zeros wr .u8 53 _ rfl).drew.below gg); replace F := Lib.hid ((F0.out.alloc _).drew.below gg))); (try (obtain ⟨⟨d0, d1, d2, d3⟩, d4, d5, d6, d7⟩ := RZ.out.all; obtain ⟨⟨f0, f1, f2, f3⟩, f4, f5, f6, f7⟩ := RZ.out.frees)))
        go_wp2_with fail
        refine hK.out _ _ ?_ (fun hHeld => ?_)
        ·(first | with_reducible exact ⟨(HRA.out _ F.out).flat, (HRB.out _ F.out).flat⟩ | with_reducible exact ⟨(HRA.out _ (F.out.alloc _)).flat, (HRB.out _ (F.out.alloc _)).flat⟩ | with_reducible exact ⟨(HRA.out _ (F0.out.alloc _).drew).flat, (HRB.out _ (F0.out.alloc _).drew).flat⟩ | with_reducible exact ⟨(HRA.out _ (F.out.fill _ (by assumption) (by assumption) _ _ _ _ _ _ _ _)).flat, (HRB.out _ (F.out.fill _ (by assumption) (by assumption) _ _ _ _ _ _ _ _)).flat⟩)
        clear hK K
        try simp only [Act.put, List.setIfInBounds_toArray, List.set_cons_zero, List.set_cons_succ]
        refine wpAnyH_ready (rs := [13]) (by kernel_rfl) (by simp) ?_
        refine AllReadyH.cons (o := { dst := some 8, op := Op.alloc 53, type := 0, pos := "l03_normal.go:39", after := #[], guard := none }) rfl (fun K hK => ?_) ?_
        ·go_simp
         refine hK.out _ _ ?_ (fun hHeld => ?_)
         ·(first | with_reducible exact ⟨(HRA.out _ F.out).flat, (HRB.out _ F.out).flat⟩ | with_reducible exact ⟨(HRA.out _ (F.out.alloc _)).flat, (HRB.out _ (F.out.alloc _)).flat⟩ | with_reducible exact ⟨(HRA.out _ (F0.out.alloc _).drew).flat, (HRB.out _ (F0.out.alloc _).drew).flat⟩ | with_reducible exact ⟨(HRA.out _ (F.out.fill _ (by assumption) (by assumption) _ _ _ _ _ _ _ _)).flat, (HRB.out _ (F.out.fill _ (by assumption) (by assumption) _ _ _ _ _ _ _ _)).flat⟩)
         clear hK K
         try simp only [Act.put, List.setIfInBounds_toArray, List.set_cons_zero, List.set_cons_succ]
         refine wpAnyH_ready (rs := [14]) (by kernel_rfl) (by simp) ?_
         refine AllReadyH.cons (o := { dst := none, op := Op.store 53 (Operand.tmp 8) (Operand.tmp 32), type := 0, pos := "l03_normal.go:39", after := #[{ on := 13, ground := Ground.data }, { on := 12, ground := Ground.data }, { on := 12, ground := Ground.chain }, { on := 0, ground := Ground.phase }, { on := 1, ground := Ground.phase }, { on := 2, ground := Ground.phase }, { on := 3, ground := Ground.phase }, { on := 4, ground := Ground.phase }, { on := 5, ground := Ground.phase }, { on := 6, ground := Ground.phase }, { on := 7, ground := Ground.phase }, { on := 8, ground := Ground.phase }, { on := 9, ground := Ground.phase }, { on := 10, ground := Ground.phase }, { on := 11, ground := Ground.phase }, { on := 12, ground := Ground.phase }, { on := 13, ground := Ground.phase }], guard := none }) rfl (fun K hK => ?_) ?_
         ·go_simp
          refine hK.out _ _ ?_ (fun hHeld => ?_)
          ·(first | with_reducible exact ⟨(HRA.out _ F.out).flat, (HRB.out _ F.out).flat⟩ | with_reducible exact ⟨(HRA.out _ (F.out.alloc _)).flat, (HRB.out _ (F.out.alloc _)).flat⟩ | with_reducible exact ⟨(HRA.out _ (F0.out.alloc _).drew).flat, (HRB.out _ (F0.out.alloc _).drew).flat⟩ | with_reducible exact ⟨(HRA.out _ (F.out.fill _ (by assumption) (by assumption) _ _ _ _ _ _ _ _)).flat, (HRB.out _ (F.out.fill _ (by assumption) (by assumption) _ _ _ _ _ _ _ _)).flat⟩)
          clear hK K
          try simp only [Act.put, List.setIfInBounds_toArray, List.set_cons_zero, List.set_cons_succ]
          refine wpAnyH_done (by kernel_rfl) ?_ _
          go_wp2_with fail
          go_meet
          first
           | (refine ⟨w4.heap.size, rfl, ?_⟩; with_reducible exact ⟨F.out.alloc _, Nat.ne_of_gt F.out.hi, F.out.bel.size, Row8.place _ .u8 _ _ _ rfl HM8.out⟩)
           | (refine ⟨w3.heap.size, rfl, ?_⟩; with_reducible exact ⟨F.out.fill _ (by assumption) (by assumption) _ _ _ _ _ _ _ _, by assumption, by assumption, RZ.out.fill _ HM8.out⟩)
           | (refine ⟨wr.heap.size, rfl, ?_⟩; with_reducible exact ⟨F.out.fill _ (by assumption) (by assumption) _ _ _ _ _ _ _ _, by assumption, by assumption, RZ.out.fill _ HM8.out⟩)
         exact AllReadyH.nil
        exact AllReadyH.nil
       refine AllReadyH.cons (o := { dst := some 8, op := Op.alloc 53, type := 0, pos := "l03_normal.go:39", after := #[], guard := none }) rfl (fun K hK => ?_) ?_
       ·go_simp
        refine hK.out _ _ ?_ (fun hHeld => ?_)
        ·(first | with_reducible exact ⟨(HRA.out _ F.out).flat, (HRB.out _ F.out).flat⟩ | with_reducible exact ⟨(HRA.out _ (F.out.alloc _)).flat, (HRB.out _ (F.out.alloc _)).flat⟩ | with_reducible exact ⟨(HRA.out _ (F0.out.alloc _).drew).flat, (HRB.out _ (F0.out.alloc _).drew).flat⟩ | with_reducible exact ⟨(HRA.out _ (F.out.fill _ (by assumption) (by assumption) _ _ _ _ _ _ _ _)).flat, (HRB.out _ (F.out.fill _ (by assumption) (by assumption) _ _ _ _ _ _ _ _)).flat⟩)
        clear hK K
        try simp only [Act.put, List.setIfInBounds_toArray, List.set_cons_zero, List.set_cons_succ]
        refine wpAnyH_ready (rs := [12]) (by kernel_rfl) (by simp) ?_
        refine AllReadyH.cons (o := { dst := some 32, op := Op.call { callee := Callee.value (Operand.func 61), args := #[Operand.tmp 25, Operand.tmp 30, Operand.tmp 31], argTypes := #[53, 53, 2] }, type := 53, pos := "l03_normal.go:39", after := #[{ on := 5, ground := Ground.data }, { on := 10, ground := Ground.data }, { on := 11, ground := Ground.data }, { on := 5, ground := Ground.chain }], guard := none }) rfl (fun K hK => ?_) ?_
        ·go_simp
         (refine (l02Meet_meet m (comR m ra) rb SC.out SB.out _).mono ?_; rintro e w4 ⟨rfl, gg⟩; have zx := Nat.ne_of_gt F.out.hi; have zl := F.out.bel.size; (first | (replace F := Lib.hid (F.out.below gg); try replace RZ := Lib.hid (RZ.out.below gg)) | (have RZ := Lib.hid ((Row8.zeros _ .u8 53 _ rfl).below gg); replace F := Lib.hid ((F.out.alloc _).below gg)) | (have RZ := Lib.hid ((Row8.zeros wr .u8 53 _ rfl).drew.below gg); replace F := Lib.hid ((F0.out.alloc _).drew.below gg))); (try (obtain ⟨⟨d0, d1, d2, d3⟩, d4, d5, d6, d7⟩ := RZ.out.all; obtain ⟨⟨f0, f1, f2, f3⟩, f4, f5, f6, f7⟩ := RZ.out.frees)))
         go_wp2_with fail
         refine hK.out _ _ ?_ (fun hHeld => ?_)
         ·(first | with_reducible exact ⟨(HRA.out _ F.out).flat, (HRB.out _ F.out).flat⟩ | with_reducible exact ⟨(HRA.out _ (F.out.alloc _)).flat, (HRB.out _ (F.out.alloc _)).flat⟩ | with_reducible exact ⟨(HRA.out _ (F0.out.alloc _).drew).flat, (HRB.out _ (F0.out.alloc _).drew).flat⟩ | with_reducible exact ⟨(HRA.out _ (F.out.fill _ (by assumption) (by assumption) _ _ _ _ _ _ _ _)).flat, (HRB.out _ (F.out.fill _ (by assumption) (by assumption) _ _ _ _ _ _ _ _)).flat⟩)
         clear hK K
         try simp only [Act.put, List.setIfInBounds_toArray, List.set_cons_zero, List.set_cons_succ]
         refine wpAnyH_ready (rs := [14]) (by kernel_rfl) (by simp) ?_
         refine AllReadyH.cons (o := { dst := none, op := Op.store 53 (Operand.tmp 8) (Operand.tmp 32), type := 0, pos := "l03_normal.go:39", after := #[{ on := 13, ground := Ground.data }, { on := 12, ground := Ground.data }, { on := 12, ground := Ground.chain }, { on := 0, ground := Ground.phase }, { on := 1, ground := Ground.phase }, { on := 2, ground := Ground.phase }, { on := 3, ground := Ground.phase }, { on := 4, ground := Ground.phase }, { on := 5, ground := Ground.phase }, { on := 6, ground := Ground.phase }, { on := 7, ground := Ground.phase }, { on := 8, ground := Ground.phase }, { on := 9, ground := Ground.phase }, { on := 10, ground := Ground.phase }, { on := 11, ground := Ground.phase }, { on := 12, ground := Ground.phase }, { on := 13, ground := Ground.phase }], guard := none }) rfl (fun K hK => ?_) ?_
         ·go_simp
          refine hK.out _ _ ?_ (fun hHeld => ?_)
          ·(first | with_reducible exact ⟨(HRA.out _ F.out).flat, (HRB.out _ F.out).flat⟩ | with_reducible exact ⟨(HRA.out _ (F.out.alloc _)).flat, (HRB.out _ (F.out.alloc _)).flat⟩ | with_reducible exact ⟨(HRA.out _ (F0.out.alloc _).drew).flat, (HRB.out _ (F0.out.alloc _).drew).flat⟩ | with_reducible exact ⟨(HRA.out _ (F.out.fill _ (by assumption) (by assumption) _ _ _ _ _ _ _ _)).flat, (HRB.out _ (F.out.fill _ (by assumption) (by assumption) _ _ _ _ _ _ _ _)).flat⟩)
          clear hK K
          try simp only [Act.put, List.setIfInBounds_toArray, List.set_cons_zero, List.set_cons_succ]
          refine wpAnyH_done (by kernel_rfl) ?_ _
          go_wp2_with fail
          go_meet
          first
           | (refine ⟨w4.heap.size, rfl, ?_⟩; with_reducible exact ⟨F.out.alloc _, Nat.ne_of_gt F.out.hi, F.out.bel.size, Row8.place _ .u8 _ _ _ rfl HM8.out⟩)
           | (refine ⟨w3.heap.size, rfl, ?_⟩; with_reducible exact ⟨F.out.fill _ (by assumption) (by assumption) _ _ _ _ _ _ _ _, by assumption, by assumption, RZ.out.fill _ HM8.out⟩)
           | (refine ⟨wr.heap.size, rfl, ?_⟩; with_reducible exact ⟨F.out.fill _ (by assumption) (by assumption) _ _ _ _ _ _ _ _, by assumption, by assumption, RZ.out.fill _ HM8.out⟩)
         exact AllReadyH.nil
        exact AllReadyH.nil
       exact AllReadyH.nil
      refine AllReadyH.cons (o := { dst := some 8, op := Op.alloc 53, type := 0, pos := "l03_normal.go:39", after := #[], guard := none }) rfl (fun K hK => ?_) ?_
      ·go_simp
       refine hK.out _ _ ?_ (fun hHeld => ?_)
       ·(first | with_reducible exact ⟨(HRA.out _ F.out).flat, (HRB.out _ F.out).flat⟩ | with_reducible exact ⟨(HRA.out _ (F.out.alloc _)).flat, (HRB.out _ (F.out.alloc _)).flat⟩ | with_reducible exact ⟨(HRA.out _ (F0.out.alloc _).drew).flat, (HRB.out _ (F0.out.alloc _).drew).flat⟩ | with_reducible exact ⟨(HRA.out _ (F.out.fill _ (by assumption) (by assumption) _ _ _ _ _ _ _ _)).flat, (HRB.out _ (F.out.fill _ (by assumption) (by assumption) _ _ _ _ _ _ _ _)).flat⟩)
       clear hK K
       try simp only [Act.put, List.setIfInBounds_toArray, List.set_cons_zero, List.set_cons_succ]
       refine wpAnyH_ready (rs := [5]) (by kernel_rfl) (by simp) ?_
       refine AllReadyH.cons (o := { dst := some 25, op := Op.call { callee := Callee.value (Operand.func 62), args := #[Operand.tmp 23, Operand.tmp 24], argTypes := #[53, 2] }, type := 53, pos := "l03_normal.go:39", after := #[{ on := 3, ground := Ground.data }, { on := 4, ground := Ground.data }], guard := none }) rfl (fun K hK => ?_) ?_
       ·go_simp
        (refine (l02Complement_com m ra SA.out _).mono ?_; rintro e w3 ⟨rfl, gg⟩; have zx := Nat.ne_of_gt F.out.hi; have zl := F.out.bel.size; (first | (replace F := Lib.hid (F.out.below gg); try replace RZ := Lib.hid (RZ.out.below gg)) | (have RZ := Lib.hid ((Row8.zeros _ .u8 53 _ rfl).below gg); replace F := Lib.hid ((F.out.alloc _).below gg)) | (have RZ := Lib.hid ((Row8.zeros wr .u8 53 _ rfl).drew.below gg); replace F := Lib.hid ((F0.out.alloc _).drew.below gg))); (try (obtain ⟨⟨d0, d1, d2, d3⟩, d4, d5, d6, d7⟩ := RZ.out.all; obtain ⟨⟨f0, f1, f2, f3⟩, f4, f5, f6, f7⟩ := RZ.out.frees)))
        go_wp2_with fail
        refine hK.out _ _ ?_ (fun hHeld => ?_)
        ·(first | with_reducible exact ⟨(HRA.out _ F.out).flat, (HRB.out _ F.out).flat⟩ | with_reducible exact ⟨(HRA.out _ (F.out.alloc _)).flat, (HRB.out _ (F.out.alloc _)).flat⟩ | with_reducible exact ⟨(HRA.out _ (F0.out.alloc _).drew).flat, (HRB.out _ (F0.out.alloc _).drew).flat⟩ | with_reducible exact ⟨(HRA.out _ (F.out.fill _ (by assumption) (by assumption) _ _ _ _ _ _ _ _)).flat, (HRB.out _ (F.out.fill _ (by assumption) (by assumption) _ _ _ _ _ _ _ _)).flat⟩)
        clear hK K
        try simp only [Act.put, List.setIfInBounds_toArray, List.set_cons_zero, List.set_cons_succ]
        refine wpAnyH_ready (rs := [12]) (by kernel_rfl) (by simp) ?_
        refine AllReadyH.cons (o := { dst := some 32, op := Op.call { callee := Callee.value (Operand.func 61), args := #[Operand.tmp 25, Operand.tmp 30, Operand.tmp 31], argTypes := #[53, 53, 2] }, type := 53, pos := "l03_normal.go:39", after := #[{ on := 5, ground := Ground.data }, { on := 10, ground := Ground.data }, { on := 11, ground := Ground.data }, { on := 5, ground := Ground.chain }], guard := none }) rfl (fun K hK => ?_) ?_
        ·go_simp
         (refine (l02Meet_meet m (comR m ra) rb SC.out SB.out _).mono ?_; rintro e w4 ⟨rfl, gg⟩; have zx := Nat.ne_of_gt F.out.hi; have zl := F.out.bel.size; (first | (replace F := Lib.hid (F.out.below gg); try replace RZ := Lib.hid (RZ.out.below gg)) | (have RZ := Lib.hid ((Row8.zeros _ .u8 53 _ rfl).below gg); replace F := Lib.hid ((F.out.alloc _).below gg)) | (have RZ := Lib.hid ((Row8.zeros wr .u8 53 _ rfl).drew.below gg); replace F := Lib.hid ((F0.out.alloc _).drew.below gg))); (try (obtain ⟨⟨d0, d1, d2, d3⟩, d4, d5, d6, d7⟩ := RZ.out.all; obtain ⟨⟨f0, f1, f2, f3⟩, f4, f5, f6, f7⟩ := RZ.out.frees)))
         go_wp2_with fail
         refine hK.out _ _ ?_ (fun hHeld => ?_)
         ·(first | with_reducible exact ⟨(HRA.out _ F.out).flat, (HRB.out _ F.out).flat⟩ | with_reducible exact ⟨(HRA.out _ (F.out.alloc _)).flat, (HRB.out _ (F.out.alloc _)).flat⟩ | with_reducible exact ⟨(HRA.out _ (F0.out.alloc _).drew).flat, (HRB.out _ (F0.out.alloc _).drew).flat⟩ | with_reducible exact ⟨(HRA.out _ (F.out.fill _ (by assumption) (by assumption) _ _ _ _ _ _ _ _)).flat, (HRB.out _ (F.out.fill _ (by assumption) (by assumption) _ _ _ _ _ _ _ _)).flat⟩)
         clear hK K
         try simp only [Act.put, List.setIfInBounds_toArray, List.set_cons_zero, List.set_cons_succ]
         refine wpAnyH_ready (rs := [14]) (by kernel_rfl) (by simp) ?_
         refine AllReadyH.cons (o := { dst := none, op := Op.store 53 (Operand.tmp 8) (Operand.tmp 32), type := 0, pos := "l03_normal.go:39", after := #[{ on := 13, ground := Ground.data }, { on := 12, ground := Ground.data }, { on := 12, ground := Ground.chain }, { on := 0, ground := Ground.phase }, { on := 1, ground := Ground.phase }, { on := 2, ground := Ground.phase }, { on := 3, ground := Ground.phase }, { on := 4, ground := Ground.phase }, { on := 5, ground := Ground.phase }, { on := 6, ground := Ground.phase }, { on := 7, ground := Ground.phase }, { on := 8, ground := Ground.phase }, { on := 9, ground := Ground.phase }, { on := 10, ground := Ground.phase }, { on := 11, ground := Ground.phase }, { on := 12, ground := Ground.phase }, { on := 13, ground := Ground.phase }], guard := none }) rfl (fun K hK => ?_) ?_
         ·go_simp
          refine hK.out _ _ ?_ (fun hHeld => ?_)
          ·(first | with_reducible exact ⟨(HRA.out _ F.out).flat, (HRB.out _ F.out).flat⟩ | with_reducible exact ⟨(HRA.out _ (F.out.alloc _)).flat, (HRB.out _ (F.out.alloc _)).flat⟩ | with_reducible exact ⟨(HRA.out _ (F0.out.alloc _).drew).flat, (HRB.out _ (F0.out.alloc _).drew).flat⟩ | with_reducible exact ⟨(HRA.out _ (F.out.fill _ (by assumption) (by assumption) _ _ _ _ _ _ _ _)).flat, (HRB.out _ (F.out.fill _ (by assumption) (by assumption) _ _ _ _ _ _ _ _)).flat⟩)
          clear hK K
          try simp only [Act.put, List.setIfInBounds_toArray, List.set_cons_zero, List.set_cons_succ]
          refine wpAnyH_done (by kernel_rfl) ?_ _
          go_wp2_with fail
          go_meet
          first
           | (refine ⟨w4.heap.size, rfl, ?_⟩; with_reducible exact ⟨F.out.alloc _, Nat.ne_of_gt F.out.hi, F.out.bel.size, Row8.place _ .u8 _ _ _ rfl HM8.out⟩)
           | (refine ⟨w3.heap.size, rfl, ?_⟩; with_reducible exact ⟨F.out.fill _ (by assumption) (by assumption) _ _ _ _ _ _ _ _, by assumption, by assumption, RZ.out.fill _ HM8.out⟩)
           | (refine ⟨wr.heap.size, rfl, ?_⟩; with_reducible exact ⟨F.out.fill _ (by assumption) (by assumption) _ _ _ _ _ _ _ _, by assumption, by assumption, RZ.out.fill _ HM8.out⟩)
         exact AllReadyH.nil
        exact AllReadyH.nil
       exact AllReadyH.nil
      exact AllReadyH.nil
     case rest =>
      obtain ⟨gp, rfl, hF, gp1, gp2, hR⟩ := hcut
      clear F F0
      have gpne : gb ≠ gp := Ne.symm gp1
      have F := Lib.hid hF
      have RP := Lib.hid hR
      clear hF hR
      obtain ⟨pm, hpm⟩ : ∃ pm, pm = meetR m (comR m ra) rb := ⟨_, rfl⟩
      rw [← hpm] at RP
      have SP : Hid (Sim m pm) := Lib.hid (by rw [hpm]; exact meetR_sim m1 m8 _ _)
      have HPM := Lib.hid hpm
      clear hpm
      go_upto_region 9 with fail
      replace F := Lib.hid F.out.drew
      replace RP := Lib.hid RP.out.drew
      by_cases he : pm = sameR m
      ·have heq1 : ∀ W, Sem.run Try.prog (Op.equalIn 10000 53 (arr8 .u8 pm) (arr8 .u8 (sameR m))) W = .ok true W := fun W => by rw [equal8 pm (sameR m) SP.out.len (mapR_len _ _ m8) W, decide_eq_true he]
       have HE := Lib.hid he
       clear he
       refine wp_region_held_drew (S := (fun w' => w'.cell? ⟨gp, 0, none⟩ = some (.int .u8 (at8 pm 0)) ∧ w'.cell? ⟨gp, 1, none⟩ = some (.int .u8 (at8 pm 1)) ∧ w'.cell? ⟨gp, 2, none⟩ = some (.int .u8 (at8 pm 2)) ∧ w'.cell? ⟨gp, 3, none⟩ = some (.int .u8 (at8 pm 3)) ∧ w'.cell? ⟨gp, 4, none⟩ = some (.int .u8 (at8 pm 4)) ∧ w'.cell? ⟨gp, 5, none⟩ = some (.int .u8 (at8 pm 5)) ∧ w'.cell? ⟨gp, 6, none⟩ = some (.int .u8 (at8 pm 6)) ∧ w'.cell? ⟨gp, 7, none⟩ = some (.int .u8 (at8 pm 7)))) (by kernel_rfl) ?_ (fun hHeld => ?_)
       ·with_reducible exact RP.out.flat
       refine wpAnyH_take (i := 0) (oi := { dst := some 33, op := Op.load 53 (Operand.tmp 8), type := 53, pos := "l03_normal.go:40", after := #[], guard := none }) (v := ?_) rfl (by kernel_rfl) (by kernel_rfl) (by kernel_rfl) (fun _ _ _ h => h) (Or.inl ⟨by rfl, ?_⟩) (by assumption) ?_
       rotate_left
       ·intro w hSw
        (try dsimp only at hSw)
        go_simp
        try with_reducible rfl
       try simp only [Act.put, List.setIfInBounds_toArray, List.set_cons_zero, List.set_cons_succ]
       refine wpAnyH_take (i := 1) (oi := { dst := some 34, op := Op.move (Operand.tmp 1), type := 2, pos := "l03_normal.go:40", after := #[], guard := none }) (v := ?_) rfl (by kernel_rfl) (by kernel_rfl) (by kernel_rfl) (fun _ _ _ h => h) (Or.inl ⟨by rfl, ?_⟩) (by assumption) ?_
       rotate_left
       ·intro w hSw
        (try dsimp only at hSw)
        go_simp
        try with_reducible rfl
       try simp only [Act.put, List.setIfInBounds_toArray, List.set_cons_zero, List.set_cons_succ]
       refine wpAnyH_ready (rs := [2]) (by kernel_rfl) (by simp) ?_
       refine AllReadyH.cons (o := { dst := some 35, op := Op.call { callee := Callee.value (Operand.func 36), args := #[Operand.tmp 34], argTypes := #[2] }, type := 53, pos := "l03_normal.go:40", after := #[{ on := 1, ground := Ground.data }], guard := none }) rfl (fun K hK => ?_) AllReadyH.nil
       go_simp
       (refine (l02Same_any m m8 _).mono ?_; rintro e w5 ⟨rfl, gg⟩; replace F := Lib.hid (F.out.below gg); replace RP := Lib.hid (RP.out.below gg))
       go_wp2_with fail
       refine hK.out _ _ ?_ (fun hHeld => ?_)
       ·with_reducible exact RP.out.flat
       clear hK K
       try simp only [Act.put, List.setIfInBounds_toArray, List.set_cons_zero, List.set_cons_succ]
       refine wpAnyH_take (i := 3) (oi := { dst := some 36, op := Op.binOp BinOp.eql 53 (Operand.tmp 33) (Operand.tmp 35) 53, type := 4, pos := "l03_normal.go:40", after := #[{ on := 0, ground := Ground.data }, { on := 2, ground := Ground.data }], guard := none }) (v := ?_) rfl (by kernel_rfl) (by kernel_rfl) (by kernel_rfl) (fun _ _ _ h => h) (Or.inl ⟨by rfl, ?_⟩) (by assumption) ?_
       rotate_left
       ·intro w hSw
        (try dsimp only at hSw)
        go_simp
        try with_reducible rfl
       try simp only [Act.put, List.setIfInBounds_toArray, List.set_cons_zero, List.set_cons_succ]
       refine wpAnyH_done (by kernel_rfl) ?_ _
       go_wp2
       go_roundg k
       case measure => omega
       case rel =>
        refine ⟨rows, k, q, rfl, by omega, by go_num, rfl, F.out.own, F.out.bel, P.out.keep (by rw [hrl.out]; omega) ?_⟩
        rw [← HA.out, ← HB.out, ← HPM.out]
        exact HE.out
      ·have heq1 : ∀ W, Sem.run Try.prog (Op.equalIn 10000 53 (arr8 .u8 pm) (arr8 .u8 (sameR m))) W = .ok false W := fun W => by rw [equal8 pm (sameR m) SP.out.len (mapR_len _ _ m8) W, decide_eq_false he]
       have HE := Lib.hid he
       clear he
       refine wp_region_held_drew (S := (fun w' => w'.cell? ⟨gp, 0, none⟩ = some (.int .u8 (at8 pm 0)) ∧ w'.cell? ⟨gp, 1, none⟩ = some (.int .u8 (at8 pm 1)) ∧ w'.cell? ⟨gp, 2, none⟩ = some (.int .u8 (at8 pm 2)) ∧ w'.cell? ⟨gp, 3, none⟩ = some (.int .u8 (at8 pm 3)) ∧ w'.cell? ⟨gp, 4, none⟩ = some (.int .u8 (at8 pm 4)) ∧ w'.cell? ⟨gp, 5, none⟩ = some (.int .u8 (at8 pm 5)) ∧ w'.cell? ⟨gp, 6, none⟩ = some (.int .u8 (at8 pm 6)) ∧ w'.cell? ⟨gp, 7, none⟩ = some (.int .u8 (at8 pm 7)))) (by kernel_rfl) ?_ (fun hHeld => ?_)
       ·with_reducible exact RP.out.flat
       refine wpAnyH_take (i := 0) (oi := { dst := some 33, op := Op.load 53 (Operand.tmp 8), type := 53, pos := "l03_normal.go:40", after := #[], guard := none }) (v := ?_) rfl (by kernel_rfl) (by kernel_rfl) (by kernel_rfl) (fun _ _ _ h => h) (Or.inl ⟨by rfl, ?_⟩) (by assumption) ?_
       rotate_left
       ·intro w hSw
        (try dsimp only at hSw)
        go_simp
        try with_reducible rfl
       try simp only [Act.put, List.setIfInBounds_toArray, List.set_cons_zero, List.set_cons_succ]
       refine wpAnyH_take (i := 1) (oi := { dst := some 34, op := Op.move (Operand.tmp 1), type := 2, pos := "l03_normal.go:40", after := #[], guard := none }) (v := ?_) rfl (by kernel_rfl) (by kernel_rfl) (by kernel_rfl) (fun _ _ _ h => h) (Or.inl ⟨by rfl, ?_⟩) (by assumption) ?_
       rotate_left
       ·intro w hSw
        (try dsimp only at hSw)
        go_simp
        try with_reducible rfl
       try simp only [Act.put, List.setIfInBounds_toArray, List.set_cons_zero, List.set_cons_succ]
       refine wpAnyH_ready (rs := [2]) (by kernel_rfl) (by simp) ?_
       refine AllReadyH.cons (o := { dst := some 35, op := Op.call { callee := Callee.value (Operand.func 36), args := #[Operand.tmp 34], argTypes := #[2] }, type := 53, pos := "l03_normal.go:40", after := #[{ on := 1, ground := Ground.data }], guard := none }) rfl (fun K hK => ?_) AllReadyH.nil
       go_simp
       (refine (l02Same_any m m8 _).mono ?_; rintro e w5 ⟨rfl, gg⟩; replace F := Lib.hid (F.out.below gg); replace RP := Lib.hid (RP.out.below gg))
       go_wp2_with fail
       refine hK.out _ _ ?_ (fun hHeld => ?_)
       ·with_reducible exact RP.out.flat
       clear hK K
       try simp only [Act.put, List.setIfInBounds_toArray, List.set_cons_zero, List.set_cons_succ]
       refine wpAnyH_take (i := 3) (oi := { dst := some 36, op := Op.binOp BinOp.eql 53 (Operand.tmp 33) (Operand.tmp 35) 53, type := 4, pos := "l03_normal.go:40", after := #[{ on := 0, ground := Ground.data }, { on := 2, ground := Ground.data }], guard := none }) (v := ?_) rfl (by kernel_rfl) (by kernel_rfl) (by kernel_rfl) (fun _ _ _ h => h) (Or.inl ⟨by rfl, ?_⟩) (by assumption) ?_
       rotate_left
       ·intro w hSw
        (try dsimp only at hSw)
        go_simp
        try with_reducible rfl
       try simp only [Act.put, List.setIfInBounds_toArray, List.set_cons_zero, List.set_cons_succ]
       refine wpAnyH_done (by kernel_rfl) ?_ _
       go_upto_region 11 with fail
       replace F := Lib.hid F.out.drew
       replace RP := Lib.hid RP.out.drew
       obtain ⟨c0, c1, c2', c3, c4, c5, c6, c7⟩ := (HRA.out _ F.out).flat
       refine wp_region_held_drew (S := (fun w' => w'.cell? ⟨gp, 0, none⟩ = some (.int .u8 (at8 pm 0)) ∧ w'.cell? ⟨gp, 1, none⟩ = some (.int .u8 (at8 pm 1)) ∧ w'.cell? ⟨gp, 2, none⟩ = some (.int .u8 (at8 pm 2)) ∧ w'.cell? ⟨gp, 3, none⟩ = some (.int .u8 (at8 pm 3)) ∧ w'.cell? ⟨gp, 4, none⟩ = some (.int .u8 (at8 pm 4)) ∧ w'.cell? ⟨gp, 5, none⟩ = some (.int .u8 (at8 pm 5)) ∧ w'.cell? ⟨gp, 6, none⟩ = some (.int .u8 (at8 pm 6)) ∧ w'.cell? ⟨gp, 7, none⟩ = some (.int .u8 (at8 pm 7)))) (by kernel_rfl) ?_ (fun hHeld => ?_)
       ·(first | with_reducible exact RP.out.flat | with_reducible exact (RP.out.pastAt gb _ gpne _ _ _ _ _ _ _ _).flat)
       refine wpAnyH_take (i := 0) (oi := { dst := some 37, op := Op.move (Operand.tmp 5), type := 26, pos := "l03_normal.go:44", after := #[], guard := none }) (v := ?_) rfl (by kernel_rfl) (by kernel_rfl) (by kernel_rfl) (fun _ _ _ h => h) (Or.inl ⟨by rfl, ?_⟩) (by assumption) ?_
       rotate_left
       ·intro w hSw
        (try dsimp only at hSw)
        go_simp
        try with_reducible rfl
       try simp only [Act.put, List.setIfInBounds_toArray, List.set_cons_zero, List.set_cons_succ]
       refine wpAnyH_take (i := 1) (oi := { dst := some 38, op := Op.move (Operand.tmp 7), type := 3, pos := "l03_normal.go:44", after := #[], guard := none }) (v := ?_) rfl (by kernel_rfl) (by kernel_rfl) (by kernel_rfl) (fun _ _ _ h => h) (Or.inl ⟨by rfl, ?_⟩) (by assumption) ?_
       rotate_left
       ·intro w hSw
        (try dsimp only at hSw)
        go_simp
        try with_reducible rfl
       try simp only [Act.put, List.setIfInBounds_toArray, List.set_cons_zero, List.set_cons_succ]
       refine wpAnyH_take (i := 2) (oi := { dst := some 39, op := Op.move (Operand.tmp 5), type := 26, pos := "l03_normal.go:44", after := #[], guard := none }) (v := ?_) rfl (by kernel_rfl) (by kernel_rfl) (by kernel_rfl) (fun _ _ _ h => h) (Or.inl ⟨by rfl, ?_⟩) (by assumption) ?_
       rotate_left
       ·intro w hSw
        (try dsimp only at hSw)
        go_simp
        try with_reducible rfl
       try simp only [Act.put, List.setIfInBounds_toArray, List.set_cons_zero, List.set_cons_succ]
       refine wpAnyH_take (i := 3) (oi := { dst := some 40, op := Op.move (Operand.tmp 7), type := 3, pos := "l03_normal.go:44", after := #[], guard := none }) (v := ?_) rfl (by kernel_rfl) (by kernel_rfl) (by kernel_rfl) (fun _ _ _ h => h) (Or.inl ⟨by rfl, ?_⟩) (by assumption) ?_
       rotate_left
       ·intro w hSw
        (try dsimp only at hSw)
        go_simp
        try with_reducible rfl
       try simp only [Act.put, List.setIfInBounds_toArray, List.set_cons_zero, List.set_cons_succ]
       refine wpAnyH_take (i := 4) (oi := { dst := some 41, op := Op.indexAddr 26 (Operand.tmp 39) (Operand.tmp 40), type := 0, pos := "l03_normal.go:44", after := #[{ on := 2, ground := Ground.data }, { on := 3, ground := Ground.data }], guard := none }) (v := ?_) rfl (by kernel_rfl) (by kernel_rfl) (by kernel_rfl) (fun _ _ _ h => h) (Or.inl ⟨by rfl, ?_⟩) (by assumption) ?_
       rotate_left
       ·intro w hSw
        (try dsimp only at hSw)
        go_simp
        try with_reducible rfl
       try simp only [Act.put, List.setIfInBounds_toArray, List.set_cons_zero, List.set_cons_succ]
       refine wpAnyH_take (i := 6) (oi := { dst := some 43, op := Op.load 53 (Operand.tmp 8), type := 53, pos := "l03_normal.go:44", after := #[], guard := none }) (v := ?_) rfl (by kernel_rfl) (by kernel_rfl) (by kernel_rfl) (fun _ _ _ h => h) (Or.inl ⟨by rfl, ?_⟩) (by assumption) ?_
       rotate_left
       ·intro w hSw
        (try dsimp only at hSw)
        go_simp
        try with_reducible rfl
       try simp only [Act.put, List.setIfInBounds_toArray, List.set_cons_zero, List.set_cons_succ]
       refine wpAnyH_take (i := 7) (oi := { dst := some 44, op := Op.move (Operand.tmp 1), type := 2, pos := "l03_normal.go:44", after := #[], guard := none }) (v := ?_) rfl (by kernel_rfl) (by kernel_rfl) (by kernel_rfl) (fun _ _ _ h => h) (Or.inl ⟨by rfl, ?_⟩) (by assumption) ?_
       rotate_left
       ·intro w hSw
        (try dsimp only at hSw)
        go_simp
        try with_reducible rfl
       try simp only [Act.put, List.setIfInBounds_toArray, List.set_cons_zero, List.set_cons_succ]
       refine wpAnyH_ready (rs := [5]) (by kernel_rfl) (by simp) ?_
       refine AllReadyH.cons (o := { dst := some 42, op := Op.load 53 (Operand.tmp 41), type := 53, pos := "l03_normal.go:44", after := #[{ on := 4, ground := Ground.data }], guard := none }) rfl (fun K hK => ?_) ?_
       ·go_simp
        refine hK.out _ _ ?_ (fun hHeld => ?_)
        ·(first | with_reducible exact RP.out.flat | with_reducible exact (RP.out.pastAt gb _ gpne _ _ _ _ _ _ _ _).flat)
        clear hK K
        try simp only [Act.put, List.setIfInBounds_toArray, List.set_cons_zero, List.set_cons_succ]
        refine wpAnyH_ready (rs := [8]) (by kernel_rfl) (by simp) ?_
        refine AllReadyH.cons (o := { dst := some 45, op := Op.call { callee := Callee.value (Operand.func 63), args := #[Operand.tmp 42, Operand.tmp 43, Operand.tmp 44], argTypes := #[53, 53, 2] }, type := 53, pos := "l03_normal.go:44", after := #[{ on := 5, ground := Ground.data }, { on := 6, ground := Ground.data }, { on := 7, ground := Ground.data }], guard := none }) rfl (fun K hK => ?_) ?_
        ·go_simp
         (refine (l02Then_any m m8 ra pm SA.out.len SP.out.len SA.out.wide _).mono ?_; rintro e w6 ⟨rfl, gg⟩; replace F := Lib.hid (F.out.below gg); replace RP := Lib.hid (RP.out.below gg); obtain ⟨d0, d1, d2, d3, d4, d5, d6, d7⟩ := (HRA.out _ F.out).flat; have fr0 := F.out.own.frozenAt (k * 8); have fr1 := F.out.own.frozenAt (k * 8 + 1); have fr2 := F.out.own.frozenAt (k * 8 + 2); have fr3 := F.out.own.frozenAt (k * 8 + 3); have fr4 := F.out.own.frozenAt (k * 8 + 4); have fr5 := F.out.own.frozenAt (k * 8 + 5); have fr6 := F.out.own.frozenAt (k * 8 + 6); have fr7 := F.out.own.frozenAt (k * 8 + 7))
         go_wp2_with fail
         refine hK.out _ _ ?_ (fun hHeld => ?_)
         ·(first | with_reducible exact RP.out.flat | with_reducible exact (RP.out.pastAt gb _ gpne _ _ _ _ _ _ _ _).flat)
         clear hK K
         try simp only [Act.put, List.setIfInBounds_toArray, List.set_cons_zero, List.set_cons_succ]
         refine wpAnyH_ready (rs := [9]) (by kernel_rfl) (by simp) ?_
         refine AllReadyH.cons (o := { dst := some 46, op := Op.indexAddr 26 (Operand.tmp 37) (Operand.tmp 38), type := 0, pos := "l03_normal.go:44", after := #[{ on := 0, ground := Ground.data }, { on := 1, ground := Ground.data }, { on := 0, ground := Ground.phase }, { on := 1, ground := Ground.phase }, { on := 2, ground := Ground.phase }, { on := 3, ground := Ground.phase }, { on := 4, ground := Ground.phase }, { on := 5, ground := Ground.phase }, { on := 6, ground := Ground.phase }, { on := 7, ground := Ground.phase }, { on := 8, ground := Ground.phase }], guard := none }) rfl (fun K hK => ?_) ?_
         ·go_simp
          refine hK.out _ _ ?_ (fun hHeld => ?_)
          ·(first | with_reducible exact RP.out.flat | with_reducible exact (RP.out.pastAt gb _ gpne _ _ _ _ _ _ _ _).flat)
          clear hK K
          try simp only [Act.put, List.setIfInBounds_toArray, List.set_cons_zero, List.set_cons_succ]
          refine wpAnyH_ready (rs := [10]) (by kernel_rfl) (by simp) ?_
          refine AllReadyH.cons (o := { dst := none, op := Op.store 53 (Operand.tmp 46) (Operand.tmp 45), type := 0, pos := "l03_normal.go:44", after := #[{ on := 9, ground := Ground.data }, { on := 8, ground := Ground.data }, { on := 8, ground := Ground.chain }, { on := 0, ground := Ground.phase }, { on := 1, ground := Ground.phase }, { on := 2, ground := Ground.phase }, { on := 3, ground := Ground.phase }, { on := 4, ground := Ground.phase }, { on := 5, ground := Ground.phase }, { on := 6, ground := Ground.phase }, { on := 7, ground := Ground.phase }, { on := 8, ground := Ground.phase }], guard := none }) rfl (fun K hK => ?_) ?_
          ·go_simp
           refine hK.out _ _ ?_ (fun hHeld => ?_)
           ·(first | with_reducible exact RP.out.flat | with_reducible exact (RP.out.pastAt gb _ gpne _ _ _ _ _ _ _ _).flat)
           clear hK K
           try simp only [Act.put, List.setIfInBounds_toArray, List.set_cons_zero, List.set_cons_succ]
           refine wpAnyH_done (by kernel_rfl) ?_ _
           go_upto_region 12 with fail
           replace RP := Lib.hid (RP.out.pastAt gb (k * 8) gpne (.int .u8 (at8 (thenR m ra pm) 0)) (.int .u8 (at8 (thenR m ra pm) 1)) (.int .u8 (at8 (thenR m ra pm) 2)) (.int .u8 (at8 (thenR m ra pm) 3)) (.int .u8 (at8 (thenR m ra pm) 4)) (.int .u8 (at8 (thenR m ra pm) 5)) (.int .u8 (at8 (thenR m ra pm) 6)) (.int .u8 (at8 (thenR m ra pm) 7)))
           replace F := Lib.hid (F.out.store k (by omega) (thenR m ra pm) (mapR_len _ _ m8))
           have hF2 := F.out
           have hR2 := RP.out
           clear F RP
           obtain ⟨V, hV⟩ : ∃ V, V = ((((((((w6.setCell ⟨gb, k * 8, none⟩ (.int .u8 (at8 (thenR m ra pm) 0))).setCell ⟨gb, k * 8 + 1, none⟩ (.int .u8 (at8 (thenR m ra pm) 1))).setCell ⟨gb, k * 8 + 2, none⟩ (.int .u8 (at8 (thenR m ra pm) 2))).setCell ⟨gb, k * 8 + 3, none⟩ (.int .u8 (at8 (thenR m ra pm) 3))).setCell ⟨gb, k * 8 + 4, none⟩ (.int .u8 (at8 (thenR m ra pm) 4))).setCell ⟨gb, k * 8 + 5, none⟩ (.int .u8 (at8 (thenR m ra pm) 5))).setCell ⟨gb, k * 8 + 6, none⟩ (.int .u8 (at8 (thenR m ra pm) 6))).setCell ⟨gb, k * 8 + 7, none⟩ (.int .u8 (at8 (thenR m ra pm) 7))) := ⟨_, rfl⟩
           rw [← hV] at hF2 hR2 ⊢
           have F := Lib.hid hF2.drew
           have RP := Lib.hid hR2.drew
           clear hV hF2 hR2 c0 c1 c2' c3 c4 c5 c6 c7 d0 d1 d2 d3 d4 d5 d6 d7 fr0 fr1 fr2 fr3 fr4 fr5 fr6 fr7
           have HRB2 : Hid (∀ W, AtWei w W gb n c2 (rows.set k (thenR m ra pm)) → Cells8 W gb ((k + 1) * 8) rb) := Lib.hid fun W h => by
            have h9 := h.row (k + 1) (by omega)
            rw [rowAt_set rows k (k + 1) _ (by rw [hrl.out]; omega), if_neg (by omega), ← HB.out] at h9
            exact h9
           obtain ⟨c0, c1, c2', c3, c4, c5, c6, c7⟩ := (HRB2.out _ F.out).flat
           refine wp_region_held_drew (S := (fun w' => w'.cell? ⟨gp, 0, none⟩ = some (.int .u8 (at8 pm 0)) ∧ w'.cell? ⟨gp, 1, none⟩ = some (.int .u8 (at8 pm 1)) ∧ w'.cell? ⟨gp, 2, none⟩ = some (.int .u8 (at8 pm 2)) ∧ w'.cell? ⟨gp, 3, none⟩ = some (.int .u8 (at8 pm 3)) ∧ w'.cell? ⟨gp, 4, none⟩ = some (.int .u8 (at8 pm 4)) ∧ w'.cell? ⟨gp, 5, none⟩ = some (.int .u8 (at8 pm 5)) ∧ w'.cell? ⟨gp, 6, none⟩ = some (.int .u8 (at8 pm 6)) ∧ w'.cell? ⟨gp, 7, none⟩ = some (.int .u8 (at8 pm 7)))) (by kernel_rfl) ?_ (fun hHeld => ?_)
           ·(first | with_reducible exact RP.out.flat | with_reducible exact (RP.out.pastAt gb _ gpne _ _ _ _ _ _ _ _).flat)
           refine wpAnyH_take (i := 0) (oi := { dst := some 47, op := Op.move (Operand.tmp 5), type := 26, pos := "l03_normal.go:45", after := #[], guard := none }) (v := ?_) rfl (by kernel_rfl) (by kernel_rfl) (by kernel_rfl) (fun _ _ _ h => h) (Or.inl ⟨by rfl, ?_⟩) (by assumption) ?_
           rotate_left
           ·intro w hSw
            (try dsimp only at hSw)
            go_simp
            try with_reducible rfl
           try simp only [Act.put, List.setIfInBounds_toArray, List.set_cons_zero, List.set_cons_succ]
           refine wpAnyH_take (i := 1) (oi := { dst := some 48, op := Op.move (Operand.tmp 7), type := 3, pos := "l03_normal.go:45", after := #[], guard := none }) (v := ?_) rfl (by kernel_rfl) (by kernel_rfl) (by kernel_rfl) (fun _ _ _ h => h) (Or.inl ⟨by rfl, ?_⟩) (by assumption) ?_
           rotate_left
           ·intro w hSw
            (try dsimp only at hSw)
            go_simp
            try with_reducible rfl
           try simp only [Act.put, List.setIfInBounds_toArray, List.set_cons_zero, List.set_cons_succ]
           refine wpAnyH_take (i := 2) (oi := { dst := some 49, op := Op.binOp BinOp.add 3 (Operand.tmp 48) (Operand.const (Value.int IntKind.i64 1)) 3, type := 3, pos := "l03_normal.go:45", after := #[{ on := 1, ground := Ground.data }], guard := none }) (v := ?_) rfl (by kernel_rfl) (by kernel_rfl) (by kernel_rfl) (fun _ _ _ h => h) (Or.inl ⟨by rfl, ?_⟩) (by assumption) ?_
           rotate_left
           ·intro w hSw
            (try dsimp only at hSw)
            go_simp
            try with_reducible rfl
           try simp only [Act.put, List.setIfInBounds_toArray, List.set_cons_zero, List.set_cons_succ]
           refine wpAnyH_take (i := 3) (oi := { dst := some 50, op := Op.load 53 (Operand.tmp 8), type := 53, pos := "l03_normal.go:45", after := #[], guard := none }) (v := ?_) rfl (by kernel_rfl) (by kernel_rfl) (by kernel_rfl) (fun _ _ _ h => h) (Or.inl ⟨by rfl, ?_⟩) (by assumption) ?_
           rotate_left
           ·intro w hSw
            (try dsimp only at hSw)
            go_simp
            try with_reducible rfl
           try simp only [Act.put, List.setIfInBounds_toArray, List.set_cons_zero, List.set_cons_succ]
           refine wpAnyH_take (i := 4) (oi := { dst := some 51, op := Op.move (Operand.tmp 1), type := 2, pos := "l03_normal.go:45", after := #[], guard := none }) (v := ?_) rfl (by kernel_rfl) (by kernel_rfl) (by kernel_rfl) (fun _ _ _ h => h) (Or.inl ⟨by rfl, ?_⟩) (by assumption) ?_
           rotate_left
           ·intro w hSw
            (try dsimp only at hSw)
            go_simp
            try with_reducible rfl
           try simp only [Act.put, List.setIfInBounds_toArray, List.set_cons_zero, List.set_cons_succ]
           refine wpAnyH_take (i := 6) (oi := { dst := some 53, op := Op.move (Operand.tmp 5), type := 26, pos := "l03_normal.go:45", after := #[], guard := none }) (v := ?_) rfl (by kernel_rfl) (by kernel_rfl) (by kernel_rfl) (fun _ _ _ h => h) (Or.inl ⟨by rfl, ?_⟩) (by assumption) ?_
           rotate_left
           ·intro w hSw
            (try dsimp only at hSw)
            go_simp
            try with_reducible rfl
           try simp only [Act.put, List.setIfInBounds_toArray, List.set_cons_zero, List.set_cons_succ]
           refine wpAnyH_take (i := 7) (oi := { dst := some 54, op := Op.move (Operand.tmp 7), type := 3, pos := "l03_normal.go:45", after := #[], guard := none }) (v := ?_) rfl (by kernel_rfl) (by kernel_rfl) (by kernel_rfl) (fun _ _ _ h => h) (Or.inl ⟨by rfl, ?_⟩) (by assumption) ?_
           rotate_left
           ·intro w hSw
            (try dsimp only at hSw)
            go_simp
            try with_reducible rfl
           try simp only [Act.put, List.setIfInBounds_toArray, List.set_cons_zero, List.set_cons_succ]
           refine wpAnyH_take (i := 8) (oi := { dst := some 55, op := Op.binOp BinOp.add 3 (Operand.tmp 54) (Operand.const (Value.int IntKind.i64 1)) 3, type := 3, pos := "l03_normal.go:45", after := #[{ on := 7, ground := Ground.data }], guard := none }) (v := ?_) rfl (by kernel_rfl) (by kernel_rfl) (by kernel_rfl) (fun _ _ _ h => h) (Or.inl ⟨by rfl, ?_⟩) (by assumption) ?_
           rotate_left
           ·intro w hSw
            (try dsimp only at hSw)
            go_simp
            try with_reducible rfl
           try simp only [Act.put, List.setIfInBounds_toArray, List.set_cons_zero, List.set_cons_succ]
           refine wpAnyH_take (i := 9) (oi := { dst := some 56, op := Op.indexAddr 26 (Operand.tmp 53) (Operand.tmp 55), type := 0, pos := "l03_normal.go:45", after := #[{ on := 6, ground := Ground.data }, { on := 8, ground := Ground.data }], guard := none }) (v := ?_) rfl (by kernel_rfl) (by kernel_rfl) (by kernel_rfl) (fun _ _ _ h => h) (Or.inl ⟨by rfl, ?_⟩) (by assumption) ?_
           rotate_left
           ·intro w hSw
            (try dsimp only at hSw)
            go_simp
            try with_reducible rfl
           try simp only [Act.put, List.setIfInBounds_toArray, List.set_cons_zero, List.set_cons_succ]
           refine wpAnyH_take (i := 11) (oi := { dst := some 58, op := Op.move (Operand.tmp 1), type := 2, pos := "l03_normal.go:45", after := #[], guard := none }) (v := ?_) rfl (by kernel_rfl) (by kernel_rfl) (by kernel_rfl) (fun _ _ _ h => h) (Or.inl ⟨by rfl, ?_⟩) (by assumption) ?_
           rotate_left
           ·intro w hSw
            (try dsimp only at hSw)
            go_simp
            try with_reducible rfl
           try simp only [Act.put, List.setIfInBounds_toArray, List.set_cons_zero, List.set_cons_succ]
           refine wpAnyH_ready (rs := [5, 10]) (by kernel_rfl) (by simp) ?_
           refine AllReadyH.cons (o := { dst := some 52, op := Op.call { callee := Callee.value (Operand.func 58), args := #[Operand.tmp 50, Operand.tmp 51], argTypes := #[53, 2] }, type := 53, pos := "l03_normal.go:45", after := #[{ on := 3, ground := Ground.data }, { on := 4, ground := Ground.data }], guard := none }) rfl (fun K hK => ?_) ?_
           ·go_simp
            (refine (l02Back_any m pm SP.out _).mono ?_; rintro e w7 ⟨rfl, gg⟩; replace F := Lib.hid (F.out.below gg); replace RP := Lib.hid (RP.out.below gg); obtain ⟨d0, d1, d2, d3, d4, d5, d6, d7⟩ := (HRB2.out _ F.out).flat)
            go_wp2_with fail
            refine hK.out _ _ ?_ (fun hHeld => ?_)
            ·(first | with_reducible exact RP.out.flat | with_reducible exact (RP.out.pastAt gb _ gpne _ _ _ _ _ _ _ _).flat)
            clear hK K
            try simp only [Act.put, List.setIfInBounds_toArray, List.set_cons_zero, List.set_cons_succ]
            refine wpAnyH_ready (rs := [10]) (by kernel_rfl) (by simp) ?_
            refine AllReadyH.cons (o := { dst := some 57, op := Op.load 53 (Operand.tmp 56), type := 53, pos := "l03_normal.go:45", after := #[{ on := 9, ground := Ground.data }], guard := none }) rfl (fun K hK => ?_) ?_
            ·go_simp
             refine hK.out _ _ ?_ (fun hHeld => ?_)
             ·(first | with_reducible exact RP.out.flat | with_reducible exact (RP.out.pastAt gb _ gpne _ _ _ _ _ _ _ _).flat)
             clear hK K
             try simp only [Act.put, List.setIfInBounds_toArray, List.set_cons_zero, List.set_cons_succ]
             refine wpAnyH_ready (rs := [12]) (by kernel_rfl) (by simp) ?_
             refine AllReadyH.cons (o := { dst := some 59, op := Op.call { callee := Callee.value (Operand.func 63), args := #[Operand.tmp 52, Operand.tmp 57, Operand.tmp 58], argTypes := #[53, 53, 2] }, type := 53, pos := "l03_normal.go:45", after := #[{ on := 5, ground := Ground.data }, { on := 10, ground := Ground.data }, { on := 11, ground := Ground.data }, { on := 5, ground := Ground.chain }], guard := none }) rfl (fun K hK => ?_) ?_
             ·go_simp
              (refine (l02Then_any m m8 (backR m pm) rb (backR_sim SP.out).len SB.out.len (backR_sim SP.out).wide _).mono ?_; rintro e w8 ⟨rfl, gg⟩; replace F := Lib.hid (F.out.below gg); replace RP := Lib.hid (RP.out.below gg); obtain ⟨d0, d1, d2, d3, d4, d5, d6, d7⟩ := (HRB2.out _ F.out).flat; have fr0 := F.out.own.frozenAt ((k + 1) * 8); have fr1 := F.out.own.frozenAt ((k + 1) * 8 + 1); have fr2 := F.out.own.frozenAt ((k + 1) * 8 + 2); have fr3 := F.out.own.frozenAt ((k + 1) * 8 + 3); have fr4 := F.out.own.frozenAt ((k + 1) * 8 + 4); have fr5 := F.out.own.frozenAt ((k + 1) * 8 + 5); have fr6 := F.out.own.frozenAt ((k + 1) * 8 + 6); have fr7 := F.out.own.frozenAt ((k + 1) * 8 + 7))
              go_wp2_with fail
              refine hK.out _ _ ?_ (fun hHeld => ?_)
              ·(first | with_reducible exact RP.out.flat | with_reducible exact (RP.out.pastAt gb _ gpne _ _ _ _ _ _ _ _).flat)
              clear hK K
              try simp only [Act.put, List.setIfInBounds_toArray, List.set_cons_zero, List.set_cons_succ]
              refine wpAnyH_ready (rs := [13]) (by kernel_rfl) (by simp) ?_
              refine AllReadyH.cons (o := { dst := some 60, op := Op.indexAddr 26 (Operand.tmp 47) (Operand.tmp 49), type := 0, pos := "l03_normal.go:45", after := #[{ on := 0, ground := Ground.data }, { on := 2, ground := Ground.data }, { on := 0, ground := Ground.phase }, { on := 1, ground := Ground.phase }, { on := 2, ground := Ground.phase }, { on := 3, ground := Ground.phase }, { on := 4, ground := Ground.phase }, { on := 5, ground := Ground.phase }, { on := 6, ground := Ground.phase }, { on := 7, ground := Ground.phase }, { on := 8, ground := Ground.phase }, { on := 9, ground := Ground.phase }, { on := 10, ground := Ground.phase }, { on := 11, ground := Ground.phase }, { on := 12, ground := Ground.phase }], guard := none }) rfl (fun K hK => ?_) ?_
              ·go_simp
               refine hK.out _ _ ?_ (fun hHeld => ?_)
               ·(first | with_reducible exact RP.out.flat | with_reducible exact (RP.out.pastAt gb _ gpne _ _ _ _ _ _ _ _).flat)
               clear hK K
               try simp only [Act.put, List.setIfInBounds_toArray, List.set_cons_zero, List.set_cons_succ]
               refine wpAnyH_ready (rs := [14]) (by kernel_rfl) (by simp) ?_
               refine AllReadyH.cons (o := { dst := none, op := Op.store 53 (Operand.tmp 60) (Operand.tmp 59), type := 0, pos := "l03_normal.go:45", after := #[{ on := 13, ground := Ground.data }, { on := 12, ground := Ground.data }, { on := 12, ground := Ground.chain }, { on := 0, ground := Ground.phase }, { on := 1, ground := Ground.phase }, { on := 2, ground := Ground.phase }, { on := 3, ground := Ground.phase }, { on := 4, ground := Ground.phase }, { on := 5, ground := Ground.phase }, { on := 6, ground := Ground.phase }, { on := 7, ground := Ground.phase }, { on := 8, ground := Ground.phase }, { on := 9, ground := Ground.phase }, { on := 10, ground := Ground.phase }, { on := 11, ground := Ground.phase }, { on := 12, ground := Ground.phase }], guard := none }) rfl (fun K hK => ?_) ?_
               ·go_simp
                refine hK.out _ _ ?_ (fun hHeld => ?_)
                ·(first | with_reducible exact RP.out.flat | with_reducible exact (RP.out.pastAt gb _ gpne _ _ _ _ _ _ _ _).flat)
                clear hK K
                try simp only [Act.put, List.setIfInBounds_toArray, List.set_cons_zero, List.set_cons_succ]
                refine wpAnyH_done (by kernel_rfl) ?_ _
                replace F := Lib.hid (F.out.store (k + 1) (by omega) (thenR m (backR m pm) rb) (mapR_len _ _ m8))
                go_wp2
                go_roundg k
                case measure => omega
                case rel =>
                 have e1 : both m (rowAt rows k) (rowAt rows (k + 1)) = (thenR m ra pm, thenR m (backR m pm) rb) := by rw [← HA.out, ← HB.out, HPM.out]; rfl
                 have e2 := P.out.move (by rw [hrl.out]; omega) (by rw [← HA.out, ← HB.out, ← HPM.out]; exact HE.out)
                 rw [e1] at e2
                 exact ⟨_, k, true, rfl, by omega, by go_num, rfl, F.out.own, F.out.bel, e2⟩
               exact AllReadyH.nil
              exact AllReadyH.nil
             exact AllReadyH.nil
            exact AllReadyH.nil
           refine AllReadyH.cons (o := { dst := some 57, op := Op.load 53 (Operand.tmp 56), type := 53, pos := "l03_normal.go:45", after := #[{ on := 9, ground := Ground.data }], guard := none }) rfl (fun K hK => ?_) ?_
           ·go_simp
            refine hK.out _ _ ?_ (fun hHeld => ?_)
            ·(first | with_reducible exact RP.out.flat | with_reducible exact (RP.out.pastAt gb _ gpne _ _ _ _ _ _ _ _).flat)
            clear hK K
            try simp only [Act.put, List.setIfInBounds_toArray, List.set_cons_zero, List.set_cons_succ]
            refine wpAnyH_ready (rs := [5]) (by kernel_rfl) (by simp) ?_
            refine AllReadyH.cons (o := { dst := some 52, op := Op.call { callee := Callee.value (Operand.func 58), args := #[Operand.tmp 50, Operand.tmp 51], argTypes := #[53, 2] }, type := 53, pos := "l03_normal.go:45", after := #[{ on := 3, ground := Ground.data }, { on := 4, ground := Ground.data }], guard := none }) rfl (fun K hK => ?_) ?_
            ·go_simp
             (refine (l02Back_any m pm SP.out _).mono ?_; rintro e w7 ⟨rfl, gg⟩; replace F := Lib.hid (F.out.below gg); replace RP := Lib.hid (RP.out.below gg); obtain ⟨d0, d1, d2, d3, d4, d5, d6, d7⟩ := (HRB2.out _ F.out).flat)
             go_wp2_with fail
             refine hK.out _ _ ?_ (fun hHeld => ?_)
             ·(first | with_reducible exact RP.out.flat | with_reducible exact (RP.out.pastAt gb _ gpne _ _ _ _ _ _ _ _).flat)
             clear hK K
             try simp only [Act.put, List.setIfInBounds_toArray, List.set_cons_zero, List.set_cons_succ]
             refine wpAnyH_ready (rs := [12]) (by kernel_rfl) (by simp) ?_
             refine AllReadyH.cons (o := { dst := some 59, op := Op.call { callee := Callee.value (Operand.func 63), args := #[Operand.tmp 52, Operand.tmp 57, Operand.tmp 58], argTypes := #[53, 53, 2] }, type := 53, pos := "l03_normal.go:45", after := #[{ on := 5, ground := Ground.data }, { on := 10, ground := Ground.data }, { on := 11, ground := Ground.data }, { on := 5, ground := Ground.chain }], guard := none }) rfl (fun K hK => ?_) ?_
             ·go_simp
              (refine (l02Then_any m m8 (backR m pm) rb (backR_sim SP.out).len SB.out.len (backR_sim SP.out).wide _).mono ?_; rintro e w8 ⟨rfl, gg⟩; replace F := Lib.hid (F.out.below gg); replace RP := Lib.hid (RP.out.below gg); obtain ⟨d0, d1, d2, d3, d4, d5, d6, d7⟩ := (HRB2.out _ F.out).flat; have fr0 := F.out.own.frozenAt ((k + 1) * 8); have fr1 := F.out.own.frozenAt ((k + 1) * 8 + 1); have fr2 := F.out.own.frozenAt ((k + 1) * 8 + 2); have fr3 := F.out.own.frozenAt ((k + 1) * 8 + 3); have fr4 := F.out.own.frozenAt ((k + 1) * 8 + 4); have fr5 := F.out.own.frozenAt ((k + 1) * 8 + 5); have fr6 := F.out.own.frozenAt ((k + 1) * 8 + 6); have fr7 := F.out.own.frozenAt ((k + 1) * 8 + 7))
              go_wp2_with fail
              refine hK.out _ _ ?_ (fun hHeld => ?_)
              ·(first | with_reducible exact RP.out.flat | with_reducible exact (RP.out.pastAt gb _ gpne _ _ _ _ _ _ _ _).flat)
              clear hK K
              try simp only [Act.put, List.setIfInBounds_toArray, List.set_cons_zero, List.set_cons_succ]
              refine wpAnyH_ready (rs := [13]) (by kernel_rfl) (by simp) ?_
              refine AllReadyH.cons (o := { dst := some 60, op := Op.indexAddr 26 (Operand.tmp 47) (Operand.tmp 49), type := 0, pos := "l03_normal.go:45", after := #[{ on := 0, ground := Ground.data }, { on := 2, ground := Ground.data }, { on := 0, ground := Ground.phase }, { on := 1, ground := Ground.phase }, { on := 2, ground := Ground.phase }, { on := 3, ground := Ground.phase }, { on := 4, ground := Ground.phase }, { on := 5, ground := Ground.phase }, { on := 6, ground := Ground.phase }, { on := 7, ground := Ground.phase }, { on := 8, ground := Ground.phase }, { on := 9, ground := Ground.phase }, { on := 10, ground := Ground.phase }, { on := 11, ground := Ground.phase }, { on := 12, ground := Ground.phase }], guard := none }) rfl (fun K hK => ?_) ?_
              ·go_simp
               refine hK.out _ _ ?_ (fun hHeld => ?_)
               ·(first | with_reducible exact RP.out.flat | with_reducible exact (RP.out.pastAt gb _ gpne _ _ _ _ _ _ _ _).flat)
               clear hK K
               try simp only [Act.put, List.setIfInBounds_toArray, List.set_cons_zero, List.set_cons_succ]
               refine wpAnyH_ready (rs := [14]) (by kernel_rfl) (by simp) ?_
               refine AllReadyH.cons (o := { dst := none, op := Op.store 53 (Operand.tmp 60) (Operand.tmp 59), type := 0, pos := "l03_normal.go:45", after := #[{ on := 13, ground := Ground.data }, { on := 12, ground := Ground.data }, { on := 12, ground := Ground.chain }, { on := 0, ground := Ground.phase }, { on := 1, ground := Ground.phase }, { on := 2, ground := Ground.phase }, { on := 3, ground := Ground.phase }, { on := 4, ground := Ground.phase }, { on := 5, ground := Ground.phase }, { on := 6, ground := Ground.phase }, { on := 7, ground := Ground.phase }, { on := 8, ground := Ground.phase }, { on := 9, ground := Ground.phase }, { on := 10, ground := Ground.phase }, { on := 11, ground := Ground.phase }, { on := 12, ground := Ground.phase }], guard := none }) rfl (fun K hK => ?_) ?_
               ·go_simp
                refine hK.out _ _ ?_ (fun hHeld => ?_)
                ·(first | with_reducible exact RP.out.flat | with_reducible exact (RP.out.pastAt gb _ gpne _ _ _ _ _ _ _ _).flat)
                clear hK K
                try simp only [Act.put, List.setIfInBounds_toArray, List.set_cons_zero, List.set_cons_succ]
                refine wpAnyH_done (by kernel_rfl) ?_ _
                replace F := Lib.hid (F.out.store (k + 1) (by omega) (thenR m (backR m pm) rb) (mapR_len _ _ m8))
                go_wp2
                go_roundg k
                case measure => omega
                case rel =>
                 have e1 : both m (rowAt rows k) (rowAt rows (k + 1)) = (thenR m ra pm, thenR m (backR m pm) rb) := by rw [← HA.out, ← HB.out, HPM.out]; rfl
                 have e2 := P.out.move (by rw [hrl.out]; omega) (by rw [← HA.out, ← HB.out, ← HPM.out]; exact HE.out)
                 rw [e1] at e2
                 exact ⟨_, k, true, rfl, by omega, by go_num, rfl, F.out.own, F.out.bel, e2⟩
               exact AllReadyH.nil
              exact AllReadyH.nil
             exact AllReadyH.nil
            exact AllReadyH.nil
           exact AllReadyH.nil
          exact AllReadyH.nil
         exact AllReadyH.nil
        exact AllReadyH.nil
       exact AllReadyH.nil
  ·have hg0 : gk = 0 := by omega
   subst hg0
   go_wp2
   go_ret
   exact ⟨_, _, c2, l', rfl, O.out, B.out, by rw [HLL.out, HL.out], HS.out, HD.out trivial, HN.out⟩

end Go.Proofs.Ytpkhddndapcpjaa

