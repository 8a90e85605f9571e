/- The model: turns of a row. -/
import Derived.Test.YthelncibpoijoaaPSRow
import Derived.Test.YthelncibpoijoaaPtK
import Derived.Test.YthelncibpoijoaaQA
import Derived.Deep.DeepCutAuto
namespace Go.Proofs.Ythelncibpoijoaa
open Go.RowKit Go.ChangeShapes

set_option maxRecDepth 100000 in
set_option maxHeartbeats 4000000 in
theorem l07Turn_any (n : Nat) (k : Int) (hk : -8 ≤ k ∧ k ≤ 8) (p : List Int) (hp : Sim n p) (w : World) :
    Calls Try.prog 59 #[arr8 .u8 p, .int .i64 n, .int .i64 k] w (RetArr .u8 w (rotR n k p)) := by
  have h1 := hp.lo
  have h8 := hp.hi
  have lp := hp.len
  have HP := Lib.hid hp
  clear hp
  obtain ⟨hk1, hk2⟩ := hk
  go_enter Try.func59, Try.ntmps59
  have RA := Lib.hid (((Row8.place w .u8 p 24 w.heap.size rfl lp).alloc (.cells #[.int .u8 0, .int .u8 0, .int .u8 0, .int .u8 0, .int .u8 0, .int .u8 0, .int .u8 0, .int .u8 0] 24)).alloc (.cells #[.int .u8 0, .int .u8 0, .int .u8 0, .int .u8 0, .int .u8 0, .int .u8 0, .int .u8 0, .int .u8 0] 24))
  have RZ := Lib.hid ((Row8.zeros (w.alloc (.cells #[.int .u8 (at8 p 0), .int .u8 (at8 p 1), .int .u8 (at8 p 2), .int .u8 (at8 p 3), .int .u8 (at8 p 4), .int .u8 (at8 p 5), .int .u8 (at8 p 6), .int .u8 (at8 p 7)] 24)) .u8 24 (w.heap.size + 1) (by simp)).alloc (.cells #[.int .u8 0, .int .u8 0, .int .u8 0, .int .u8 0, .int .u8 0, .int .u8 0, .int .u8 0, .int .u8 0] 24))
  have RO := Lib.hid (Row8.zeros ((w.alloc (.cells #[.int .u8 (at8 p 0), .int .u8 (at8 p 1), .int .u8 (at8 p 2), .int .u8 (at8 p 3), .int .u8 (at8 p 4), .int .u8 (at8 p 5), .int .u8 (at8 p 6), .int .u8 (at8 p 7)] 24)).alloc (.cells #[.int .u8 0, .int .u8 0, .int .u8 0, .int .u8 0, .int .u8 0, .int .u8 0, .int .u8 0, .int .u8 0] 24)) .u8 24 (w.heap.size + 1 + 1) (by simp))
  have BB := Lib.hid (below3 w (.cells #[.int .u8 (at8 p 0), .int .u8 (at8 p 1), .int .u8 (at8 p 2), .int .u8 (at8 p 3), .int .u8 (at8 p 4), .int .u8 (at8 p 5), .int .u8 (at8 p 6), .int .u8 (at8 p 7)] 24) (.cells #[.int .u8 0, .int .u8 0, .int .u8 0, .int .u8 0, .int .u8 0, .int .u8 0, .int .u8 0, .int .u8 0] 24) (.cells #[.int .u8 0, .int .u8 0, .int .u8 0, .int .u8 0, .int .u8 0, .int .u8 0, .int .u8 0, .int .u8 0] 24))
  clear lp
  obtain ⟨W, hW⟩ : ∃ W, W = (((w.alloc (.cells #[.int .u8 (at8 p 0), .int .u8 (at8 p 1), .int .u8 (at8 p 2), .int .u8 (at8 p 3), .int .u8 (at8 p 4), .int .u8 (at8 p 5), .int .u8 (at8 p 6), .int .u8 (at8 p 7)] 24)).alloc (.cells #[.int .u8 0, .int .u8 0, .int .u8 0, .int .u8 0, .int .u8 0, .int .u8 0, .int .u8 0, .int .u8 0] 24)).alloc (.cells #[.int .u8 0, .int .u8 0, .int .u8 0, .int .u8 0, .int .u8 0, .int .u8 0, .int .u8 0, .int .u8 0] 24)) := ⟨_, rfl⟩
  go_wp2
  rw [← hW] at RA RZ RO BB ⊢
  clear hW
  go_loopw [8] (fun i wr => ∃ x : Nat, x ≤ n ∧ i = .int .i64 x ∧ Row8 wr w.heap.size .u8 p ∧ Row8 wr (w.heap.size + 1) .u8 [0, 0, 0, 0, 0, 0, 0, 0] ∧ Row8 wr (w.heap.size + 1 + 1) .u8 (tnR n k p x) ∧ Below w.heap.size w wr) (fun i _ => n - (intOf i).toNat)
  case atStart => exact ⟨0, Nat.zero_le _, rfl, RA.out, RZ.out, RO.out, BB.out⟩
  case round =>
    obtain ⟨x, hx, rfl, hRA, hRZ, hRO, hBB⟩ := hrel
    clear RA RZ RO BB
    have RA := Lib.hid hRA
    have RZ := Lib.hid hRZ
    have RO := Lib.hid hRO
    have BB := Lib.hid hBB
    clear hRA hRZ hRO hBB
    by_cases hlt : x < n
    · have HST := Lib.hid (tnR_step n k p x)
      obtain ⟨v1, v2⟩ := HP.out.bd x hlt
      obtain ⟨v, hv⟩ : ∃ v : Nat, at8 p x = (v : Int) := ⟨(at8 p x).toNat, by omega⟩
      have hm1 := rotN_mod n h1 k x
      have hm2 := rotN_mod n h1 k v
      have hb1 := rotN_bd n h1 k x
      have hb2 := rotN_bd n h1 k v
      have ht1 := Int.lt_tmod_of_pos ((x : Int) + k) (show (0 : Int) < n by omega)
      have ht2 := Int.tmod_lt_of_pos ((x : Int) + k) (show (0 : Int) < n by omega)
      have ht3 := Int.lt_tmod_of_pos ((v : Int) + k) (show (0 : Int) < n by omega)
      have ht4 := Int.tmod_lt_of_pos ((v : Int) + k) (show (0 : Int) < n by omega)
      rw [hv] at v1 v2 HST
      obtain ⟨i, hi⟩ : ∃ i : Nat, rotN n k x = i := ⟨(rotN n k x).toNat, by omega⟩
      obtain ⟨u, hu⟩ : ∃ u : Nat, rotN n k v = u := ⟨(rotN n k v).toNat, by omega⟩
      rw [hi] at hm1 hb1 HST
      rw [hu] at hm2 hb2 HST
      rw [Int.toNat_natCast] at HST
      have HV := Lib.hid hv
      obtain ⟨a1, ha1⟩ : ∃ a, a = ((x : Int) + k).tmod n := ⟨_, rfl⟩
      obtain ⟨a2, ha2⟩ : ∃ a, a = ((v : Int) + k).tmod n := ⟨_, rfl⟩
      rw [← ha1] at hm1 ht1 ht2
      rw [← ha2] at hm2 ht3 ht4
      have t1 := ha1.symm
      have t2 := ha2.symm
      have wx0 : IntKind.i64.wrap (v : Int) = v := IntWalk.i64_in _ (by omega)
      have wx1 : IntKind.i64.wrap ((x : Int) + k) = x + k := IntWalk.i64_in _ (by omega)
      have wx2 : IntKind.i64.wrap (a1 + n) = a1 + n := IntWalk.i64_in _ (by omega)
      have wx3 : IntKind.i64.wrap ((v : Int) + k) = v + k := IntWalk.i64_in _ (by omega)
      have wx4 : IntKind.i64.wrap (a2 + n) = a2 + n := IntWalk.i64_in _ (by omega)
      have wx5 : IntKind.i64.wrap a1 = a1 := IntWalk.i64_in _ (by omega)
      have wx6 : IntKind.i64.wrap a2 = a2 := IntWalk.i64_in _ (by omega)
      have wx7 : IntKind.i64.wrap (i : Int) = i := IntWalk.i64_in _ (by omega)
      have wx8 : IntKind.i64.wrap (u : Int) = u := IntWalk.i64_in _ (by omega)
      have b4 : ((n : Int) == 0) = false := by rw [beq_eq_false_iff_ne]; omega
      have b5 : ¬ n = 0 := by omega
      have b6 : (x : Int) < 8 := by omega
      have b7 : (i : Int) < 8 := by omega
      have b8 : IntKind.u8.wrap (u : Int) = u := IntWalk.u8_in _ (by omega)
      have hi8 : i < 8 := by omega
      have hu8 : u < 8 := by omega
      clear hi hu hv ha1 ha2
      have z2 := RO.out.lt
      go_upto_region 5 with fail
      have CV : (wr.drew).cell? ⟨w.heap.size, x, none⟩ = some (.int .u8 (v : Int)) := by rw [← HV.out]; exact RA.out.drew.cell x (by omega)
      have f3 := RO.out.drew.free i (by omega)
      refine wp_region_held_drew (S := (fun w' => w'.cell? ⟨w.heap.size, x, none⟩ = some (.int .u8 (v : Int)))) (by kernel_rfl) ?_ (fun hHeld => ?_)
      · with_reducible exact CV
      refine wpAnyH_take (i := 0) (oi := { dst := some 15, op := Op.move (Operand.tmp 8), type := 2, pos := "l07_bands.go:227", after := #[], guard := none }) (v := ?_) rfl (by kernel_rfl) (by kernel_rfl) (by kernel_rfl) (fun _ _ _ h => h) (Or.inl ⟨by rfl, ?_⟩) (by assumption) ?_
      rotate_left
      · intro w hSw
        (try dsimp only at hSw)
        go_simp
        try with_reducible rfl
      try simp only [Act.put, List.setIfInBounds_toArray, List.set_cons_zero, List.set_cons_succ]
      refine wpAnyH_take (i := 1) (oi := { dst := some 16, op := Op.move (Operand.tmp 2), type := 2, pos := "l07_bands.go:227", after := #[], guard := none }) (v := ?_) rfl (by kernel_rfl) (by kernel_rfl) (by kernel_rfl) (fun _ _ _ h => h) (Or.inl ⟨by rfl, ?_⟩) (by assumption) ?_
      rotate_left
      · intro w hSw
        (try dsimp only at hSw)
        go_simp
        try with_reducible rfl
      try simp only [Act.put, List.setIfInBounds_toArray, List.set_cons_zero, List.set_cons_succ]
      refine wpAnyH_take (i := 2) (oi := { dst := some 17, op := Op.binOp BinOp.add 2 (Operand.tmp 15) (Operand.tmp 16) 2, type := 2, pos := "l07_bands.go:227", after := #[{ on := 0, ground := Ground.data }, { on := 1, ground := Ground.data }], guard := none }) (v := ?_) rfl (by kernel_rfl) (by kernel_rfl) (by kernel_rfl) (fun _ _ _ h => h) (Or.inl ⟨by rfl, ?_⟩) (by assumption) ?_
      rotate_left
      · intro w hSw
        (try dsimp only at hSw)
        go_simp
        try with_reducible rfl
      try simp only [Act.put, List.setIfInBounds_toArray, List.set_cons_zero, List.set_cons_succ]
      refine wpAnyH_take (i := 3) (oi := { dst := some 18, op := Op.move (Operand.tmp 1), type := 2, pos := "l07_bands.go:227", after := #[], guard := none }) (v := ?_) rfl (by kernel_rfl) (by kernel_rfl) (by kernel_rfl) (fun _ _ _ h => h) (Or.inl ⟨by rfl, ?_⟩) (by assumption) ?_
      rotate_left
      · intro w hSw
        (try dsimp only at hSw)
        go_simp
        try with_reducible rfl
      try simp only [Act.put, List.setIfInBounds_toArray, List.set_cons_zero, List.set_cons_succ]
      refine wpAnyH_take (i := 4) (oi := { dst := some 19, op := Op.binOp BinOp.rem 2 (Operand.tmp 17) (Operand.tmp 18) 2, type := 2, pos := "l07_bands.go:227", after := #[{ on := 2, ground := Ground.data }, { on := 3, ground := Ground.data }], guard := none }) (v := ?_) rfl (by kernel_rfl) (by kernel_rfl) (by kernel_rfl) (fun _ _ _ h => h) (Or.inl ⟨by rfl, ?_⟩) (by assumption) ?_
      rotate_left
      · intro w hSw
        (try dsimp only at hSw)
        go_simp
        try with_reducible rfl
      try simp only [Act.put, List.setIfInBounds_toArray, List.set_cons_zero, List.set_cons_succ]
      refine wpAnyH_take (i := 5) (oi := { dst := some 20, op := Op.move (Operand.tmp 1), type := 2, pos := "l07_bands.go:227", after := #[], guard := none }) (v := ?_) rfl (by kernel_rfl) (by kernel_rfl) (by kernel_rfl) (fun _ _ _ h => h) (Or.inl ⟨by rfl, ?_⟩) (by assumption) ?_
      rotate_left
      · intro w hSw
        (try dsimp only at hSw)
        go_simp
        try with_reducible rfl
      try simp only [Act.put, List.setIfInBounds_toArray, List.set_cons_zero, List.set_cons_succ]
      refine wpAnyH_take (i := 6) (oi := { dst := some 21, op := Op.binOp BinOp.add 2 (Operand.tmp 19) (Operand.tmp 20) 2, type := 2, pos := "l07_bands.go:227", after := #[{ on := 4, ground := Ground.data }, { on := 5, ground := Ground.data }], guard := none }) (v := ?_) rfl (by kernel_rfl) (by kernel_rfl) (by kernel_rfl) (fun _ _ _ h => h) (Or.inl ⟨by rfl, ?_⟩) (by assumption) ?_
      rotate_left
      · intro w hSw
        (try dsimp only at hSw)
        go_simp
        try with_reducible rfl
      try simp only [Act.put, List.setIfInBounds_toArray, List.set_cons_zero, List.set_cons_succ]
      refine wpAnyH_take (i := 7) (oi := { dst := some 22, op := Op.move (Operand.tmp 1), type := 2, pos := "l07_bands.go:227", after := #[], guard := none }) (v := ?_) rfl (by kernel_rfl) (by kernel_rfl) (by kernel_rfl) (fun _ _ _ h => h) (Or.inl ⟨by rfl, ?_⟩) (by assumption) ?_
      rotate_left
      · intro w hSw
        (try dsimp only at hSw)
        go_simp
        try with_reducible rfl
      try simp only [Act.put, List.setIfInBounds_toArray, List.set_cons_zero, List.set_cons_succ]
      refine wpAnyH_take (i := 8) (oi := { dst := some 23, op := Op.binOp BinOp.rem 2 (Operand.tmp 21) (Operand.tmp 22) 2, type := 2, pos := "l07_bands.go:227", after := #[{ on := 6, ground := Ground.data }, { on := 7, ground := Ground.data }], guard := none }) (v := ?_) rfl (by kernel_rfl) (by kernel_rfl) (by kernel_rfl) (fun _ _ _ h => h) (Or.inl ⟨by rfl, ?_⟩) (by assumption) ?_
      rotate_left
      · intro w hSw
        (try dsimp only at hSw)
        go_simp
        try with_reducible rfl
      try simp only [Act.put, List.setIfInBounds_toArray, List.set_cons_zero, List.set_cons_succ]
      refine wpAnyH_take (i := 9) (oi := { dst := some 24, op := Op.move (Operand.tmp 8), type := 2, pos := "l07_bands.go:227", after := #[], guard := none }) (v := ?_) rfl (by kernel_rfl) (by kernel_rfl) (by kernel_rfl) (fun _ _ _ h => h) (Or.inl ⟨by rfl, ?_⟩) (by assumption) ?_
      rotate_left
      · intro w hSw
        (try dsimp only at hSw)
        go_simp
        try with_reducible rfl
      try simp only [Act.put, List.setIfInBounds_toArray, List.set_cons_zero, List.set_cons_succ]
      refine wpAnyH_take (i := 10) (oi := { dst := some 25, op := Op.indexAddr 24 (Operand.tmp 3) (Operand.tmp 24), type := 0, pos := "l07_bands.go:227", after := #[{ on := 9, ground := Ground.data }], guard := none }) (v := ?_) rfl (by kernel_rfl) (by kernel_rfl) (by kernel_rfl) (fun _ _ _ h => h) (Or.inl ⟨by rfl, ?_⟩) (by assumption) ?_
      rotate_left
      · intro w hSw
        (try dsimp only at hSw)
        go_simp
        try with_reducible rfl
      try simp only [Act.put, List.setIfInBounds_toArray, List.set_cons_zero, List.set_cons_succ]
      refine wpAnyH_take (i := 11) (oi := { dst := some 26, op := Op.load 5 (Operand.tmp 25), type := 5, pos := "l07_bands.go:227", after := #[{ on := 10, ground := Ground.data }], guard := none }) (v := ?_) rfl (by kernel_rfl) (by kernel_rfl) (by kernel_rfl) (fun _ _ _ h => h) (Or.inl ⟨by rfl, ?_⟩) (by assumption) ?_
      rotate_left
      · intro w hSw
        (try dsimp only at hSw)
        go_simp
        try with_reducible rfl
      try simp only [Act.put, List.setIfInBounds_toArray, List.set_cons_zero, List.set_cons_succ]
      refine wpAnyH_take (i := 12) (oi := { dst := some 27, op := Op.convert 5 2 (Operand.tmp 26), type := 2, pos := "l07_bands.go:227", after := #[{ on := 11, ground := Ground.data }], guard := none }) (v := ?_) rfl (by kernel_rfl) (by kernel_rfl) (by kernel_rfl) (fun _ _ _ h => h) (Or.inl ⟨by rfl, ?_⟩) (by assumption) ?_
      rotate_left
      · intro w hSw
        (try dsimp only at hSw)
        go_simp
        try with_reducible rfl
      try simp only [Act.put, List.setIfInBounds_toArray, List.set_cons_zero, List.set_cons_succ]
      refine wpAnyH_take (i := 13) (oi := { dst := some 28, op := Op.move (Operand.tmp 2), type := 2, pos := "l07_bands.go:227", after := #[], guard := none }) (v := ?_) rfl (by kernel_rfl) (by kernel_rfl) (by kernel_rfl) (fun _ _ _ h => h) (Or.inl ⟨by rfl, ?_⟩) (by assumption) ?_
      rotate_left
      · intro w hSw
        (try dsimp only at hSw)
        go_simp
        try with_reducible rfl
      try simp only [Act.put, List.setIfInBounds_toArray, List.set_cons_zero, List.set_cons_succ]
      refine wpAnyH_take (i := 14) (oi := { dst := some 29, op := Op.binOp BinOp.add 2 (Operand.tmp 27) (Operand.tmp 28) 2, type := 2, pos := "l07_bands.go:227", after := #[{ on := 12, ground := Ground.data }, { on := 13, ground := Ground.data }], guard := none }) (v := ?_) rfl (by kernel_rfl) (by kernel_rfl) (by kernel_rfl) (fun _ _ _ h => h) (Or.inl ⟨by rfl, ?_⟩) (by assumption) ?_
      rotate_left
      · intro w hSw
        (try dsimp only at hSw)
        go_simp
        try with_reducible rfl
      try simp only [Act.put, List.setIfInBounds_toArray, List.set_cons_zero, List.set_cons_succ]
      refine wpAnyH_take (i := 15) (oi := { dst := some 30, op := Op.move (Operand.tmp 1), type := 2, pos := "l07_bands.go:227", after := #[], guard := none }) (v := ?_) rfl (by kernel_rfl) (by kernel_rfl) (by kernel_rfl) (fun _ _ _ h => h) (Or.inl ⟨by rfl, ?_⟩) (by assumption) ?_
      rotate_left
      · intro w hSw
        (try dsimp only at hSw)
        go_simp
        try with_reducible rfl
      try simp only [Act.put, List.setIfInBounds_toArray, List.set_cons_zero, List.set_cons_succ]
      refine wpAnyH_take (i := 16) (oi := { dst := some 31, op := Op.binOp BinOp.rem 2 (Operand.tmp 29) (Operand.tmp 30) 2, type := 2, pos := "l07_bands.go:227", after := #[{ on := 14, ground := Ground.data }, { on := 15, ground := Ground.data }], guard := none }) (v := ?_) rfl (by kernel_rfl) (by kernel_rfl) (by kernel_rfl) (fun _ _ _ h => h) (Or.inl ⟨by rfl, ?_⟩) (by assumption) ?_
      rotate_left
      · intro w hSw
        (try dsimp only at hSw)
        go_simp
        try with_reducible rfl
      try simp only [Act.put, List.setIfInBounds_toArray, List.set_cons_zero, List.set_cons_succ]
      refine wpAnyH_take (i := 17) (oi := { dst := some 32, op := Op.move (Operand.tmp 1), type := 2, pos := "l07_bands.go:227", after := #[], guard := none }) (v := ?_) rfl (by kernel_rfl) (by kernel_rfl) (by kernel_rfl) (fun _ _ _ h => h) (Or.inl ⟨by rfl, ?_⟩) (by assumption) ?_
      rotate_left
      · intro w hSw
        (try dsimp only at hSw)
        go_simp
        try with_reducible rfl
      try simp only [Act.put, List.setIfInBounds_toArray, List.set_cons_zero, List.set_cons_succ]
      refine wpAnyH_take (i := 18) (oi := { dst := some 33, op := Op.binOp BinOp.add 2 (Operand.tmp 31) (Operand.tmp 32) 2, type := 2, pos := "l07_bands.go:227", after := #[{ on := 16, ground := Ground.data }, { on := 17, ground := Ground.data }], guard := none }) (v := ?_) rfl (by kernel_rfl) (by kernel_rfl) (by kernel_rfl) (fun _ _ _ h => h) (Or.inl ⟨by rfl, ?_⟩) (by assumption) ?_
      rotate_left
      · intro w hSw
        (try dsimp only at hSw)
        go_simp
        try with_reducible rfl
      try simp only [Act.put, List.setIfInBounds_toArray, List.set_cons_zero, List.set_cons_succ]
      refine wpAnyH_take (i := 19) (oi := { dst := some 34, op := Op.move (Operand.tmp 1), type := 2, pos := "l07_bands.go:227", after := #[], guard := none }) (v := ?_) rfl (by kernel_rfl) (by kernel_rfl) (by kernel_rfl) (fun _ _ _ h => h) (Or.inl ⟨by rfl, ?_⟩) (by assumption) ?_
      rotate_left
      · intro w hSw
        (try dsimp only at hSw)
        go_simp
        try with_reducible rfl
      try simp only [Act.put, List.setIfInBounds_toArray, List.set_cons_zero, List.set_cons_succ]
      refine wpAnyH_take (i := 20) (oi := { dst := some 35, op := Op.binOp BinOp.rem 2 (Operand.tmp 33) (Operand.tmp 34) 2, type := 2, pos := "l07_bands.go:227", after := #[{ on := 18, ground := Ground.data }, { on := 19, ground := Ground.data }], guard := none }) (v := ?_) rfl (by kernel_rfl) (by kernel_rfl) (by kernel_rfl) (fun _ _ _ h => h) (Or.inl ⟨by rfl, ?_⟩) (by assumption) ?_
      rotate_left
      · intro w hSw
        (try dsimp only at hSw)
        go_simp
        try with_reducible rfl
      try simp only [Act.put, List.setIfInBounds_toArray, List.set_cons_zero, List.set_cons_succ]
      refine wpAnyH_take (i := 21) (oi := { dst := some 36, op := Op.convert 2 5 (Operand.tmp 35), type := 5, pos := "l07_bands.go:227", after := #[{ on := 20, ground := Ground.data }], guard := none }) (v := ?_) rfl (by kernel_rfl) (by kernel_rfl) (by kernel_rfl) (fun _ _ _ h => h) (Or.inl ⟨by rfl, ?_⟩) (by assumption) ?_
      rotate_left
      · intro w hSw
        (try dsimp only at hSw)
        go_simp
        try with_reducible rfl
      try simp only [Act.put, List.setIfInBounds_toArray, List.set_cons_zero, List.set_cons_succ]
      refine wpAnyH_take (i := 22) (oi := { dst := some 37, op := Op.indexAddr 24 (Operand.tmp 7) (Operand.tmp 23), type := 0, pos := "l07_bands.go:227", after := #[{ on := 8, ground := Ground.data }, { on := 0, ground := Ground.phase }, { on := 1, ground := Ground.phase }, { on := 2, ground := Ground.phase }, { on := 3, ground := Ground.phase }, { on := 4, ground := Ground.phase }, { on := 5, ground := Ground.phase }, { on := 6, ground := Ground.phase }, { on := 7, ground := Ground.phase }, { on := 8, ground := Ground.phase }, { on := 9, ground := Ground.phase }, { on := 10, ground := Ground.phase }, { on := 11, ground := Ground.phase }, { on := 12, ground := Ground.phase }, { on := 13, ground := Ground.phase }, { on := 14, ground := Ground.phase }, { on := 15, ground := Ground.phase }, { on := 16, ground := Ground.phase }, { on := 17, ground := Ground.phase }, { on := 18, ground := Ground.phase }, { on := 19, ground := Ground.phase }, { on := 20, ground := Ground.phase }, { on := 21, ground := Ground.phase }], guard := none }) (v := ?_) rfl (by kernel_rfl) (by kernel_rfl) (by kernel_rfl) (fun _ _ _ h => h) (Or.inl ⟨by rfl, ?_⟩) (by assumption) ?_
      rotate_left
      · intro w hSw
        (try dsimp only at hSw)
        go_simp
        try with_reducible rfl
      try simp only [Act.put, List.setIfInBounds_toArray, List.set_cons_zero, List.set_cons_succ]
      refine wpAnyH_ready (rs := [23]) (by kernel_rfl) (by simp) ?_
      refine AllReadyH.cons (o := { dst := none, op := Op.store 5 (Operand.tmp 37) (Operand.tmp 36), type := 0, pos := "l07_bands.go:227", after := #[{ on := 22, ground := Ground.data }, { on := 21, ground := Ground.data }, { on := 0, ground := Ground.phase }, { on := 1, ground := Ground.phase }, { on := 2, ground := Ground.phase }, { on := 3, ground := Ground.phase }, { on := 4, ground := Ground.phase }, { on := 5, ground := Ground.phase }, { on := 6, ground := Ground.phase }, { on := 7, ground := Ground.phase }, { on := 8, ground := Ground.phase }, { on := 9, ground := Ground.phase }, { on := 10, ground := Ground.phase }, { on := 11, ground := Ground.phase }, { on := 12, ground := Ground.phase }, { on := 13, ground := Ground.phase }, { on := 14, ground := Ground.phase }, { on := 15, ground := Ground.phase }, { on := 16, ground := Ground.phase }, { on := 17, ground := Ground.phase }, { on := 18, ground := Ground.phase }, { on := 19, ground := Ground.phase }, { on := 20, ground := Ground.phase }, { on := 21, ground := Ground.phase }], guard := none }) rfl (fun K hK => ?_) ?_
      · have c3 := RO.out.drew.cell i (by omega)
        go_simp
        replace CV : ((wr.setCell ⟨w.heap.size + 1 + 1, i, none⟩ (.int .u8 (u : Int))).drew).cell? ⟨w.heap.size, x, none⟩ = some (.int .u8 (v : Int)) := (show (wr.setCell ⟨w.heap.size + 1 + 1, i, none⟩ (.int .u8 (u : Int))).cell? ⟨w.heap.size, x, none⟩ = _ from (World.cell?_setCell_other _ _ _ _ (by simp)).trans CV)
        refine hK.out _ _ ?_ (fun hHeld => ?_)
        · with_reducible exact CV
        clear hK K
        try simp only [Act.put, List.setIfInBounds_toArray, List.set_cons_zero, List.set_cons_succ]
        refine wpAnyH_done (by kernel_rfl) ?_ _
        go_wp2
        go_roundw
        case rel =>
          refine ⟨x + 1, by omega, by go_num, (RA.out.setCell (by first | (simp; done) | (simp; omega)) _).drew, (RZ.out.setCell (by first | (simp; done) | (simp; omega)) _).drew, ?_, (BB.out.setCell (by first | (simp; done) | (simp; omega)) _).drew⟩
          rw [HST.out]
          exact (RO.out.store i (by omega) u).drew
        case measure => first | (simp [intOf]; done) | (simp [intOf]; omega)
      exact AllReadyH.nil
    · have hkn : x = n := by omega
      subst hkn
      have HE := Lib.hid (tnR_end x h1 h8 k p)
      have RE : Hid (Row8 wr (w.heap.size + 1 + 1) .u8 (rotR x k p)) := Lib.hid (by rw [← HE.out]; exact RO.out)
      clear RO
      obtain ⟨⟨c0, c1, c2, c3⟩, c4, c5, c6, c7⟩ := RE.out.all
      obtain ⟨⟨d0, d1, d2, d3⟩, d4, d5, d6, d7⟩ := RZ.out.all
      obtain ⟨⟨f0, f1, f2, f3⟩, f4, f5, f6, f7⟩ := RZ.out.frees
      have zq := RZ.out.lt
      go_wp2
      obtain ⟨⟨e0, e1, e2, e3⟩, e4, e5, e6, e7⟩ := (RZ.out.fill (rotR x k p) RE.out.len).all
      refine bodyPost_ret (v := arr8 .u8 (rotR x k p)) (by simp [results, Try.results59, go_sem, e0, e1, e2, e3, e4, e5, e6, e7]) rfl ⟨rfl, ?_⟩
      exact below_fill8 BB.out _ (by omega) _ _ _ _ _ _ _ _

end Go.Proofs.Ythelncibpoijoaa
