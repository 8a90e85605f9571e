/- Words of normal forms: the program. -/
import Derived.Test.YteffndmifogicaaNWord
import Derived.Test.YteffndmifogicaaPwdN
import Derived.BigQuiet
namespace Go.Proofs.Yteffndmifogicaa
open Go.RowKit Go.ChangeShapes

theorem head_pwd {m : Nat} {p : Int} {half : List Int} (h : half = takeR m [halfR m]) : headW m p = pwd half p := by
  unfold headW pwd
  rw [← h]
  by_cases hp : p < 0
  · rw [if_neg (by omega), if_pos hp, show (-p).toNat = p.natAbs by omega]
    rfl
  · rw [if_pos (by omega), if_neg hp, show p.toNat = p.natAbs by omega]
    rfl

set_option maxRecDepth 100000 in
set_option maxHeartbeats 2000000 in
theorem implWordOfNormal_any (s p : Int) (a : Option Addr) (n cap : Nat) (rs : List (List Int)) (w : World) (hr : ReadsA w a n rs) (_hy : BytesA rs) (hn : n ≤ 1048576) (fxs : List Int) (fc : Int) (hM : mNWord s p rs = (fxs, fc)) :
    Calls Try.prog 20 #[.agg #[.int .i64 s, .int .i64 p, .slice a n cap]] w (RetInts w fxs fc) := by
  have HR := Lib.hid hr; clear hr
  have R := Lib.hid HR.out
  obtain ⟨i0, hi, hz0, hz1, hz2⟩ := info_parts infoInt
  cases hB : normB s p rs with
  | true =>
    obtain ⟨m, rfl, m1, m8⟩ := norm_strands hB
    have HM := Lib.hid hM; clear hM
    have HL := Lib.hid HR.out.len
    have H8 := Lib.hid HR.out.rows
    have HS := Lib.hid (norm_sims H8.out hB)
    obtain ⟨p1, p2, n2⟩ := norm_small hB
    rw [HL.out] at n2
    go_enter Try.func20, Try.ntmps20
    have A := Lib.hid (At3.place w (.int .i64 m) (.int .i64 p) (.slice a n cap) 28 w.heap.size rfl)
    have B := Lib.hid (below1 w (.cells #[.int .i64 m, .int .i64 p, .slice a n cap] 28))
    replace HR := Lib.hid (HR.out.alloc (.cells #[.int .i64 m, .int .i64 p, .slice a n cap] 28))
    obtain ⟨q1, q2, q3⟩ := A.out.cells
    go_wp2_with fail
    refine (implIsNormal_any m p a n cap rs _ HR.out hn).mono ?_
    rw [hB]
    rintro e w1 ⟨rfl, hb⟩
    clear q1 q2 q3
    replace A := Lib.hid (A.out.below hb)
    replace B := Lib.hid (below_go B.out hb B.out.size)
    replace HR := Lib.hid (HR.out.below hb)
    have z1 : w.heap.size + 1 ≤ w1.heap.size := by have := hb.size; simpa using this
    clear hb
    have HB := Lib.hid hB
    clear hB
    obtain ⟨q1, q2, q3⟩ := A.out.cells
    obtain ⟨half, hhalf⟩ : ∃ half, half = takeR m [halfR m] := ⟨_, rfl⟩
    have hwl := word_len (halfR_sim m m1 m8)
    rw [← hhalf] at hwl
    have HSM : Hid (Small half) := Lib.hid (by rw [hhalf]; exact word_small m8 _)
    have HT : Hid (headW m p = pwd half p) := Lib.hid (head_pwd hhalf)
    have HH := Lib.hid hhalf
    clear hhalf
    have SH : Hid (∀ X, Below w1.heap.size w1 X → X.cell? ⟨w.heap.size, 1, none⟩ = some (.int .i64 p)) := Lib.hid fun X h => (A.out.below h).cells.2.1
    have KB : Hid (Below w1.heap.size w1 w1.drew) := Lib.hid (Below.refl w1.heap.size w1).drew
    go_upto_region 4 with fail
    clear q1 q2 q3
    refine wp_region_held_drew (S := (fun w' => w'.cell? ⟨w.heap.size, 1, none⟩ = some (.int .i64 p))) (by kernel_rfl) ?_ (fun hHeld => ?_)
    · with_reducible exact SH.out _ KB.out
    refine wpAnyH_take (i := 0) (oi := { dst := some 13, op := Op.move (Operand.tmp 4), type := 2, pos := "l03_normal.go:274", after := #[], guard := none }) (v := ?_) rfl (by kernel_rfl) (by kernel_rfl) (by kernel_rfl) (fun _ _ _ h => h) (Or.inl ⟨by rfl, ?_⟩) (by assumption) ?_
    rotate_left
    · intro w hSw
      (try dsimp only at hSw)
      go_simp
      try with_reducible rfl
    try simp only [Act.put, List.setIfInBounds_toArray, List.set_cons_zero, List.set_cons_succ]
    refine wpAnyH_take (i := 1) (oi := { dst := some 14, op := Op.move (Operand.tmp 4), type := 2, pos := "l03_normal.go:274", after := #[], guard := none }) (v := ?_) rfl (by kernel_rfl) (by kernel_rfl) (by kernel_rfl) (fun _ _ _ h => h) (Or.inl ⟨by rfl, ?_⟩) (by assumption) ?_
    rotate_left
    · intro w hSw
      (try dsimp only at hSw)
      go_simp
      try with_reducible rfl
    try simp only [Act.put, List.setIfInBounds_toArray, List.set_cons_zero, List.set_cons_succ]
    refine wpAnyH_take (i := 3) (oi := { dst := some 16, op := Op.move (Operand.tmp 4), type := 2, pos := "l03_normal.go:274", after := #[], guard := none }) (v := ?_) rfl (by kernel_rfl) (by kernel_rfl) (by kernel_rfl) (fun _ _ _ h => h) (Or.inl ⟨by rfl, ?_⟩) (by assumption) ?_
    rotate_left
    · intro w hSw
      (try dsimp only at hSw)
      go_simp
      try with_reducible rfl
    try simp only [Act.put, List.setIfInBounds_toArray, List.set_cons_zero, List.set_cons_succ]
    refine wpAnyH_take (i := 6) (oi := { dst := some 19, op := Op.fieldAddr 28 (Operand.tmp 1) 1, type := 0, pos := "l03_normal.go:274", after := #[], guard := none }) (v := ?_) rfl (by kernel_rfl) (by kernel_rfl) (by kernel_rfl) (fun _ _ _ h => h) (Or.inl ⟨by rfl, ?_⟩) (by assumption) ?_
    rotate_left
    · intro w hSw
      (try dsimp only at hSw)
      go_simp
      try with_reducible rfl
    try simp only [Act.put, List.setIfInBounds_toArray, List.set_cons_zero, List.set_cons_succ]
    refine wpAnyH_take (i := 7) (oi := { dst := some 20, op := Op.load 2 (Operand.tmp 19), type := 2, pos := "l03_normal.go:274", after := #[{ on := 6, ground := Ground.data }], guard := none }) (v := ?_) rfl (by kernel_rfl) (by kernel_rfl) (by kernel_rfl) (fun _ _ _ h => h) (Or.inl ⟨by rfl, ?_⟩) (by assumption) ?_
    rotate_left
    · intro w hSw
      (try dsimp only at hSw)
      go_simp
      try with_reducible rfl
    try simp only [Act.put, List.setIfInBounds_toArray, List.set_cons_zero, List.set_cons_succ]
    refine wpAnyH_ready (rs := [2]) (by kernel_rfl) (by simp) ?_
    refine AllReadyH.cons (o := { dst := some 15, op := Op.call { callee := Callee.value (Operand.func 52), args := #[Operand.tmp 14], argTypes := #[2] }, type := 77, pos := "l03_normal.go:274", after := #[{ on := 1, ground := Ground.data }], guard := none }) rfl (fun K hK => ?_) ?_
    · go_simp
      refine (halfTurn_any m m8 _).mono ?_
      rintro e u1 ⟨rfl, gg⟩
      replace KB := Lib.hid (below_go KB.out gg KB.out.size)
      clear gg
      go_wp2_with fail
      refine hK.out _ _ ?_ (fun hHeld => ?_)
      · with_reducible exact SH.out _ KB.out
      clear hK K
      try simp only [Act.put, List.setIfInBounds_toArray, List.set_cons_zero, List.set_cons_succ]
      refine wpAnyH_ready (rs := [4]) (by kernel_rfl) (by simp) ?_
      refine AllReadyH.cons (o := { dst := some 17, op := Op.call { callee := Callee.value (Operand.func 53), args := #[Operand.tmp 15, Operand.tmp 16], argTypes := #[77, 2] }, type := 35, pos := "l03_normal.go:274", after := #[{ on := 2, ground := Ground.data }, { on := 3, ground := Ground.data }, { on := 2, ground := Ground.chain }], guard := none }) rfl (fun K hK => ?_) ?_
      · go_simp
        refine (word_any m (halfR m) (halfR_sim m m1 m8) _).mono ?_
        rw [← HH.out]
        rintro e u2 ⟨a3, n3, c3, rfl, hm3, ho, gg⟩
        obtain rfl : half.length = n3 := ho.len
        replace KB := Lib.hid (below_go KB.out gg KB.out.size)
        have O := Lib.hid ho.reads
        clear ho gg hm3
        go_wp2_with fail
        refine hK.out _ _ ?_ (fun hHeld => ?_)
        · with_reducible exact SH.out _ KB.out
        clear hK K
        try simp only [Act.put, List.setIfInBounds_toArray, List.set_cons_zero, List.set_cons_succ]
        refine wpAnyH_ready (rs := [5]) (by kernel_rfl) (by simp) ?_
        refine AllReadyH.cons (o := { dst := some 18, op := Op.build 41 #[(0, Operand.tmp 13), (1, Operand.tmp 17)], type := 41, pos := "l03_normal.go:274", after := #[{ on := 0, ground := Ground.data }, { on := 4, ground := Ground.data }], guard := none }) rfl (fun K hK => ?_) ?_
        · go_simp
          refine hK.out _ _ ?_ (fun hHeld => ?_)
          · with_reducible exact SH.out _ KB.out
          clear hK K
          try simp only [Act.put, List.setIfInBounds_toArray, List.set_cons_zero, List.set_cons_succ]
          refine wpAnyH_ready (rs := [8]) (by kernel_rfl) (by simp) ?_
          refine AllReadyH.cons (o := { dst := some 21, op := Op.call { callee := Callee.value (Operand.func 51), args := #[Operand.tmp 18, Operand.tmp 20], argTypes := #[41, 2] }, type := 41, pos := "l03_normal.go:274", after := #[{ on := 5, ground := Ground.data }, { on := 7, ground := Ground.data }, { on := 4, ground := Ground.chain }], guard := none }) rfl (fun K hK => ?_) ?_
          · go_simp
            refine (powered_any (m : Int) a3 half.length c3 half p _ O.out HSM.out (by omega) (by omega) (Nat.le_trans (Nat.mul_le_mul (show p.natAbs ≤ 200 by omega) (show half.length ≤ 196 by omega)) (by omega))).mono ?_
            rintro e v1 ⟨a6, n6, c6, rfl, ho, gg⟩
            rw [← HT.out] at ho
            obtain rfl : (headW m p).length = n6 := ho.len
            have O6 : Hid (Own (w.heap.size + 1) v1 a6 (headW m p).length c6 (headW m p)) := Lib.hid (ho.mono (by have := KB.out.size; omega))
            have hfd : ∀ v : World, (Instr.field 41 (.agg #[.int .i64 m, .slice a6 (headW m p).length c6]) 1).run Try.prog v = .ok (.slice a6 (headW m p).length c6) v := fun _ => by kernel_rfl
            replace KB := Lib.hid (below_go KB.out gg KB.out.size)
            clear ho gg
            go_wp2_with fail
            refine hK.out _ _ ?_ (fun hHeld => ?_)
            · with_reducible exact SH.out _ KB.out
            clear hK K
            try simp only [Act.put, List.setIfInBounds_toArray, List.set_cons_zero, List.set_cons_succ]
            refine wpAnyH_take (i := 9) (oi := { dst := some 22, op := Op.field 41 (Operand.tmp 21) 1, type := 35, pos := "l03_normal.go:274", after := #[{ on := 8, ground := Ground.data }], guard := none }) (v := ?_) rfl (by kernel_rfl) (by kernel_rfl) (by kernel_rfl) (fun _ _ _ h => h) (Or.inl ⟨by rfl, ?_⟩) (by assumption) ?_
            rotate_left
            · intro w hSw
              (try dsimp only at hSw)
              go_simp
              try with_reducible rfl
            try simp only [Act.put, List.setIfInBounds_toArray, List.set_cons_zero, List.set_cons_succ]
            refine wpAnyH_ready (rs := [10]) (by kernel_rfl) (by simp) ?_
            refine AllReadyH.cons (o := { dst := some 5, op := Op.assign (Operand.tmp 22), type := 35, pos := "l03_normal.go:274", after := #[{ on := 9, ground := Ground.data }, { on := 8, ground := Ground.chain }, { on := 0, ground := Ground.phase }, { on := 1, ground := Ground.phase }, { on := 2, ground := Ground.phase }, { on := 3, ground := Ground.phase }, { on := 4, ground := Ground.phase }, { on := 5, ground := Ground.phase }, { on := 6, ground := Ground.phase }, { on := 7, ground := Ground.phase }, { on := 8, ground := Ground.phase }, { on := 9, ground := Ground.phase }], guard := none }) rfl (fun K hK => ?_) ?_
            · go_simp
              refine hK.out _ _ ?_ (fun hHeld => ?_)
              · with_reducible exact SH.out _ KB.out
              clear hK K
              try simp only [Act.put, List.setIfInBounds_toArray, List.set_cons_zero, List.set_cons_succ]
              refine wpAnyH_done (by kernel_rfl) ?_ _
              have F : Hid (AtWord w v1 m p a n cap none 0 [] (.slice a6 (headW m p).length c6) (headW m p)) := Lib.hid ⟨A.out.below KB.out, below_go B.out KB.out B.out.size, O6.out, ⟨rfl, .inl rfl⟩, fun x hx => by cases hx⟩
              clear A B KB SH O6 O hfd
              obtain ⟨q1, q2, q3⟩ := F.out.box.cells
              go_wp2
              clear q1 q2 q3
              go_loopg [5, 26] n (fun g v i wx => ∃ k : Nat, k ≤ n ∧ g + k = n ∧ i = .int .i64 k ∧ AtWord w wx m p a n cap none 0 [] v (headW m p ++ wordsR m rs k))
              case atStart => exact ⟨0, Nat.zero_le _, rfl, rfl, by simpa [wordsR_zero] using F.out⟩
              case round =>
                obtain ⟨k, hk, hgk, rfl, hF⟩ := hrel
                clear F
                have F := Lib.hid hF
                clear hF
                have hhl := headW_len m p m1 m8 ⟨p1, p2⟩
                have hwl := wordsR_len k (by rw [HL.out]; exact hk) HS.out
                by_cases hlt : k < n
                · obtain ⟨b, off, rfl, hbl, hcl⟩ := R.out.cells (Nat.lt_of_le_of_lt (Nat.zero_le _) hlt)
                  have hC : Cells8 wr b (off + k * 8) (rowAt rs k) := fun i hi => (F.out.bel.cell (by exact hbl)).trans (hcl k hlt i hi)
                  clear hbl hcl
                  have HR8 := Lib.hid (H8.out.at (j := k) (by rw [HL.out]; exact hlt))
                  obtain ⟨row, hrow⟩ : ∃ row, row = rowAt rs k := ⟨_, rfl⟩
                  have SR : Hid (Sim m row) := Lib.hid (by rw [hrow]; exact HS.out k (by rw [HL.out]; exact hlt))
                  rw [← hrow] at hC HR8
                  have HROW := Lib.hid hrow
                  clear hrow
                  obtain ⟨c0, c1, c2, c3', c4, c5, c6', c7⟩ := hC.flat
                  clear hC
                  obtain ⟨X, hX⟩ : ∃ X, X = headW m p ++ wordsR m rs k := ⟨_, rfl⟩
                  have hxl : X.length ≤ 80000 := by rw [hX, List.length_append]; omega
                  have f0 := F.out
                  rw [← hX] at f0
                  have HXX := Lib.hid hX
                  clear hX F
                  have RI := Lib.hid (Row8.place wr .u8 row 77 wr.heap.size rfl HR8.out)
                  have F := Lib.hid (f0.below ((Below.refl _ _).alloc (Nat.le_refl _) (.cells #[.int .u8 (at8 row 0), .int .u8 (at8 row 1), .int .u8 (at8 row 2), .int .u8 (at8 row 3), .int .u8 (at8 row 4), .int .u8 (at8 row 5), .int .u8 (at8 row 6), .int .u8 (at8 row 7)] 77)))
                  clear f0
                  obtain ⟨⟨r0, r1, r2, r3⟩, r4, r5, r6, r7⟩ := RI.out.all
                  go_wp2_with fail
                  refine (word_any m row SR.out _).mono ?_
                  rintro e v2 ⟨a7, n7, c7', rfl, hm7, ho7, hb⟩
                  clear c0 c1 c2 c3' c4 c5 c6' c7 r0 r1 r2 r3 r4 r5 r6 r7 RI
                  replace F := Lib.hid (F.out.below hb)
                  have hl7 := word_len SR.out
                  have HO := Lib.hid ho7.reads
                  obtain rfl : (takeR m [row]).length = n7 := ho7.len
                  clear ho7 hb
                  go_wp2_with (at_builtin; refine wpList_append_ints_at rfl _ _ 35 rfl (w.heap.size + 1) i0 Try.underlying35 hi hz0 hz1 hz2 _ _ _ rfl F.out.own _ _ _ (takeR m [row]) rfl HO.out (by omega) F.out.size ?_)
                  intro v' v3 ho' hg hv
                  have F2 := Lib.hid (F.out.grown ho' hg hv)
                  clear ho' hg hv
                  go_wp2
                  go_roundg (gk - 1)
                  case measure => omega
                  case rel =>
                    refine ⟨k + 1, by omega, by omega, by go_num, ?_⟩
                    rw [wordsR_succ m rs k (by rw [HL.out]; exact hlt), ← HROW.out, ← List.append_assoc, ← HXX.out]
                    exact F2.out
                · have hkn : k = n := by omega
                  subst hkn
                  have HE : Hid (wordN m p rs = headW m p ++ wordsR m rs k) := Lib.hid (by unfold wordN; rw [HL.out])
                  obtain ⟨X, hX⟩ : ∃ X, X = headW m p ++ wordsR m rs k := ⟨_, rfl⟩
                  have hxl : X.length ≤ 80000 := by rw [hX, List.length_append]; omega
                  have f0 := F.out
                  rw [← hX] at f0 HE
                  clear hX F
                  obtain ⟨a', c', rfl, ho'⟩ := f0.own.form
                  have HO' := Lib.hid (ho'.mono (Nat.le_succ _))
                  have B := Lib.hid f0.bel
                  clear ho' f0
                  by_cases h200 : X.length ≤ 200
                  · have hM := HM.out
                    rw [mNWord_fits HB.out (by rw [HE.out]; exact h200)] at hM
                    obtain ⟨rfl, rfl⟩ := Prod.mk.inj hM
                    clear hM HM
                    go_wp2
                    go_ret2
                    exact ⟨a', _, c', rfl, by omega, by rw [HE.out]; exact HO'.out, B.out⟩
                  · have hM := HM.out
                    rw [mNWord_long HB.out (by rw [HE.out]; omega)] at hM
                    obtain ⟨rfl, rfl⟩ := Prod.mk.inj hM
                    clear hM HM
                    go_wp2
                    go_ret2
                    exact ⟨none, 0, 0, rfl, by omega, Own.nil _ _, B.out⟩
            exact AllReadyH.nil
          exact AllReadyH.nil
        exact AllReadyH.nil
      exact AllReadyH.nil
    exact AllReadyH.nil
  | false =>
    rw [mNWord_bad hB] at hM
    obtain ⟨rfl, rfl⟩ := Prod.mk.inj hM
    clear hM
    go_enter Try.func20, Try.ntmps20
    have B := Lib.hid (below1 w (.cells #[.int .i64 s, .int .i64 p, .slice a n cap] 28))
    go_wp2_with fail
    refine (implIsNormal_any s p a n cap rs _ (HR.out.alloc _) hn).mono ?_
    rw [hB]
    rintro e w1 ⟨rfl, hb⟩
    replace B := Lib.hid (below_go B.out hb B.out.size)
    clear hb
    go_wp2
    go_ret2
    exact ⟨none, 0, 0, rfl, by omega, Own.nil _ _, B.out⟩

end Go.Proofs.Yteffndmifogicaa
