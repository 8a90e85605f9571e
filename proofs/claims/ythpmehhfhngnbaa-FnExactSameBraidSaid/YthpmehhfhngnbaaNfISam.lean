/- Words that are the same braid: the program. -/
import Derived.Test.YthpmehhfhngnbaaNfSSam
import Derived.Test.YthpmehhfhngnbaaNfPNof
namespace Go.Proofs.Ythpmehhfhngnbaa
open Go.RowKit Go.ChangeShapes

set_option maxRecDepth 100000 in
set_option maxHeartbeats 4000000 in
theorem implSameBraid_any (s : Int) (a : Option Addr) (n ca : Nat) (xs : List Int) (t : Int) (b : Option Addr) (k cb : Nat) (ys : List Int) (w : World) (hr : Reads w a n xs) (hf : Fits xs) (hn : n ≤ 1048576) (hr2 : Reads w b k ys) (hf2 : Fits ys) (hk : k ≤ 1048576) (fb : Bool) (fc : Int) (hM : mSame s xs t ys = (fb, fc)) :
  Calls Try.prog 26 #[.agg #[.int .i64 s, .slice a n ca], .agg #[.int .i64 t, .slice b k cb]] w fun e w' => e = .returned (.tuple #[.bool fb, .int .i64 fc]) ∧ Below w.heap.size w w' := by
 have HL := Lib.hid hr.len
 have HL2 := Lib.hid hr2.len
 have HR := Lib.hid hr
 have HR2 := Lib.hid hr2
 have HF := Lib.hid hf
 have HF2 := Lib.hid hf2
 clear hr hr2 hf hf2
 unfold mSame at hM
 cases hB : isBraid s xs with
 | false =>
  rw [hB, if_neg (by simp)] at hM
  simp only [Prod.mk.injEq] at hM
  obtain ⟨rfl, rfl⟩ := hM
  go_enter Try.func26, Try.ntmps26
  have A := Lib.hid ((At2.place w (.int .i64 s) (.slice a n ca) 31 w.heap.size rfl).alloc (.cells #[.int .i64 t, .slice b k cb] 31))
  have A2 := Lib.hid (At2.place (w.alloc (.cells #[.int .i64 s, .slice a n ca] 31)) (.int .i64 t) (.slice b k cb) 31 (w.heap.size + 1) (by simp))
  have B := Lib.hid (below2 w (.cells #[.int .i64 s, .slice a n ca] 31) (.cells #[.int .i64 t, .slice b k cb] 31))
  obtain ⟨q0, q1, q2, q3, q4⟩ := A.out
  obtain ⟨r0, r1, r2, r3, r4⟩ := A2.out
  go_wp2_with fail
  refine (implIsBraid_any s a n ca xs _ (HR.out.below B.out) hn).mono ?_
  rw [hB]
  rintro e v1 ⟨rfl, hb⟩
  replace A := Lib.hid (A.out.below hb)
  replace A2 := Lib.hid (A2.out.below hb)
  replace B := Lib.hid (below_go B.out hb B.out.size)
  clear hb
  go_wp2
  go_ret2
  exact ⟨rfl, B.out⟩
 | true =>
  cases hB2 : isBraid t ys with
  | false =>
   rw [hB, hB2, if_neg (by simp)] at hM
   simp only [Prod.mk.injEq] at hM
   obtain ⟨rfl, rfl⟩ := hM
   go_enter Try.func26, Try.ntmps26
   have A := Lib.hid ((At2.place w (.int .i64 s) (.slice a n ca) 31 w.heap.size rfl).alloc (.cells #[.int .i64 t, .slice b k cb] 31))
   have A2 := Lib.hid (At2.place (w.alloc (.cells #[.int .i64 s, .slice a n ca] 31)) (.int .i64 t) (.slice b k cb) 31 (w.heap.size + 1) (by simp))
   have B := Lib.hid (below2 w (.cells #[.int .i64 s, .slice a n ca] 31) (.cells #[.int .i64 t, .slice b k cb] 31))
   obtain ⟨q0, q1, q2, q3, q4⟩ := A.out
   obtain ⟨r0, r1, r2, r3, r4⟩ := A2.out
   go_wp2_with fail
   refine (implIsBraid_any s a n ca xs _ (HR.out.below B.out) hn).mono ?_
   rw [hB]
   rintro e v1 ⟨rfl, hb⟩
   replace A := Lib.hid (A.out.below hb)
   replace A2 := Lib.hid (A2.out.below hb)
   replace B := Lib.hid (below_go B.out hb B.out.size)
   clear hb
   clear q0 q1 q2 q3 q4 r0 r1 r2 r3 r4
   obtain ⟨q0, q1, q2, q3, q4⟩ := A.out
   obtain ⟨r0, r1, r2, r3, r4⟩ := A2.out
   go_wp2_with fail
   refine (implIsBraid_any t b k cb ys _ (HR2.out.below B.out) hk).mono ?_
   rw [hB2]
   rintro e v2 ⟨rfl, hb⟩
   replace A := Lib.hid (A.out.below hb)
   replace A2 := Lib.hid (A2.out.below hb)
   replace B := Lib.hid (below_go B.out hb B.out.size)
   clear hb
   go_wp2
   go_ret2
   exact ⟨rfl, B.out⟩
  | true =>
   rw [hB, hB2, if_pos ⟨rfl, rfl⟩] at hM
   by_cases hst : s = t
   ·subst hst
    rw [if_pos rfl] at hM
    obtain ⟨m, rfl⟩ : ∃ m : Nat, s = m := ⟨s.toNat, by have := (isBraid_iff _ _).1 hB; omega⟩
    obtain ⟨m1, m8, hlen, hlet⟩ := letters_of hB
    obtain ⟨_, _, hlen2, hlet2⟩ := letters_of hB2
    have HT := Lib.hid hlet
    have HT2 := Lib.hid hlet2
    rw [HL.out] at hlen
    rw [HL2.out] at hlen2
    rw [Int.toNat_natCast] at hM
    simp only [Prod.mk.injEq] at hM
    obtain ⟨hM, rfl⟩ := hM
    have HM := Lib.hid hM
    clear hM hlet hlet2
    have t1 : ((m : Int) != (m : Int)) = false := by simp
    go_enter Try.func26, Try.ntmps26
    have A := Lib.hid ((At2.place w (.int .i64 m) (.slice a n ca) 31 w.heap.size rfl).alloc (.cells #[.int .i64 m, .slice b k cb] 31))
    have A2 := Lib.hid (At2.place (w.alloc (.cells #[.int .i64 m, .slice a n ca] 31)) (.int .i64 m) (.slice b k cb) 31 (w.heap.size + 1) (by simp))
    have B := Lib.hid (below2 w (.cells #[.int .i64 m, .slice a n ca] 31) (.cells #[.int .i64 m, .slice b k cb] 31))
    obtain ⟨q0, q1, q2, q3, q4⟩ := A.out
    obtain ⟨r0, r1, r2, r3, r4⟩ := A2.out
    go_wp2_with fail
    refine (implIsBraid_any m a n ca xs _ (HR.out.below B.out) hn).mono ?_
    rw [hB]
    rintro e v1 ⟨rfl, hb⟩
    replace A := Lib.hid (A.out.below hb)
    replace A2 := Lib.hid (A2.out.below hb)
    replace B := Lib.hid (below_go B.out hb B.out.size)
    clear hb
    clear q0 q1 q2 q3 q4 r0 r1 r2 r3 r4
    obtain ⟨q0, q1, q2, q3, q4⟩ := A.out
    obtain ⟨r0, r1, r2, r3, r4⟩ := A2.out
    go_wp2_with fail
    refine (implIsBraid_any m b k cb ys _ (HR2.out.below B.out) hk).mono ?_
    rw [hB2]
    rintro e v2 ⟨rfl, hb⟩
    replace A := Lib.hid (A.out.below hb)
    replace A2 := Lib.hid (A2.out.below hb)
    replace B := Lib.hid (below_go B.out hb B.out.size)
    clear hb
    clear q0 q1 q2 q3 q4 r0 r1 r2 r3 r4
    obtain ⟨q0, q1, q2, q3, q4⟩ := A.out
    obtain ⟨r0, r1, r2, r3, r4⟩ := A2.out
    obtain ⟨e1, k1, h1⟩ : ∃ e1 k1, ofW m xs = (e1, k1) := ⟨_, _, rfl⟩
    obtain ⟨e2, k2, h2⟩ : ∃ e2 k2, ofW m ys = (e2, k2) := ⟨_, _, rfl⟩
    have HE := Lib.hid (same_parts h1 h2 HM.out)
    have hb1 := ofW_len xs h1
    rw [HL.out] at hb1
    have H1 := Lib.hid h1
    have H2 := Lib.hid h2
    clear h1 h2
    go_wp2
    have SH : Hid (∀ X, Below v2.heap.size v2 X → (X.cell? ⟨w.heap.size, 0, none⟩ = some (.int .i64 m) ∧ X.cell? ⟨w.heap.size, 1, none⟩ = some (.slice a n ca)) ∧ (X.cell? ⟨w.heap.size + 1, 0, none⟩ = some (.int .i64 m) ∧ X.cell? ⟨w.heap.size + 1, 1, none⟩ = some (.slice b k cb))) := Lib.hid fun X h => ⟨⟨(A.out.below h).2.1, (A.out.below h).2.2.1⟩, ⟨(A2.out.below h).2.1, (A2.out.below h).2.2.1⟩⟩
    have KB : Hid (Below v2.heap.size v2 v2.drew) := Lib.hid (Below.refl v2.heap.size v2).drew
    clear q0 q1 q2 q3 q4 r0 r1 r2 r3 r4
    refine wp_region_held_drew (S := (fun w' => (w'.cell? ⟨w.heap.size, 0, none⟩ = some (.int .i64 m) ∧ w'.cell? ⟨w.heap.size, 1, none⟩ = some (.slice a n ca)) ∧ (w'.cell? ⟨w.heap.size + 1, 0, none⟩ = some (.int .i64 m) ∧ w'.cell? ⟨w.heap.size + 1, 1, none⟩ = some (.slice b k cb)))) (by kernel_rfl) ?_ (fun hHeld => ?_)
    ·with_reducible exact SH.out _ KB.out
    refine wpAnyH_take (i := 0) (oi := { dst := some 19, op := Op.load 31 (Operand.tmp 2), type := 31, pos := "l03_normal.go:297", after := #[], guard := none }) (v := ?_) rfl (by kernel_rfl) (by kernel_rfl) (by kernel_rfl) (fun _ _ _ h => h) (Or.inl ⟨by rfl, ?_⟩) (by assumption) ?_
    rotate_left
    ·intro w hSw
     (try dsimp only at hSw)
     go_simp
     try with_reducible rfl
    try simp only [Act.put, List.setIfInBounds_toArray, List.set_cons_zero, List.set_cons_succ]
    refine wpAnyH_take (i := 2) (oi := { dst := some 21, op := Op.load 31 (Operand.tmp 3), type := 31, pos := "l03_normal.go:297", after := #[], guard := none }) (v := ?_) rfl (by kernel_rfl) (by kernel_rfl) (by kernel_rfl) (fun _ _ _ h => h) (Or.inl ⟨by rfl, ?_⟩) (by assumption) ?_
    rotate_left
    ·intro w hSw
     (try dsimp only at hSw)
     go_simp
     try with_reducible rfl
    try simp only [Act.put, List.setIfInBounds_toArray, List.set_cons_zero, List.set_cons_succ]
    refine wpAnyH_ready (rs := [1]) (by kernel_rfl) (by simp) ?_
    refine AllReadyH.cons (o := { dst := some 20, op := Op.call { callee := Callee.value (Operand.func 56), args := #[Operand.tmp 19], argTypes := #[31] }, type := 28, pos := "l03_normal.go:297", after := #[{ on := 0, ground := Ground.data }], guard := none }) rfl (fun K hK => ?_) ?_
    ·go_simp
     refine (normalOf_any m m1 m8 a n ca xs _ ((HR.out.below B.out).below KB.out) HT.out (by omega) e1 k1 H1.out).mono ?_
     rintro e u1 ⟨a1, n1, c1, rfl, hc1, ho, gg⟩
     have O1 := Lib.hid ho
     replace KB := Lib.hid (below_go KB.out gg KB.out.size)
     clear ho gg
     go_wp2_with fail
     refine hK.out _ _ ?_ (fun hHeld => ?_)
     ·with_reducible exact SH.out _ KB.out
     clear hK K
     try simp only [Act.put, List.setIfInBounds_toArray, List.set_cons_zero, List.set_cons_succ]
     refine wpAnyH_ready (rs := [3]) (by kernel_rfl) (by simp) ?_
     refine AllReadyH.cons (o := { dst := some 22, op := Op.call { callee := Callee.value (Operand.func 56), args := #[Operand.tmp 21], argTypes := #[31] }, type := 28, pos := "l03_normal.go:297", after := #[{ on := 2, ground := Ground.data }, { on := 1, ground := Ground.chain }], guard := none }) rfl (fun K hK => ?_) ?_
     ·go_simp
      refine (normalOf_any m m1 m8 b k cb ys _ ((HR2.out.below B.out).below KB.out) HT2.out (by omega) e2 k2 H2.out).mono ?_
      rintro e u2 ⟨a2, n2, c2, rfl, hc2, ho, gg⟩
      replace O1 := Lib.hid (O1.out.below gg)
      have O2 := Lib.hid ho
      replace KB := Lib.hid (below_go KB.out gg KB.out.size)
      have hn1 : n1 ≤ 100000 := by have := O1.out.len; omega
      clear ho gg
      go_wp2_with fail
      refine hK.out _ _ ?_ (fun hHeld => ?_)
      ·with_reducible exact SH.out _ KB.out
      clear hK K
      try simp only [Act.put, List.setIfInBounds_toArray, List.set_cons_zero, List.set_cons_succ]
      refine wpAnyH_ready (rs := [4]) (by kernel_rfl) (by simp) ?_
      refine AllReadyH.cons (o := { dst := some 23, op := Op.call { callee := Callee.value (Operand.func 67), args := #[Operand.tmp 20, Operand.tmp 22], argTypes := #[28, 28] }, type := 4, pos := "l03_normal.go:297", after := #[{ on := 1, ground := Ground.data }, { on := 3, ground := Ground.data }, { on := 3, ground := Ground.chain }], guard := none }) rfl (fun K hK => ?_) ?_
      ·go_simp
       refine (equals_any m e1 m e2 a1 a2 n1 n2 c1 c2 k1 k2 _ O1.out.reads O2.out.reads hn1 fb (by simpa using HE.out)).mono ?_
       rintro e u3 ⟨rfl, gg⟩
       replace KB := Lib.hid (below_go KB.out gg KB.out.size)
       clear gg
       go_wp2_with fail
       refine hK.out _ _ ?_ (fun hHeld => ?_)
       ·with_reducible exact SH.out _ KB.out
       clear hK K
       try simp only [Act.put, List.setIfInBounds_toArray, List.set_cons_zero, List.set_cons_succ]
       refine wpAnyH_ready (rs := [5]) (by kernel_rfl) (by simp) ?_
       refine AllReadyH.cons (o := { dst := some 4, op := Op.assign (Operand.tmp 23), type := 4, pos := "l03_normal.go:297", after := #[{ on := 4, ground := Ground.data }, { on := 4, ground := Ground.chain }, { on := 0, ground := Ground.phase }, { on := 1, ground := Ground.phase }, { on := 2, ground := Ground.phase }, { on := 3, ground := Ground.phase }, { on := 4, ground := Ground.phase }], guard := none }) rfl (fun K hK => ?_) ?_
       ·go_simp
        refine hK.out _ _ ?_ (fun hHeld => ?_)
        ·with_reducible exact SH.out _ KB.out
        clear hK K
        try simp only [Act.put, List.setIfInBounds_toArray, List.set_cons_zero, List.set_cons_succ]
        refine wpAnyH_ready (rs := [6]) (by kernel_rfl) (by simp) ?_
        refine AllReadyH.cons (o := { dst := some 5, op := Op.assign (Operand.const (Value.int IntKind.i64 0)), type := 2, pos := "l03_normal.go:297", after := #[{ on := 5, ground := Ground.chain }, { on := 0, ground := Ground.phase }, { on := 1, ground := Ground.phase }, { on := 2, ground := Ground.phase }, { on := 3, ground := Ground.phase }, { on := 4, ground := Ground.phase }, { on := 5, ground := Ground.phase }], guard := none }) rfl (fun K hK => ?_) ?_
        ·go_simp
         refine hK.out _ _ ?_ (fun hHeld => ?_)
         ·with_reducible exact SH.out _ KB.out
         clear hK K
         try simp only [Act.put, List.setIfInBounds_toArray, List.set_cons_zero, List.set_cons_succ]
         refine wpAnyH_done (by kernel_rfl) ?_ _
         go_wp2
         go_ret2
         exact ⟨rfl, below_go B.out KB.out B.out.size⟩
        exact AllReadyH.nil
       exact AllReadyH.nil
      exact AllReadyH.nil
     exact AllReadyH.nil
    exact AllReadyH.nil
   ·rw [if_neg hst] at hM
    simp only [Prod.mk.injEq] at hM
    obtain ⟨rfl, rfl⟩ := hM
    have t1 : (s != t) = true := by simp [hst]
    clear hst
    go_enter Try.func26, Try.ntmps26
    have A := Lib.hid ((At2.place w (.int .i64 s) (.slice a n ca) 31 w.heap.size rfl).alloc (.cells #[.int .i64 t, .slice b k cb] 31))
    have A2 := Lib.hid (At2.place (w.alloc (.cells #[.int .i64 s, .slice a n ca] 31)) (.int .i64 t) (.slice b k cb) 31 (w.heap.size + 1) (by simp))
    have B := Lib.hid (below2 w (.cells #[.int .i64 s, .slice a n ca] 31) (.cells #[.int .i64 t, .slice b k cb] 31))
    obtain ⟨q0, q1, q2, q3, q4⟩ := A.out
    obtain ⟨r0, r1, r2, r3, r4⟩ := A2.out
    go_wp2_with fail
    refine (implIsBraid_any s a n ca xs _ (HR.out.below B.out) hn).mono ?_
    rw [hB]
    rintro e v1 ⟨rfl, hb⟩
    replace A := Lib.hid (A.out.below hb)
    replace A2 := Lib.hid (A2.out.below hb)
    replace B := Lib.hid (below_go B.out hb B.out.size)
    clear hb
    clear q0 q1 q2 q3 q4 r0 r1 r2 r3 r4
    obtain ⟨q0, q1, q2, q3, q4⟩ := A.out
    obtain ⟨r0, r1, r2, r3, r4⟩ := A2.out
    go_wp2_with fail
    refine (implIsBraid_any t b k cb ys _ (HR2.out.below B.out) hk).mono ?_
    rw [hB2]
    rintro e v2 ⟨rfl, hb⟩
    replace A := Lib.hid (A.out.below hb)
    replace A2 := Lib.hid (A2.out.below hb)
    replace B := Lib.hid (below_go B.out hb B.out.size)
    clear hb
    clear q0 q1 q2 q3 q4 r0 r1 r2 r3 r4
    obtain ⟨q0, q1, q2, q3, q4⟩ := A.out
    obtain ⟨r0, r1, r2, r3, r4⟩ := A2.out
    go_wp2
    go_ret2
    exact ⟨rfl, B.out⟩

end Go.Proofs.Ythpmehhfhngnbaa

