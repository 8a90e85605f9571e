/- Words that are the same braid: the program. -/
import Derived.Test.YteffndmifogicaaNfSSam
import Derived.Test.YteffndmifogicaaNfSNof
import Derived.Test.YteffndmifogicaaNfINof
import Derived.Test.YteffndmifogicaaNfIs2
import Derived.Test.YteffndmifogicaaNfBrs
namespace Go.Proofs.Yteffndmifogicaa
open Go.RowKit Go.ChangeShapes

set_option maxRecDepth 100000 in
set_option maxHeartbeats 4000000 in
theorem implSameBraid_any (s : Int) (a : Option Addr) (n ca : Nat) (xs : List Int) (t : Int) (b : Option Addr) (k cb : Nat) (ys : List Int) (w : World) (hr : Reads w a n xs) (_hf : Fits xs) (hn : n ≤ 1048576) (hr2 : Reads w b k ys) (_hf2 : Fits ys) (hk : k ≤ 1048576) (fb : Bool) (fc : Int) (hM : mSame s xs t ys = (fb, fc)) :
  Calls Try.prog 17 #[.agg #[.int .i64 s, .slice a n ca], .agg #[.int .i64 t, .slice b k cb]] w fun e w' => e = .returned (.tuple #[.bool fb, .int .i64 fc]) ∧ Below w.heap.size w w' := by
 have HL := Lib.hid hr.len
 have HL2 := Lib.hid hr2.len
 have R := Lib.hid ((hr.alloc (.cells #[.int .i64 s, .slice a n ca] 41)).alloc (.cells #[.int .i64 t, .slice b k cb] 41))
 have Q := Lib.hid ((hr2.alloc (.cells #[.int .i64 s, .slice a n ca] 41)).alloc (.cells #[.int .i64 t, .slice b k cb] 41))
 have A := Lib.hid ((At2.new w (.int .i64 s) (.slice a n ca) 41).alloc (.cells #[.int .i64 t, .slice b k cb] 41))
 have C := Lib.hid (At2.place (w.alloc (.cells #[.int .i64 s, .slice a n ca] 41)) (.int .i64 t) (.slice b k cb) 41 (w.heap.size + 1) (by simp))
 have BB := Lib.hid (below2 w (.cells #[.int .i64 s, .slice a n ca] 41) (.cells #[.int .i64 t, .slice b k cb] 41))
 clear hr hr2 _hf _hf2
 have HCD0 : Hid (codeBs [⟨s, a, n, ca, xs⟩, ⟨t, b, k, cb, ys⟩] = if isBraid s xs = true ∧ isBraid t ys = true then (if s = t then 0 else 2) else 1) := Lib.hid (codeBs_pair s t a b n k ca cb xs ys)
 by_cases hbr : isBraid s xs = true ∧ isBraid t ys = true
 ·obtain ⟨hB, hB2⟩ := hbr
  unfold mSame at hM
  rw [if_pos ⟨hB, hB2⟩] at hM
  rw [if_pos ⟨hB, hB2⟩] at HCD0
  by_cases hst : s = t
  ·rw [if_pos hst] at hM HCD0
   have HCD := HCD0; clear HCD0
   obtain ⟨m, hsm⟩ : ∃ m : Nat, s = m := ⟨s.toNat, by have := (isBraid_iff _ _).1 hB; omega⟩
   rw [hsm] at hB hM
   rw [← hst, hsm] at hB2 hM
   obtain ⟨m1, m8, hlen, hlet⟩ := letters_of hB
   obtain ⟨_, _, hlen2, hlet2⟩ := letters_of hB2
   have HT := Lib.hid hlet
   have HT2 := Lib.hid hlet2
   rw [HL.out] at hlen
   rw [HL2.out] at hlen2
   rw [Int.toNat_natCast] at hM
   simp only [Prod.mk.injEq] at hM
   obtain ⟨hM, rfl⟩ := hM
   have HM := Lib.hid hM
   clear hM hlet hlet2
   obtain rfl : t = (m : Int) := by rw [← hst, hsm]
   subst hsm
   clear hst
   clear hB hB2
   go_enter Try.func17, Try.ntmps17
   obtain ⟨qA1, qA2, qA3, qA4, qA5⟩ := A.out
   obtain ⟨qC1, qC2, qC3, qC4, qC5⟩ := C.out
   have RP := Lib.hid (readsB_pair _ (w.heap.size + 1 + 1) (by simp) (m : Int) (m : Int) a b n k ca cb xs ys R.out hn Q.out hk)
   go_wp2_with fail
   refine (braidsCode_any _ _ _ _ _ RP.out (by omega)).mono ?_
   rintro e w1 ⟨rfl, hb⟩
   clear qA1 qA2 qA3 qA4 qA5 qC1 qC2 qC3 qC4 qC5
   replace R := Lib.hid ((R.out.alloc _).below hb)
   replace Q := Lib.hid ((Q.out.alloc _).below hb)
   replace A := Lib.hid ((A.out.alloc _).below hb)
   replace C := Lib.hid ((C.out.alloc _).below hb)
   replace BB := Lib.hid (below_go (BB.out.alloc BB.out.size _) hb (by have := BB.out.size; simp at *; omega))
   clear hb RP
   rw [HCD.out]
   obtain ⟨qA1, qA2, qA3, qA4, qA5⟩ := A.out
   obtain ⟨qC1, qC2, qC3, qC4, qC5⟩ := C.out
   obtain ⟨e1, k1, h1⟩ : ∃ e1 k1, ofW m xs = (e1, k1) := ⟨_, _, rfl⟩
   obtain ⟨e2, k2, h2⟩ : ∃ e2 k2, ofW m ys = (e2, k2) := ⟨_, _, rfl⟩
   have HE := Lib.hid (same_parts h1 h2 HM.out)
   have hb1 := ofW_len xs h1
   rw [HL.out] at hb1
   have H1 := Lib.hid h1
   have H2 := Lib.hid h2
   clear h1 h2
   go_wp2
   have SH : Hid (∀ X, Below w1.heap.size w1 X → (X.cell? ⟨w.heap.size, 0, none⟩ = some (.int .i64 m) ∧ X.cell? ⟨w.heap.size, 1, none⟩ = some (.slice a n ca)) ∧ (X.cell? ⟨w.heap.size + 1, 0, none⟩ = some (.int .i64 m) ∧ X.cell? ⟨w.heap.size + 1, 1, none⟩ = some (.slice b k cb))) := Lib.hid fun X h => ⟨⟨(A.out.below h).2.1, (A.out.below h).2.2.1⟩, ⟨(C.out.below h).2.1, (C.out.below h).2.2.1⟩⟩
   have KB : Hid (Below w1.heap.size w1 w1.drew) := Lib.hid (Below.refl w1.heap.size w1).drew
   clear qA1 qA2 qA3 qA4 qA5 qC1 qC2 qC3 qC4 qC5
   refine wp_region_held_drew (S := (fun w' => (w'.cell? ⟨w.heap.size, 0, none⟩ = some (.int .i64 m) ∧ w'.cell? ⟨w.heap.size, 1, none⟩ = some (.slice a n ca)) ∧ (w'.cell? ⟨w.heap.size + 1, 0, none⟩ = some (.int .i64 m) ∧ w'.cell? ⟨w.heap.size + 1, 1, none⟩ = some (.slice b k cb)))) (by kernel_rfl) ?_ (fun hHeld => ?_)
   ·with_reducible exact SH.out _ KB.out
   refine wpAnyH_take (i := 0) (oi := { dst := some 14, op := Op.load 41 (Operand.tmp 2), type := 41, pos := "l03_normal.go:290", after := #[], guard := none }) (v := ?_) rfl (by kernel_rfl) (by kernel_rfl) (by kernel_rfl) (fun _ _ _ h => h) (Or.inl ⟨by rfl, ?_⟩) (by assumption) ?_
   rotate_left
   ·intro w hSw
    (try dsimp only at hSw)
    go_simp
    try with_reducible rfl
   try simp only [Act.put, List.setIfInBounds_toArray, List.set_cons_zero, List.set_cons_succ]
   refine wpAnyH_take (i := 2) (oi := { dst := some 16, op := Op.load 41 (Operand.tmp 3), type := 41, pos := "l03_normal.go:290", after := #[], guard := none }) (v := ?_) rfl (by kernel_rfl) (by kernel_rfl) (by kernel_rfl) (fun _ _ _ h => h) (Or.inl ⟨by rfl, ?_⟩) (by assumption) ?_
   rotate_left
   ·intro w hSw
    (try dsimp only at hSw)
    go_simp
    try with_reducible rfl
   try simp only [Act.put, List.setIfInBounds_toArray, List.set_cons_zero, List.set_cons_succ]
   refine wpAnyH_ready (rs := [1]) (by kernel_rfl) (by simp) ?_
   refine AllReadyH.cons (o := { dst := some 15, op := Op.call { callee := Callee.value (Operand.func 46), args := #[Operand.tmp 14], argTypes := #[41] }, type := 28, pos := "l03_normal.go:290", after := #[{ on := 0, ground := Ground.data }], guard := none }) rfl (fun K hK => ?_) ?_
   ·go_simp
    refine (normalOf_any m m1 m8 a n ca xs _ (R.out.below KB.out) HT.out (by omega) e1 k1 H1.out).mono ?_
    rintro e u1 ⟨a1, n1, c1, rfl, hc1, ho, gg⟩
    have O1 := Lib.hid ho
    replace KB := Lib.hid (below_go KB.out gg KB.out.size)
    clear ho gg
    go_wp2_with fail
    refine hK.out _ _ ?_ (fun hHeld => ?_)
    ·with_reducible exact SH.out _ KB.out
    clear hK K
    try simp only [Act.put, List.setIfInBounds_toArray, List.set_cons_zero, List.set_cons_succ]
    refine wpAnyH_ready (rs := [3]) (by kernel_rfl) (by simp) ?_
    refine AllReadyH.cons (o := { dst := some 17, op := Op.call { callee := Callee.value (Operand.func 46), args := #[Operand.tmp 16], argTypes := #[41] }, type := 28, pos := "l03_normal.go:290", after := #[{ on := 2, ground := Ground.data }, { on := 1, ground := Ground.chain }], guard := none }) rfl (fun K hK => ?_) ?_
    ·go_simp
     refine (normalOf_any m m1 m8 b k cb ys _ (Q.out.below KB.out) HT2.out (by omega) e2 k2 H2.out).mono ?_
     rintro e u2 ⟨a2, n2, c2, rfl, hc2, ho, gg⟩
     replace O1 := Lib.hid (O1.out.below gg)
     have O2 := Lib.hid ho
     replace KB := Lib.hid (below_go KB.out gg KB.out.size)
     have hn1 : n1 ≤ 100000 := by have := O1.out.len; omega
     clear ho gg
     go_wp2_with fail
     refine hK.out _ _ ?_ (fun hHeld => ?_)
     ·with_reducible exact SH.out _ KB.out
     clear hK K
     try simp only [Act.put, List.setIfInBounds_toArray, List.set_cons_zero, List.set_cons_succ]
     refine wpAnyH_ready (rs := [4]) (by kernel_rfl) (by simp) ?_
     refine AllReadyH.cons (o := { dst := some 18, op := Op.call { callee := Callee.value (Operand.func 47), args := #[Operand.tmp 15, Operand.tmp 17], argTypes := #[28, 28] }, type := 4, pos := "l03_normal.go:290", after := #[{ on := 1, ground := Ground.data }, { on := 3, ground := Ground.data }, { on := 3, ground := Ground.chain }], guard := none }) rfl (fun K hK => ?_) ?_
     ·go_simp
      refine (equals_any m e1 m e2 a1 a2 n1 n2 c1 c2 k1 k2 _ O1.out.reads O2.out.reads hn1 fb (by simpa using HE.out)).mono ?_
      rintro e u3 ⟨rfl, gg⟩
      replace KB := Lib.hid (below_go KB.out gg KB.out.size)
      clear gg
      go_wp2_with fail
      refine hK.out _ _ ?_ (fun hHeld => ?_)
      ·with_reducible exact SH.out _ KB.out
      clear hK K
      try simp only [Act.put, List.setIfInBounds_toArray, List.set_cons_zero, List.set_cons_succ]
      refine wpAnyH_ready (rs := [5]) (by kernel_rfl) (by simp) ?_
      refine AllReadyH.cons (o := { dst := some 4, op := Op.assign (Operand.tmp 18), type := 4, pos := "l03_normal.go:290", after := #[{ on := 4, ground := Ground.data }, { on := 4, ground := Ground.chain }, { on := 0, ground := Ground.phase }, { on := 1, ground := Ground.phase }, { on := 2, ground := Ground.phase }, { on := 3, ground := Ground.phase }, { on := 4, ground := Ground.phase }], guard := none }) rfl (fun K hK => ?_) ?_
      ·go_simp
       refine hK.out _ _ ?_ (fun hHeld => ?_)
       ·with_reducible exact SH.out _ KB.out
       clear hK K
       try simp only [Act.put, List.setIfInBounds_toArray, List.set_cons_zero, List.set_cons_succ]
       refine wpAnyH_ready (rs := [6]) (by kernel_rfl) (by simp) ?_
       refine AllReadyH.cons (o := { dst := some 5, op := Op.assign (Operand.const (Value.int IntKind.i64 0)), type := 2, pos := "l03_normal.go:290", after := #[{ on := 5, ground := Ground.chain }, { on := 0, ground := Ground.phase }, { on := 1, ground := Ground.phase }, { on := 2, ground := Ground.phase }, { on := 3, ground := Ground.phase }, { on := 4, ground := Ground.phase }, { on := 5, ground := Ground.phase }], guard := none }) rfl (fun K hK => ?_) ?_
       ·go_simp
        refine hK.out _ _ ?_ (fun hHeld => ?_)
        ·with_reducible exact SH.out _ KB.out
        clear hK K
        try simp only [Act.put, List.setIfInBounds_toArray, List.set_cons_zero, List.set_cons_succ]
        refine wpAnyH_done (by kernel_rfl) ?_ _
        go_wp2
        go_ret2
        exact ⟨rfl, below_go BB.out KB.out BB.out.size⟩
       exact AllReadyH.nil
      exact AllReadyH.nil
     exact AllReadyH.nil
    exact AllReadyH.nil
   exact AllReadyH.nil
  ·rw [if_neg hst] at hM HCD0
   have HCD := HCD0; clear HCD0
   rw [Prod.mk.injEq] at hM; obtain ⟨rfl, rfl⟩ := hM
   clear hst
   go_enter Try.func17, Try.ntmps17
   obtain ⟨qA1, qA2, qA3, qA4, qA5⟩ := A.out
   obtain ⟨qC1, qC2, qC3, qC4, qC5⟩ := C.out
   have RP := Lib.hid (readsB_pair _ (w.heap.size + 1 + 1) (by simp) s t a b n k ca cb xs ys R.out hn Q.out hk)
   go_wp2_with fail
   refine (braidsCode_any _ _ _ _ _ RP.out (by omega)).mono ?_
   rintro e w1 ⟨rfl, hb⟩
   clear qA1 qA2 qA3 qA4 qA5 qC1 qC2 qC3 qC4 qC5
   replace R := Lib.hid ((R.out.alloc _).below hb)
   replace Q := Lib.hid ((Q.out.alloc _).below hb)
   replace A := Lib.hid ((A.out.alloc _).below hb)
   replace C := Lib.hid ((C.out.alloc _).below hb)
   replace BB := Lib.hid (below_go (BB.out.alloc BB.out.size _) hb (by have := BB.out.size; simp at *; omega))
   clear hb RP
   rw [HCD.out]
   obtain ⟨qA1, qA2, qA3, qA4, qA5⟩ := A.out
   obtain ⟨qC1, qC2, qC3, qC4, qC5⟩ := C.out
   go_wp2
   go_ret2
   exact ⟨rfl, BB.out⟩
 ·rw [mSame, if_neg hbr, Prod.mk.injEq] at hM
  obtain ⟨rfl, rfl⟩ := hM
  rw [if_neg hbr] at HCD0
  have HCD := HCD0; clear HCD0 hbr
  go_enter Try.func17, Try.ntmps17
  obtain ⟨qA1, qA2, qA3, qA4, qA5⟩ := A.out
  obtain ⟨qC1, qC2, qC3, qC4, qC5⟩ := C.out
  have RP := Lib.hid (readsB_pair _ (w.heap.size + 1 + 1) (by simp) s t a b n k ca cb xs ys R.out hn Q.out hk)
  go_wp2_with fail
  refine (braidsCode_any _ _ _ _ _ RP.out (by omega)).mono ?_
  rintro e w1 ⟨rfl, hb⟩
  clear qA1 qA2 qA3 qA4 qA5 qC1 qC2 qC3 qC4 qC5
  replace R := Lib.hid ((R.out.alloc _).below hb)
  replace Q := Lib.hid ((Q.out.alloc _).below hb)
  replace A := Lib.hid ((A.out.alloc _).below hb)
  replace C := Lib.hid ((C.out.alloc _).below hb)
  replace BB := Lib.hid (below_go (BB.out.alloc BB.out.size _) hb (by have := BB.out.size; simp at *; omega))
  clear hb RP
  rw [HCD.out]
  obtain ⟨qA1, qA2, qA3, qA4, qA5⟩ := A.out
  obtain ⟨qC1, qC2, qC3, qC4, qC5⟩ := C.out
  go_wp2
  go_ret2
  exact ⟨rfl, BB.out⟩

end Go.Proofs.Yteffndmifogicaa

