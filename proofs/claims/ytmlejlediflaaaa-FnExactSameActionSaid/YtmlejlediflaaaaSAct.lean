/- What letters make of free words: the model. -/
import Derived.Test.YtmlejlediflaaaaSIm
import Derived.Test.YtmlejlediflaaaaSJn
import Derived.Test.YtmlejlediflaaaaPss
import Derived.Deep.RegionHeld3
namespace Go.Proofs.Ytmlejlediflaaaa
open Go.RowKit Go.ChangeShapes

theorem actL_take (l : Int) (xs : List Int) (k : Nat) (h : k < xs.length) : joinF [] (actL l (xs.take (k + 1))) = joinF (joinF [] (actL l (xs.take k))) (putsL l (xs.getD k 0)) := by
  rw [take_snoc xs k h]
  simp [actL, joinF_app]

/-- What the model puts for a number. -/
theorem putsL_of (l y : Int) (hl : l ≠ 0) (ys : List Int) (hy : ys = imgS l (if y < 0 then -y else y)) : putsL l y = if y < 0 then inverse ys else ys := by
  rw [putsL_eq l y hl, hy]
  by_cases h : y < 0
  · rw [if_pos h, if_pos h, if_pos h]
  · rw [if_neg h, if_neg h, if_neg h]

/-- A slice that is not the one in block g. -/
def Off (a : Option Addr) (g : Nat) : Prop := ∀ x, a = some x → x.block ≠ g

theorem Own.keptOff {B : Nat} {w w1 : World} {g n c : Nat} {ys : List Int} {au : Option Addr} {nu cu : Nat} (h : Own B w (some ⟨g, 0, none⟩) n c ys) (hg : w.grownBy w1 (Value.slice au nu cu).ownBlock) (ho : Off au g) : Own B w1 (some ⟨g, 0, none⟩) n c ys :=
  World.ownsRow.kept h hg (.inr fun e => by
    cases au with
    | none => simp [Value.ownBlock] at e
    | some x => exact ho x rfl (by simpa [Value.ownBlock] using e.symm))

theorem off_new {a a' : Option Addr} {n c n' c' g N : Nat} (h : (Value.slice a' n' c').ownBlock = (Value.slice a n c).ownBlock ∨ (Value.slice a' n' c').ownBlock = some N) (ho : Off a g) (hn : g < N) : Off a' g := by
  intro x hx
  subst hx
  rcases h with h | h
  · cases a with
    | none => simp [Value.ownBlock] at h
    | some y =>
      have : x.block = y.block := by simpa [Value.ownBlock] using h
      rw [this]; exact ho y rfl
  · have : x.block = N := by simpa [Value.ownBlock] using h
    omega

set_option maxRecDepth 100000 in
set_option maxHeartbeats 1000000 in
theorem l08Act_any (la : Option Addr) (m lc : Nat) (ls : List Int) (a : Option Addr) (n cap : Nat) (xs : List Int) (w : World) (hr : Reads w la m ls) (hm : m ≤ 1048576) (hl8 : ∀ l ∈ ls, -100 < l ∧ l < 100 ∧ l ≠ 0) (hr2 : Reads w a n xs) (hsx : Small xs) (hn : n ≤ 4000) {fxs : List Int} {fc : Int} (hM : mPass ls xs = (fxs, fc)) :
    Calls Try.prog 86 #[.slice la m lc, .slice a n cap] w fun e w' => ∃ b q c, e = .returned (.tuple #[.slice b q c, .bool (fc == 0)]) ∧ q ≤ 1048576 ∧ Own w.heap.size w' b q c fxs ∧ Below w.heap.size w w' := by
  obtain ⟨i0, hi, hz0, hz1, hz2⟩ := info_parts infoInt
  have HLN := Lib.hid hr.len
  have HR := Lib.hid hr; clear hr
  have HX := Lib.hid hr2; clear hr2
  have HL8 := Lib.hid hl8; clear hl8
  have HSX := Lib.hid hsx; clear hsx
  have HM := Lib.hid hM; clear hM
  go_enter Try.func86, Try.ntmps86
  go_wp2_with fail
  refine (l01Own_any _ _ _ xs _ HX.out (by omega)).mono ?_
  rintro e w1 ⟨a1, c1, rfl, ho, hb⟩
  have HO := Lib.hid ho; have HB := Lib.hid hb; clear ho hb
  go_wp2
  go_loopg [6, 7] m (fun gh v i wr => ∃ (k : Nat) (now : List Int) (av : Option Addr) (nv cv : Nat), k ≤ m ∧ gh + k = m ∧ i = .int .i64 k ∧ v = .slice av nv cv ∧ nv ≤ 4000 ∧ Own w.heap.size wr av nv cv now ∧ Small now ∧ mPass (ls.drop k) now = (fxs, fc) ∧ Below w.heap.size w wr)
  case atStart => exact ⟨0, xs, a1, n, c1, Nat.zero_le _, rfl, rfl, rfl, hn, HO.out, HSX.out, HM.out, HB.out⟩
  case round =>
    obtain ⟨k, now, av, nv, cv, hk, hgk, rfl, rfl, hnv, hov, hsn, hpm, hbv⟩ := hrel
    have HOV := Lib.hid hov; have HSN := Lib.hid hsn; have HPM := Lib.hid hpm; have HBV := Lib.hid hbv; clear hov hsn hpm hbv
    obtain ⟨wk, rfl⟩ : ∃ x, x = wr := ⟨_, rfl⟩
    by_cases hlt : k < m
    · obtain ⟨go1, rfl⟩ : ∃ go, go = gk := ⟨_, rfl⟩
      have hkl : k < ls.length := by rw [HLN.out]; exact hlt
      obtain ⟨l, hl⟩ : ∃ l, l = ls[k] := ⟨_, rfl⟩
      obtain ⟨hl1, hl2, hl0⟩ := HL8.out l (by rw [hl]; exact List.getElem_mem hkl)
      have hpm := HPM.out
      rw [List.drop_eq_getElem_cons hkl, ← hl, mPass_cons] at hpm
      have hpm2 := Lib.hid hpm; clear hpm
      obtain ⟨lb, lo, rfl, hlb, hlc⟩ := HR.out.cells (by omega)
      have c0 : wk.cell? ⟨lb, lo + k, none⟩ = some (.int .i64 l) := by
        rw [hl]; have h := (HBV.out.cell (p := ⟨lb, lo + k, none⟩) hlb).trans (hlc k hlt); rw [h]; simp [List.getD, hkl]
      have C0 := Lib.hid c0; clear c0 hlc
      have HL := Lib.hid hl; clear hl
      have hz := HBV.out.size
      have hlb2 : lb < wk.heap.size := by omega
      go_wp2
      have hE : Own wk.heap.size (wk.alloc (.cells #[] 2)) (some ⟨wk.heap.size, 0, none⟩) 0 0 [] := own_lit wk [] (by simp)
      have hBE := below1 wk (.cells #[] 2)
      obtain ⟨wE, hwE⟩ : ∃ wE, wE = wk.alloc (.cells #[] 2) := ⟨_, rfl⟩
      rw [← hwE] at hE hBE ⊢
      clear hwE
      go_loopg [8, 9] nv (fun gh v i wx => ∃ (p : Nat) (ax : Option Addr) (nx cx : Nat), p ≤ nv ∧ gh + p = nv ∧ i = .int .i64 p ∧ v = .slice ax nx cx ∧ Own wk.heap.size wx ax nx cx (joinF [] (actL l (now.take p))) ∧ Below wk.heap.size wk wx)
      case atStart => exact ⟨0, _, 0, 0, Nat.zero_le _, rfl, rfl, rfl, hE, hBE⟩
      case round =>
        obtain ⟨p, ax, nx, cx, hp, hgp, rfl, rfl, hox, hbx⟩ := hrel
        have HOX := Lib.hid hox; have HBX := Lib.hid hbx; clear hox hbx
        obtain ⟨wx, rfl⟩ : ∃ x, x = wr := ⟨_, rfl⟩
        by_cases hpl : p < nv
        · obtain ⟨go2, rfl⟩ : ∃ go, go = gk := ⟨_, rfl⟩
          have RN := Lib.hid (HOV.out.reads.below HBX.out)
          have hpn : p < now.length := by have := RN.out.len; omega
          obtain ⟨y, hy⟩ : ∃ y, y = now.getD p 0 := ⟨_, rfl⟩
          have hys := HSN.out _ (getD_mem now p hpn)
          have hst := actL_take l now p hpn
          rw [← hy] at hys hst
          have HST := Lib.hid hst; clear hst
          have hys' := hys
          obtain ⟨nb, no, rfl, hnb, hnc⟩ := RN.out.cells (by omega)
          have c1 : wx.cell? ⟨nb, no + p, none⟩ = some (.int .i64 y) := by rw [hy]; exact hnc p hpl
          have c0 := (HBX.out.cell (p := ⟨lb, lo + k, none⟩) hlb2).trans C0.out
          have HY := Lib.hid hy; clear hy hnc
          have hwy : IntKind.i64.wrap (-y) = -y := IntWalk.i64_in _ (by omega)
          have k0 : 0 ≤ (k : Int) := by omega
          have k1 : (k : Int) < (m : Int) := by omega
          have p0 : 0 ≤ (p : Int) := by omega
          have p1 : (p : Int) < (nv : Int) := by omega
          obtain ⟨z, hzd⟩ : ∃ z, z = if y < 0 then -y else y := ⟨_, rfl⟩
          have hmx : (if y < -y then -y else y) = z := by rw [hzd]; (repeat' split) <;> omega
          have HZ := Lib.hid hzd; clear hzd
          have hzx := HBX.out.size
          go_wp2
          have KB : Hid (Below wx.heap.size wx wx.drew) := Lib.hid (Below.refl wx.heap.size wx).drew
          have SH : Hid (∀ W, Below wx.heap.size wx W → W.cell? ⟨lb, lo + k, none⟩ = some (.int .i64 l) ∧ W.cell? ⟨nb, no + p, none⟩ = some (.int .i64 y)) := Lib.hid fun W h => ⟨(h.cell (p := ⟨lb, lo + k, none⟩) (by show lb < wx.heap.size; omega)).trans c0, (h.cell (p := ⟨nb, no + p, none⟩) (by exact hnb)).trans c1⟩
          clear c0 c1
          refine wp_region_held_drew (S := (fun w' => w'.cell? ⟨lb, lo + k, none⟩ = some (.int .i64 l) ∧ w'.cell? ⟨nb, no + p, none⟩ = some (.int .i64 y))) (by kernel_rfl) ?_ (fun hHeld => ?_)
          · (first | with_reducible exact SH.out _ KB.out)
          refine wpAnyH_take (i := 0) (oi := { dst := some 28, op := Op.move (Operand.tmp 0), type := 22, pos := "l08_free.go:82", after := #[], guard := none }) (v := ?_) rfl (by kernel_rfl) (by kernel_rfl) (by kernel_rfl) (fun _ _ _ h => h) (Or.inl ⟨by rfl, ?_⟩) (by assumption) ?_
          rotate_left
          · intro w hSw
            (try dsimp only at hSw)
            go_simp
            try with_reducible rfl
          try simp only [Act.put, List.setIfInBounds_toArray, List.set_cons_zero, List.set_cons_succ]
          refine wpAnyH_take (i := 1) (oi := { dst := some 29, op := Op.move (Operand.tmp 7), type := 3, pos := "l08_free.go:82", after := #[], guard := none }) (v := ?_) rfl (by kernel_rfl) (by kernel_rfl) (by kernel_rfl) (fun _ _ _ h => h) (Or.inl ⟨by rfl, ?_⟩) (by assumption) ?_
          rotate_left
          · intro w hSw
            (try dsimp only at hSw)
            go_simp
            try with_reducible rfl
          try simp only [Act.put, List.setIfInBounds_toArray, List.set_cons_zero, List.set_cons_succ]
          refine wpAnyH_take (i := 2) (oi := { dst := some 30, op := Op.indexAddr 22 (Operand.tmp 28) (Operand.tmp 29), type := 0, pos := "l08_free.go:82", after := #[{ on := 0, ground := Ground.data }, { on := 1, ground := Ground.data }], guard := none }) (v := ?_) rfl (by kernel_rfl) (by kernel_rfl) (by kernel_rfl) (fun _ _ _ h => h) (Or.inl ⟨by rfl, ?_⟩) (by assumption) ?_
          rotate_left
          · intro w hSw
            (try dsimp only at hSw)
            go_simp
            try with_reducible rfl
          try simp only [Act.put, List.setIfInBounds_toArray, List.set_cons_zero, List.set_cons_succ]
          refine wpAnyH_take (i := 3) (oi := { dst := some 31, op := Op.load 2 (Operand.tmp 30), type := 2, pos := "l08_free.go:82", after := #[{ on := 2, ground := Ground.data }], guard := none }) (v := ?_) rfl (by kernel_rfl) (by kernel_rfl) (by kernel_rfl) (fun _ _ _ h => h) (Or.inl ⟨by rfl, ?_⟩) (by assumption) ?_
          rotate_left
          · intro w hSw
            (try dsimp only at hSw)
            go_simp
            try with_reducible rfl
          try simp only [Act.put, List.setIfInBounds_toArray, List.set_cons_zero, List.set_cons_succ]
          refine wpAnyH_take (i := 4) (oi := { dst := some 32, op := Op.move (Operand.tmp 6), type := 22, pos := "l08_free.go:82", after := #[], guard := none }) (v := ?_) rfl (by kernel_rfl) (by kernel_rfl) (by kernel_rfl) (fun _ _ _ h => h) (Or.inl ⟨by rfl, ?_⟩) (by assumption) ?_
          rotate_left
          · intro w hSw
            (try dsimp only at hSw)
            go_simp
            try with_reducible rfl
          try simp only [Act.put, List.setIfInBounds_toArray, List.set_cons_zero, List.set_cons_succ]
          refine wpAnyH_take (i := 5) (oi := { dst := some 33, op := Op.move (Operand.tmp 9), type := 3, pos := "l08_free.go:82", after := #[], guard := none }) (v := ?_) rfl (by kernel_rfl) (by kernel_rfl) (by kernel_rfl) (fun _ _ _ h => h) (Or.inl ⟨by rfl, ?_⟩) (by assumption) ?_
          rotate_left
          · intro w hSw
            (try dsimp only at hSw)
            go_simp
            try with_reducible rfl
          try simp only [Act.put, List.setIfInBounds_toArray, List.set_cons_zero, List.set_cons_succ]
          refine wpAnyH_take (i := 6) (oi := { dst := some 34, op := Op.indexAddr 22 (Operand.tmp 32) (Operand.tmp 33), type := 0, pos := "l08_free.go:82", after := #[{ on := 4, ground := Ground.data }, { on := 5, ground := Ground.data }], guard := none }) (v := ?_) rfl (by kernel_rfl) (by kernel_rfl) (by kernel_rfl) (fun _ _ _ h => h) (Or.inl ⟨by rfl, ?_⟩) (by assumption) ?_
          rotate_left
          · intro w hSw
            (try dsimp only at hSw)
            go_simp
            try with_reducible rfl
          try simp only [Act.put, List.setIfInBounds_toArray, List.set_cons_zero, List.set_cons_succ]
          refine wpAnyH_take (i := 7) (oi := { dst := some 35, op := Op.load 2 (Operand.tmp 34), type := 2, pos := "l08_free.go:82", after := #[{ on := 6, ground := Ground.data }], guard := none }) (v := ?_) rfl (by kernel_rfl) (by kernel_rfl) (by kernel_rfl) (fun _ _ _ h => h) (Or.inl ⟨by rfl, ?_⟩) (by assumption) ?_
          rotate_left
          · intro w hSw
            (try dsimp only at hSw)
            go_simp
            try with_reducible rfl
          try simp only [Act.put, List.setIfInBounds_toArray, List.set_cons_zero, List.set_cons_succ]
          refine wpAnyH_take (i := 8) (oi := { dst := some 36, op := Op.move (Operand.tmp 6), type := 22, pos := "l08_free.go:82", after := #[], guard := none }) (v := ?_) rfl (by kernel_rfl) (by kernel_rfl) (by kernel_rfl) (fun _ _ _ h => h) (Or.inl ⟨by rfl, ?_⟩) (by assumption) ?_
          rotate_left
          · intro w hSw
            (try dsimp only at hSw)
            go_simp
            try with_reducible rfl
          try simp only [Act.put, List.setIfInBounds_toArray, List.set_cons_zero, List.set_cons_succ]
          refine wpAnyH_take (i := 9) (oi := { dst := some 37, op := Op.move (Operand.tmp 9), type := 3, pos := "l08_free.go:82", after := #[], guard := none }) (v := ?_) rfl (by kernel_rfl) (by kernel_rfl) (by kernel_rfl) (fun _ _ _ h => h) (Or.inl ⟨by rfl, ?_⟩) (by assumption) ?_
          rotate_left
          · intro w hSw
            (try dsimp only at hSw)
            go_simp
            try with_reducible rfl
          try simp only [Act.put, List.setIfInBounds_toArray, List.set_cons_zero, List.set_cons_succ]
          refine wpAnyH_take (i := 10) (oi := { dst := some 38, op := Op.indexAddr 22 (Operand.tmp 36) (Operand.tmp 37), type := 0, pos := "l08_free.go:82", after := #[{ on := 8, ground := Ground.data }, { on := 9, ground := Ground.data }], guard := none }) (v := ?_) rfl (by kernel_rfl) (by kernel_rfl) (by kernel_rfl) (fun _ _ _ h => h) (Or.inl ⟨by rfl, ?_⟩) (by assumption) ?_
          rotate_left
          · intro w hSw
            (try dsimp only at hSw)
            go_simp
            try with_reducible rfl
          try simp only [Act.put, List.setIfInBounds_toArray, List.set_cons_zero, List.set_cons_succ]
          refine wpAnyH_take (i := 11) (oi := { dst := some 39, op := Op.load 2 (Operand.tmp 38), type := 2, pos := "l08_free.go:82", after := #[{ on := 10, ground := Ground.data }], guard := none }) (v := ?_) rfl (by kernel_rfl) (by kernel_rfl) (by kernel_rfl) (fun _ _ _ h => h) (Or.inl ⟨by rfl, ?_⟩) (by assumption) ?_
          rotate_left
          · intro w hSw
            (try dsimp only at hSw)
            go_simp
            try with_reducible rfl
          try simp only [Act.put, List.setIfInBounds_toArray, List.set_cons_zero, List.set_cons_succ]
          refine wpAnyH_take (i := 12) (oi := { dst := some 40, op := Op.unOp UnOp.neg 2 (Operand.tmp 39), type := 2, pos := "l08_free.go:82", after := #[{ on := 11, ground := Ground.data }], guard := none }) (v := ?_) rfl (by kernel_rfl) (by kernel_rfl) (by kernel_rfl) (fun _ _ _ h => h) (Or.inl ⟨by rfl, ?_⟩) (by assumption) ?_
          rotate_left
          · intro w hSw
            (try dsimp only at hSw)
            go_simp
            try with_reducible rfl
          try simp only [Act.put, List.setIfInBounds_toArray, List.set_cons_zero, List.set_cons_succ]
          refine wpAnyH_take (i := 13) (oi := { dst := some 41, op := Op.call { callee := Callee.builtin Builtin.max, args := #[Operand.tmp 35, Operand.tmp 40], argTypes := #[2, 2] }, type := 2, pos := "l08_free.go:82", after := #[{ on := 7, ground := Ground.data }, { on := 12, ground := Ground.data }], guard := none }) (v := ?_) rfl (by kernel_rfl) (by kernel_rfl) (by kernel_rfl) (fun _ _ _ h => h) (Or.inl ⟨by rfl, ?_⟩) (by assumption) ?_
          rotate_left
          · intro w hSw
            (try dsimp only at hSw)
            go_simp
            try with_reducible rfl
          try simp only [Act.put, List.setIfInBounds_toArray, List.set_cons_zero, List.set_cons_succ]
          refine wpAnyH_ready (rs := [14]) (by kernel_rfl) (by simp) ?_
          refine AllReadyH.cons (o := { dst := some 42, op := Op.call { callee := Callee.value (Operand.func 116), args := #[Operand.tmp 31, Operand.tmp 41], argTypes := #[2, 2] }, type := 22, pos := "l08_free.go:82", after := #[{ on := 3, ground := Ground.data }, { on := 13, ground := Ground.data }], guard := none }) rfl (fun K hK => ?_) ?_
          · go_simp
            refine (l08Image_any l z _ hl1 hl2 hl0).mono ?_
            rintro e w3 ⟨a3, c3, rfl, ho3, gg⟩
            have HO3 := Lib.hid ho3
            replace KB := Lib.hid (below_go KB.out gg KB.out.size)
            clear gg ho3
            go_wp2_with fail
            refine hK.out _ _ ?_ (fun hHeld => ?_)
            · (first | with_reducible exact SH.out _ KB.out)
            clear hK K
            try simp only [Act.put, List.setIfInBounds_toArray, List.set_cons_zero, List.set_cons_succ]
            refine wpAnyH_ready (rs := [15]) (by kernel_rfl) (by simp) ?_
            refine AllReadyH.cons (o := { dst := some 10, op := Op.assign (Operand.tmp 42), type := 22, pos := "l08_free.go:82", after := #[{ on := 14, ground := Ground.data }, { on := 14, ground := Ground.chain }, { on := 0, ground := Ground.phase }, { on := 1, ground := Ground.phase }, { on := 2, ground := Ground.phase }, { on := 3, ground := Ground.phase }, { on := 4, ground := Ground.phase }, { on := 5, ground := Ground.phase }, { on := 6, ground := Ground.phase }, { on := 7, ground := Ground.phase }, { on := 8, ground := Ground.phase }, { on := 9, ground := Ground.phase }, { on := 10, ground := Ground.phase }, { on := 11, ground := Ground.phase }, { on := 12, ground := Ground.phase }, { on := 13, ground := Ground.phase }, { on := 14, ground := Ground.phase }], guard := none }) rfl (fun K hK => ?_) ?_
            · go_simp
              refine hK.out _ _ ?_ (fun hHeld => ?_)
              · (first | with_reducible exact SH.out _ KB.out)
              clear hK K
              try simp only [Act.put, List.setIfInBounds_toArray, List.set_cons_zero, List.set_cons_succ]
              refine wpAnyH_done (by kernel_rfl) ?_ _
              have c1 := (SH.out _ KB.out).2
              by_cases hy0 : y < 0
              · have hz : z = -y := by rw [HZ.out, if_pos hy0]
                have HYZ := Lib.hid hz; clear hz
                have hr3 := HO3.out.reads
                have hs3 := imgS_small l z hl1 hl2 (by have := HYZ.out; omega) (by have := HYZ.out; omega)
                have hl3 := (imgS_len l z).1
                have HR3 := Lib.hid hr3; have HS3 := Lib.hid hs3; clear hr3 hs3
                have hw3 := KB.out.size
                go_wp2_with fail
                refine (l08Back_any a3 _ c3 (imgS l z) _ HR3.out HS3.out (by omega)).mono ?_
                rintro e w4 ⟨a4, c4, rfl, ho4, gg⟩
                have KZ := Lib.hid (below_go KB.out gg KB.out.size)
                obtain ⟨ys, hys⟩ : ∃ q, q = inverse (imgS l z) := ⟨_, rfl⟩
                obtain ⟨my, hmy⟩ : ∃ q, q = (imgS l z).length := ⟨_, rfl⟩
                have hyp : ys = putsL l y := by rw [hys, putsL_of l y hl0 (imgS l z) (by rw [HZ.out]), if_pos hy0]
                have hmyp : my = (putsL l y).length := by rw [← hyp, hys, hmy, inverse_length]
                rw [← hys, ← hmy] at ho4
                have HOY : Hid (Own wx.heap.size w4 a4 my c4 ys) := Lib.hid (ho4.mono hw3)
                rw [← hmy]
                have HYP := Lib.hid hyp; have HMY := Lib.hid hmyp
                have HYS : Hid (Small ys) := Lib.hid (by rw [hyp]; exact putsL_small l y hl1 hl2 hys'.1 hys'.2)
                clear hys hmy hyp hmyp ho4 gg c1
                obtain ⟨cy, hcy⟩ : ∃ q, q = c4 := ⟨_, rfl⟩
                rw [← hcy] at HOY ⊢
                clear hcy
                obtain ⟨gy, rfl, hgy1, hgy2⟩ := HOY.out.block (by have := HMY.out; have := (putsL_len l y).2; omega)
                have hmy3 : my ≤ 3 := by have := HMY.out; have := (putsL_len l y).1; omega
                have hmyl : ys.length = my := HOY.out.len
                have HOX2 := Lib.hid (HOX.out.below KZ.out)
                have hoff0 : Off ax gy := fun x hx => by have := (HOX.out.lo x hx).2; omega
                have HOF0 := Lib.hid hoff0; clear hoff0
                have hbz := HBX.out.trans (KZ.out.mono hzx)
                have HBZ := Lib.hid hbz; clear hbz
                obtain ⟨nx0, hnx0⟩ : ∃ q, q = joinF [] (actL l (now.take p)) := ⟨_, rfl⟩
                rw [← hnx0] at HOX2 HST
                have hnxl : nx ≤ 12000 := by
                  have h1 := HOX.out.len
                  have h2 := joinF_len [] (actL l (now.take p))
                  have h3 := actL_len l (now.take p)
                  rw [List.length_take] at h3
                  simp only [List.length_nil] at h2
                  omega
                have HNX := Lib.hid HOX2.out.len
                clear hnx0
                go_wp2
                go_loopg [8, 11] my (fun gh v i wy => ∃ (j : Nat) (au : Option Addr) (nu cu : Nat), j ≤ my ∧ gh + j = my ∧ i = .int .i64 j ∧ v = .slice au nu cu ∧ Own wk.heap.size wy au nu cu (joinF nx0 (ys.take j)) ∧ Off au gy ∧ Own wx.heap.size wy (some ⟨gy, 0, none⟩) my cy ys ∧ Below wk.heap.size wk wy)
                case atStart => exact ⟨0, ax, nx, cx, Nat.zero_le _, rfl, rfl, rfl, HOX2.out, HOF0.out, HOY.out, HBZ.out⟩
                case round =>
                  obtain ⟨j, au, nu, cu, hj, hgj, rfl, rfl, hou, hoff, hoy, hbu⟩ := hrel
                  obtain ⟨wu, rfl⟩ : ∃ x, x = wr := ⟨_, rfl⟩
                  have HOU := Lib.hid hou; have HOFF := Lib.hid hoff; have HOY2 := Lib.hid hoy; have HBU := Lib.hid hbu; clear hou hoff hoy hbu
                  by_cases hjl : j < my
                  · have cj0 := HOY2.out.cellAt j hjl
                    have hst2 := joinF_step nx0 ys j (by omega)
                    obtain ⟨x, hx⟩ : ∃ x, x = ys.getD j 0 := ⟨_, rfl⟩
                    have hxs := HYS.out _ (getD_mem ys j (by omega))
                    rw [← hx] at cj0 hst2 hxs
                    have cj := cj0; clear cj0
                    obtain ⟨jl, hjle⟩ : ∃ q, q = joinF nx0 (ys.take j) := ⟨_, rfl⟩
                    rw [← hjle] at hst2 HOU
                    have hul : nu ≤ 13000 := by
                      have h1 := HOU.out.len
                      have h2 := joinF_len nx0 (ys.take j)
                      rw [← hjle, List.length_take] at h2
                      have := HNX.out
                      omega
                    have HST2 := Lib.hid hst2; clear hst2 hjle hx
                    obtain ⟨hx1, hx2⟩ := hxs
                    have hzu : wk.heap.size ≤ wu.heap.size := HBU.out.size
                    have hgu : gy < wu.heap.size := by obtain ⟨g', e', _, h'⟩ := HOY2.out.block (by omega); cases e'; exact h'
                    have ex : IntKind.i64.wrap (-x) = -x := IntWalk.i64_in _ (by omega)
                    have g0 : 0 ≤ (j : Int) := by omega
                    have g1 : (j : Int) < (my : Int) := by omega
                    have HLn := Lib.hid HOU.out.len
                    have mcap := HOU.out.cap_ge
                    rcases Nat.eq_zero_or_pos nu with hm0 | hm0
                    · subst hm0
                      have hnl : jl = [] := List.eq_nil_of_length_eq_zero HLn.out
                      have HNL := Lib.hid hnl; clear hnl
                      go_wp2
                      go_quiet (fail)
                      have HOn : Hid (OwnV wk.heap.size (wu.drewN nq) (.slice au 0 cu) 0 jl) := Lib.hid (HOU.out.heap (fun _ _ => rfl))
                      have HBn : Hid (Below wk.heap.size wk (wu.drewN nq)) := Lib.hid (HBU.out.trans (below_draws _ _ _))
                      have HOYn : Hid (Own wx.heap.size (wu.drewN nq) (some ⟨gy, 0, none⟩) my cy ys) := Lib.hid (HOY2.out.heap (fun _ _ => rfl))
                      have hn1 : (wu.drewN nq).cell? ⟨gy, j, none⟩ = some (.int .i64 x) := cj
                      have hzn : wk.heap.size ≤ (wu.drewN nq).heap.size := hzu
                      have hgn : gy < (wu.drewN nq).heap.size := hgu
                      clear cj HOU HBU HOY2 hzu hgu
                      generalize wu.drewN nq = wd at *
                      go_wp2_with (at_builtin; refine wpList_append_own_at _ rfl _ _ 22 rfl wk.heap.size 2 i0 (.int .i64 0) 1 8 Try.underlying22 hi hz0 hz1 hz2 rfl (by decide) _ _ _ rfl (World.ownsRow.alloc HOn.out _) ⟨wd.heap.size, 0, none⟩ 1 1 [.int .i64 x] rfl rfl (one_new wd x _) (one_cell _) (by unfold maxLen; omega) (by omega) (by simp; omega) ?_)
                      intro v' w5 hown' hgrow _ hat
                      have ho' := OwnV.appended hown'
                      have HB' := Lib.hid (below_appended HBn.out hzn HOn.out hgrow)
                      have HOY' := Lib.hid (Own.keptOff (HOYn.out.alloc _) hgrow HOFF.out)
                      obtain ⟨av', cv', rfl, ho2⟩ := ho'.form
                      have HOFF' := Lib.hid (off_new hat HOFF.out (by first | omega | (simp; omega)))
                      clear hown' hgrow hat
                      have HO' := Lib.hid ho2; clear ho' ho2
                      go_wp2
                      go_roundg (gk - 1)
                      case measure => omega
                      case rel =>
                        refine ⟨j + 1, av', _, cv', by omega, by omega, by go_num, rfl, ?_, HOFF'.out, HOY'.out, HB'.out⟩
                        rw [HST2.out, show freeStep jl x = jl ++ [x] from by rw [HNL.out]; rfl]
                        exact HO'.out
                    · obtain ⟨gu, rfl, hg1, hg2⟩ := HOU.out.block hm0
                      have cl := HOU.out.cellAt (nu - 1) (by omega)
                      have hlast := last_eq jl nu HLn.out hm0
                      obtain ⟨t, ht⟩ : ∃ t, t = jl.getD (nu - 1) 0 := ⟨_, rfl⟩
                      rw [← ht] at cl hlast
                      have HLA := Lib.hid hlast; clear hlast ht
                      have j0 : 0 ≤ (nu : Int) - 1 := by omega
                      have j1 : (nu : Int) - 1 < (nu : Int) := by omega
                      have j2 : ((nu : Int) - 1).toNat = nu - 1 := by omega
                      have j3 : IntKind.i64.wrap ((nu : Int) - 1) = (nu : Int) - 1 := IntWalk.i64_in _ (by omega)
                      by_cases hxy : t = -x
                      · have t1 : (t == -x) = true := by simp [hxy]
                        have HXY := Lib.hid hxy; clear hxy
                        go_wp2
                        go_quiet (fail)
                        have HOn : Hid (Own wk.heap.size (wu.drewN nq) (some ⟨gu, 0, none⟩) (nu - 1) cu jl.dropLast) := Lib.hid (Own.pop (HOU.out.heap (fun _ _ => rfl)))
                        have HBn : Hid (Below wk.heap.size wk (wu.drewN nq)) := Lib.hid (HBU.out.trans (below_draws _ _ _))
                        have HOYn : Hid (Own wx.heap.size (wu.drewN nq) (some ⟨gy, 0, none⟩) my cy ys) := Lib.hid (HOY2.out.heap (fun _ _ => rfl))
                        go_wp2
                        go_roundg (gk - 1)
                        case measure => omega
                        case rel =>
                          refine ⟨j + 1, some ⟨gu, 0, none⟩, nu - 1, cu, by omega, by omega, by go_num, rfl, ?_, HOFF.out, HOYn.out, HBn.out⟩
                          rw [HST2.out, show freeStep jl x = jl.dropLast from by unfold freeStep; rw [HLA.out, HXY.out, if_pos rfl]]
                          exact HOn.out
                      · have t1 : (t == -x) = false := by simp [hxy]
                        have HXY := Lib.hid hxy; clear hxy
                        go_wp2
                        go_quiet (fail)
                        have HOn : Hid (OwnV wk.heap.size (wu.drewN nq) (.slice (some ⟨gu, 0, none⟩) nu cu) nu jl) := Lib.hid (HOU.out.heap (fun _ _ => rfl))
                        have HBn : Hid (Below wk.heap.size wk (wu.drewN nq)) := Lib.hid (HBU.out.trans (below_draws _ _ _))
                        have HOYn : Hid (Own wx.heap.size (wu.drewN nq) (some ⟨gy, 0, none⟩) my cy ys) := Lib.hid (HOY2.out.heap (fun _ _ => rfl))
                        have hn1 : (wu.drewN nq).cell? ⟨gy, j, none⟩ = some (.int .i64 x) := cj
                        have hzn : wk.heap.size ≤ (wu.drewN nq).heap.size := hzu
                        have hgn : gy < (wu.drewN nq).heap.size := hgu
                        clear cj cl HOU HBU HOY2 hzu hgu
                        generalize wu.drewN nq = wd at *
                        go_wp2_with (at_builtin; refine wpList_append_own_at _ rfl _ _ 22 rfl wk.heap.size 2 i0 (.int .i64 0) 1 8 Try.underlying22 hi hz0 hz1 hz2 rfl (by decide) _ _ _ rfl (World.ownsRow.alloc HOn.out _) ⟨wd.heap.size, 0, none⟩ 1 1 [.int .i64 x] rfl rfl (one_new wd x _) (one_cell _) (by unfold maxLen; omega) (by omega) (by simp; omega) ?_)
                        intro v' w5 hown' hgrow _ hat
                        have ho' := OwnV.appended hown'
                        have HB' := Lib.hid (below_appended HBn.out hzn HOn.out hgrow)
                        have HOY' := Lib.hid (Own.keptOff (HOYn.out.alloc _) hgrow HOFF.out)
                        obtain ⟨av', cv', rfl, ho2⟩ := ho'.form
                        have HOFF' := Lib.hid (off_new hat HOFF.out (by first | omega | (simp; omega)))
                        clear hown' hgrow hat
                        have HO' := Lib.hid ho2; clear ho' ho2
                        go_wp2
                        go_roundg (gk - 1)
                        case measure => omega
                        case rel =>
                          refine ⟨j + 1, av', _, cv', by omega, by omega, by go_num, rfl, ?_, HOFF'.out, HOY'.out, HB'.out⟩
                          rw [HST2.out, show freeStep jl x = jl ++ [x] from by unfold freeStep; rw [HLA.out, if_neg (fun e => HXY.out (Option.some.inj e))]]
                          exact HO'.out
                  · have hjm : j = my := by omega
                    have HJ := Lib.hid hjm; clear hjm
                    have hjo := HOU.out
                    rw [HJ.out, List.take_of_length_le (by omega), HYP.out, ← HST.out] at hjo
                    have HJO := Lib.hid hjo; clear hjo
                    go_wp2
                    go_roundg (go2 - 1)
                    case measure => omega
                    case rel => exact ⟨p + 1, au, nu, cu, by omega, by omega, by go_num, rfl, HJO.out, HBU.out⟩
              · have hz : z = y := by rw [HZ.out, if_neg hy0]
                have HYZ := Lib.hid hz; clear hz
                have KZ := KB
                obtain ⟨ys, hys⟩ : ∃ q, q = imgS l z := ⟨_, rfl⟩
                obtain ⟨my, hmy⟩ : ∃ q, q = (imgS l z).length := ⟨_, rfl⟩
                have hyp : ys = putsL l y := by rw [hys, putsL_of l y hl0 (imgS l z) (by rw [HZ.out]), if_neg hy0]
                have hmyp : my = (putsL l y).length := by rw [← hyp, hys, hmy]
                have ho4 := HO3.out
                rw [← hmy, ← hys] at ho4
                have HOY : Hid (Own wx.heap.size w3 a3 my c3 ys) := Lib.hid ho4
                rw [← hmy]
                have HYP := Lib.hid hyp; have HMY := Lib.hid hmyp
                have HYS : Hid (Small ys) := Lib.hid (by rw [hyp]; exact putsL_small l y hl1 hl2 hys'.1 hys'.2)
                clear hys hmy hyp hmyp ho4 
                obtain ⟨cy, hcy⟩ : ∃ q, q = c3 := ⟨_, rfl⟩
                rw [← hcy] at HOY ⊢
                clear hcy
                obtain ⟨gy, rfl, hgy1, hgy2⟩ := HOY.out.block (by have := HMY.out; have := (putsL_len l y).2; omega)
                have hmy3 : my ≤ 3 := by have := HMY.out; have := (putsL_len l y).1; omega
                have hmyl : ys.length = my := HOY.out.len
                have HOX2 := Lib.hid (HOX.out.below KZ.out)
                have hoff0 : Off ax gy := fun x hx => by have := (HOX.out.lo x hx).2; omega
                have HOF0 := Lib.hid hoff0; clear hoff0
                have hbz := HBX.out.trans (KZ.out.mono hzx)
                have HBZ := Lib.hid hbz; clear hbz
                obtain ⟨nx0, hnx0⟩ : ∃ q, q = joinF [] (actL l (now.take p)) := ⟨_, rfl⟩
                rw [← hnx0] at HOX2 HST
                have hnxl : nx ≤ 12000 := by
                  have h1 := HOX.out.len
                  have h2 := joinF_len [] (actL l (now.take p))
                  have h3 := actL_len l (now.take p)
                  rw [List.length_take] at h3
                  simp only [List.length_nil] at h2
                  omega
                have HNX := Lib.hid HOX2.out.len
                clear hnx0
                go_wp2
                go_loopg [8, 11] my (fun gh v i wy => ∃ (j : Nat) (au : Option Addr) (nu cu : Nat), j ≤ my ∧ gh + j = my ∧ i = .int .i64 j ∧ v = .slice au nu cu ∧ Own wk.heap.size wy au nu cu (joinF nx0 (ys.take j)) ∧ Off au gy ∧ Own wx.heap.size wy (some ⟨gy, 0, none⟩) my cy ys ∧ Below wk.heap.size wk wy)
                case atStart => exact ⟨0, ax, nx, cx, Nat.zero_le _, rfl, rfl, rfl, HOX2.out, HOF0.out, HOY.out, HBZ.out⟩
                case round =>
                  obtain ⟨j, au, nu, cu, hj, hgj, rfl, rfl, hou, hoff, hoy, hbu⟩ := hrel
                  obtain ⟨wu, rfl⟩ : ∃ x, x = wr := ⟨_, rfl⟩
                  have HOU := Lib.hid hou; have HOFF := Lib.hid hoff; have HOY2 := Lib.hid hoy; have HBU := Lib.hid hbu; clear hou hoff hoy hbu
                  by_cases hjl : j < my
                  · have cj0 := HOY2.out.cellAt j hjl
                    have hst2 := joinF_step nx0 ys j (by omega)
                    obtain ⟨x, hx⟩ : ∃ x, x = ys.getD j 0 := ⟨_, rfl⟩
                    have hxs := HYS.out _ (getD_mem ys j (by omega))
                    rw [← hx] at cj0 hst2 hxs
                    have cj := cj0; clear cj0
                    obtain ⟨jl, hjle⟩ : ∃ q, q = joinF nx0 (ys.take j) := ⟨_, rfl⟩
                    rw [← hjle] at hst2 HOU
                    have hul : nu ≤ 13000 := by
                      have h1 := HOU.out.len
                      have h2 := joinF_len nx0 (ys.take j)
                      rw [← hjle, List.length_take] at h2
                      have := HNX.out
                      omega
                    have HST2 := Lib.hid hst2; clear hst2 hjle hx
                    obtain ⟨hx1, hx2⟩ := hxs
                    have hzu : wk.heap.size ≤ wu.heap.size := HBU.out.size
                    have hgu : gy < wu.heap.size := by obtain ⟨g', e', _, h'⟩ := HOY2.out.block (by omega); cases e'; exact h'
                    have ex : IntKind.i64.wrap (-x) = -x := IntWalk.i64_in _ (by omega)
                    have g0 : 0 ≤ (j : Int) := by omega
                    have g1 : (j : Int) < (my : Int) := by omega
                    have HLn := Lib.hid HOU.out.len
                    have mcap := HOU.out.cap_ge
                    rcases Nat.eq_zero_or_pos nu with hm0 | hm0
                    · subst hm0
                      have hnl : jl = [] := List.eq_nil_of_length_eq_zero HLn.out
                      have HNL := Lib.hid hnl; clear hnl
                      go_wp2
                      go_quiet (fail)
                      have HOn : Hid (OwnV wk.heap.size (wu.drewN nq) (.slice au 0 cu) 0 jl) := Lib.hid (HOU.out.heap (fun _ _ => rfl))
                      have HBn : Hid (Below wk.heap.size wk (wu.drewN nq)) := Lib.hid (HBU.out.trans (below_draws _ _ _))
                      have HOYn : Hid (Own wx.heap.size (wu.drewN nq) (some ⟨gy, 0, none⟩) my cy ys) := Lib.hid (HOY2.out.heap (fun _ _ => rfl))
                      have hn1 : (wu.drewN nq).cell? ⟨gy, j, none⟩ = some (.int .i64 x) := cj
                      have hzn : wk.heap.size ≤ (wu.drewN nq).heap.size := hzu
                      have hgn : gy < (wu.drewN nq).heap.size := hgu
                      clear cj HOU HBU HOY2 hzu hgu
                      generalize wu.drewN nq = wd at *
                      go_wp2_with (at_builtin; refine wpList_append_own_at _ rfl _ _ 22 rfl wk.heap.size 2 i0 (.int .i64 0) 1 8 Try.underlying22 hi hz0 hz1 hz2 rfl (by decide) _ _ _ rfl (World.ownsRow.alloc HOn.out _) ⟨wd.heap.size, 0, none⟩ 1 1 [.int .i64 x] rfl rfl (one_new wd x _) (one_cell _) (by unfold maxLen; omega) (by omega) (by simp; omega) ?_)
                      intro v' w5 hown' hgrow _ hat
                      have ho' := OwnV.appended hown'
                      have HB' := Lib.hid (below_appended HBn.out hzn HOn.out hgrow)
                      have HOY' := Lib.hid (Own.keptOff (HOYn.out.alloc _) hgrow HOFF.out)
                      obtain ⟨av', cv', rfl, ho2⟩ := ho'.form
                      have HOFF' := Lib.hid (off_new hat HOFF.out (by first | omega | (simp; omega)))
                      clear hown' hgrow hat
                      have HO' := Lib.hid ho2; clear ho' ho2
                      go_wp2
                      go_roundg (gk - 1)
                      case measure => omega
                      case rel =>
                        refine ⟨j + 1, av', _, cv', by omega, by omega, by go_num, rfl, ?_, HOFF'.out, HOY'.out, HB'.out⟩
                        rw [HST2.out, show freeStep jl x = jl ++ [x] from by rw [HNL.out]; rfl]
                        exact HO'.out
                    · obtain ⟨gu, rfl, hg1, hg2⟩ := HOU.out.block hm0
                      have cl := HOU.out.cellAt (nu - 1) (by omega)
                      have hlast := last_eq jl nu HLn.out hm0
                      obtain ⟨t, ht⟩ : ∃ t, t = jl.getD (nu - 1) 0 := ⟨_, rfl⟩
                      rw [← ht] at cl hlast
                      have HLA := Lib.hid hlast; clear hlast ht
                      have j0 : 0 ≤ (nu : Int) - 1 := by omega
                      have j1 : (nu : Int) - 1 < (nu : Int) := by omega
                      have j2 : ((nu : Int) - 1).toNat = nu - 1 := by omega
                      have j3 : IntKind.i64.wrap ((nu : Int) - 1) = (nu : Int) - 1 := IntWalk.i64_in _ (by omega)
                      by_cases hxy : t = -x
                      · have t1 : (t == -x) = true := by simp [hxy]
                        have HXY := Lib.hid hxy; clear hxy
                        go_wp2
                        go_quiet (fail)
                        have HOn : Hid (Own wk.heap.size (wu.drewN nq) (some ⟨gu, 0, none⟩) (nu - 1) cu jl.dropLast) := Lib.hid (Own.pop (HOU.out.heap (fun _ _ => rfl)))
                        have HBn : Hid (Below wk.heap.size wk (wu.drewN nq)) := Lib.hid (HBU.out.trans (below_draws _ _ _))
                        have HOYn : Hid (Own wx.heap.size (wu.drewN nq) (some ⟨gy, 0, none⟩) my cy ys) := Lib.hid (HOY2.out.heap (fun _ _ => rfl))
                        go_wp2
                        go_roundg (gk - 1)
                        case measure => omega
                        case rel =>
                          refine ⟨j + 1, some ⟨gu, 0, none⟩, nu - 1, cu, by omega, by omega, by go_num, rfl, ?_, HOFF.out, HOYn.out, HBn.out⟩
                          rw [HST2.out, show freeStep jl x = jl.dropLast from by unfold freeStep; rw [HLA.out, HXY.out, if_pos rfl]]
                          exact HOn.out
                      · have t1 : (t == -x) = false := by simp [hxy]
                        have HXY := Lib.hid hxy; clear hxy
                        go_wp2
                        go_quiet (fail)
                        have HOn : Hid (OwnV wk.heap.size (wu.drewN nq) (.slice (some ⟨gu, 0, none⟩) nu cu) nu jl) := Lib.hid (HOU.out.heap (fun _ _ => rfl))
                        have HBn : Hid (Below wk.heap.size wk (wu.drewN nq)) := Lib.hid (HBU.out.trans (below_draws _ _ _))
                        have HOYn : Hid (Own wx.heap.size (wu.drewN nq) (some ⟨gy, 0, none⟩) my cy ys) := Lib.hid (HOY2.out.heap (fun _ _ => rfl))
                        have hn1 : (wu.drewN nq).cell? ⟨gy, j, none⟩ = some (.int .i64 x) := cj
                        have hzn : wk.heap.size ≤ (wu.drewN nq).heap.size := hzu
                        have hgn : gy < (wu.drewN nq).heap.size := hgu
                        clear cj cl HOU HBU HOY2 hzu hgu
                        generalize wu.drewN nq = wd at *
                        go_wp2_with (at_builtin; refine wpList_append_own_at _ rfl _ _ 22 rfl wk.heap.size 2 i0 (.int .i64 0) 1 8 Try.underlying22 hi hz0 hz1 hz2 rfl (by decide) _ _ _ rfl (World.ownsRow.alloc HOn.out _) ⟨wd.heap.size, 0, none⟩ 1 1 [.int .i64 x] rfl rfl (one_new wd x _) (one_cell _) (by unfold maxLen; omega) (by omega) (by simp; omega) ?_)
                        intro v' w5 hown' hgrow _ hat
                        have ho' := OwnV.appended hown'
                        have HB' := Lib.hid (below_appended HBn.out hzn HOn.out hgrow)
                        have HOY' := Lib.hid (Own.keptOff (HOYn.out.alloc _) hgrow HOFF.out)
                        obtain ⟨av', cv', rfl, ho2⟩ := ho'.form
                        have HOFF' := Lib.hid (off_new hat HOFF.out (by first | omega | (simp; omega)))
                        clear hown' hgrow hat
                        have HO' := Lib.hid ho2; clear ho' ho2
                        go_wp2
                        go_roundg (gk - 1)
                        case measure => omega
                        case rel =>
                          refine ⟨j + 1, av', _, cv', by omega, by omega, by go_num, rfl, ?_, HOFF'.out, HOY'.out, HB'.out⟩
                          rw [HST2.out, show freeStep jl x = jl ++ [x] from by unfold freeStep; rw [HLA.out, if_neg (fun e => HXY.out (Option.some.inj e))]]
                          exact HO'.out
                  · have hjm : j = my := by omega
                    have HJ := Lib.hid hjm; clear hjm
                    have hjo := HOU.out
                    rw [HJ.out, List.take_of_length_le (by omega), HYP.out, ← HST.out] at hjo
                    have HJO := Lib.hid hjo; clear hjo
                    go_wp2
                    go_roundg (go2 - 1)
                    case measure => omega
                    case rel => exact ⟨p + 1, au, nu, cu, by omega, by omega, by go_num, rfl, HJO.out, HBU.out⟩
            exact AllReadyH.nil
          exact AllReadyH.nil
        · have hpe : p = nv := by omega
          have HP := Lib.hid hpe; clear hpe
          have hjo := HOX.out
          rw [HP.out, List.take_of_length_le (by have := HOV.out.len; omega)] at hjo
          have hlen := hjo.len
          have HJO := Lib.hid hjo; clear hjo
          have hnb : nx ≤ 12000 := by
            have h2 := joinF_len [] (actL l now)
            have h3 := actL_len l now
            have h4 := HOV.out.len
            simp only [List.length_nil] at h2
            omega
          have hjs : Small (joinF [] (actL l now)) := joinF_small _ _ (fun _ h => by cases h) (actL_small l hl1 hl2 now HSN.out)
          have HJS := Lib.hid hjs; clear hjs
          have hpm := hpm2.out
          rw [hlen] at hpm
          have hbb := HBV.out.trans (HBX.out.mono hz)
          have HBB := Lib.hid hbb; clear hbb hlen
          by_cases h4 : 4000 < nx
          · rw [if_pos h4] at hpm
            obtain ⟨rfl, rfl⟩ := Prod.mk.injEq .. ▸ hpm
            clear hpm
            go_wp2
            go_ret2
            exact ⟨none, 0, 0, rfl, by omega, Own.nil _ _, HBB.out⟩
          · rw [if_neg h4] at hpm
            have HPM2 := Lib.hid hpm; clear hpm
            go_wp2
            go_roundg (go1 - 1)
            case measure => omega
            case rel => exact ⟨k + 1, _, ax, nx, cx, by omega, by omega, by go_num, rfl, by omega, HJO.out.mono hz, HJS.out, HPM2.out, HBB.out⟩
    · have hkm : k = m := by omega
      have HK := Lib.hid hkm; clear hkm
      have hp := HPM.out
      rw [HK.out, ← HLN.out, List.drop_length, mPass_nil] at hp
      obtain ⟨rfl, rfl⟩ := Prod.mk.injEq .. ▸ hp
      clear hp
      go_wp2
      go_ret2
      exact ⟨av, nv, cv, rfl, by omega, HOV.out, HBV.out⟩

end Go.Proofs.Ytmlejlediflaaaa
