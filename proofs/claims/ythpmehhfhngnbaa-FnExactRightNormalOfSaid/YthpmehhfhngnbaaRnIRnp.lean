/- The right normal form of a braid: the program's exported function. -/
import Derived.Test.YthpmehhfhngnbaaRnSRno
import Derived.Test.YthpmehhfhngnbaaRnIRn2
import Derived.Test.YthpmehhfhngnbaaRnIBwd
import Derived.Test.YthpmehhfhngnbaaRnIs2
namespace Go.Proofs.Ythpmehhfhngnbaa
open Go.RowKit Go.ChangeShapes

theorem But.wide {g lo hi : Nat} {w w' : World} (h : But g w w') (h1 : lo ≤ g) (h2 : g < hi) : Wrote lo hi w w' := ⟨h.os, h.tape, h.output, h.size, fun k hk hd => h.block k hk (by omega)⟩

theorem back_step {m n k : Nat} {cur r0 : List (List Int)} {row : List Int} (hl : cur.length = n) (hrow : row = rowAt cur k) (h : ∀ q, q < n → rowAt cur q = if q < k then backR m (rowAt r0 q) else rowAt r0 q) (q : Nat) (hq : q < n) :
  rowAt (cur.set k (backR m row)) q = if q < k + 1 then backR m (rowAt r0 q) else rowAt r0 q := by
 by_cases he : q = k
 ·subst he
  have e := h q hq
  rw [if_neg (by omega)] at e
  rw [if_pos (by omega), hrow, e]
  simp [rowAt, List.getD, hl, hq]
 ·have e := h q hq
  rw [show rowAt (cur.set k (backR m row)) q = rowAt cur q by simp [rowAt, List.getD, Ne.symm he], e]
  by_cases hc : q < k
  ·rw [if_pos hc, if_pos (by omega)]
  ·rw [if_neg hc, if_neg (by omega)]

theorem back_all {m n k : Nat} {cur r0 : List (List Int)} (hl : cur.length = n) (h0 : r0.length = n) (hk : n ≤ k) (h : ∀ q, q < n → rowAt cur q = if q < k then backR m (rowAt r0 q) else rowAt r0 q) : cur = r0.map (backR m) := by
 refine List.ext_getElem (by simp [hl, h0]) fun j hj hj2 => ?_
 have e := h j (by omega)
 rw [if_pos (by omega)] at e
 have e1 : cur[j] = rowAt cur j := by simp [rowAt, List.getD, List.getElem?_eq_getElem hj]
 have e2 : (r0.map (backR m))[j] = backR m (rowAt r0 j) := by
  rw [List.getElem_map]
  simp [rowAt, List.getD, List.getElem?_eq_getElem (show j < r0.length by omega)]
 rw [e1, e2, e]

set_option maxRecDepth 100000 in
set_option maxHeartbeats 800000 in
theorem implRightNormalOf_any (s : Int) (a : Option Addr) (n cap : Nat) (xs : List Int) (w : World) (hr : Reads w a n xs) (_hf : Fits xs) (hn : n ≤ 1048576) (fs fp : Int) (frs : List (List Int)) (fc : Int) (hM : mROf s xs = (fs, fp, frs, fc)) :
  Calls Try.prog 24 #[.agg #[.int .i64 s, .slice a n cap]] w (RetNCS w fs fp frs fc) := by
 have HL := Lib.hid hr.len
 have HR := Lib.hid hr; clear hr
 unfold mROf at hM
 cases hB : isBraid s xs with
 | true =>
  rw [hB, if_pos rfl] at hM
  obtain ⟨m, rfl⟩ : ∃ m : Nat, s = m := ⟨s.toNat, by have := (isBraid_iff _ _).1 hB; omega⟩
  obtain ⟨m1, m8, hlen, hlet⟩ := letters_of hB
  have HT := Lib.hid (letters_rev hlet); clear hlet
  rw [Int.toNat_natCast] at hM
  rw [HL.out] at hlen
  obtain ⟨e0, kf, hk⟩ : ∃ e0 kf, ofW m xs.reverse = (e0, kf) := ⟨_, _, rfl⟩
  rw [hk] at hM
  have HK := Lib.hid hk; clear hk
  simp only [Prod.mk.injEq] at hM
  obtain ⟨rfl, rfl, rfl, rfl⟩ := hM
  have hbd := ofW_len (m := m) xs.reverse HK.out
  rw [List.length_reverse, HL.out] at hbd
  have HNL := Lib.hid (ofW_nl m1 m8 HT.out HK.out)
  go_enter Try.func24, Try.ntmps24
  have A := Lib.hid ((At2.place w (.int .i64 m) (.slice a n cap) 31 w.heap.size rfl).alloc (.cells #[.int .i64 0, .int .i64 0, .slice none 0 0] 28))
  have Z := Lib.hid (At3.place (w.alloc (.cells #[.int .i64 m, .slice a n cap] 31)) (.int .i64 0) (.int .i64 0) (.slice none 0 0) 28 (w.heap.size + 1) (by simp))
  have B := Lib.hid ((below1 w (.cells #[.int .i64 m, .slice a n cap] 31)).alloc (by simp) (.cells #[.int .i64 0, .int .i64 0, .slice none 0 0] 28))
  go_wp2_with fail
  refine (implIsBraid_any m a n cap xs _ (HR.out.below B.out) hn).mono ?_
  rw [hB]
  rintro e w1 ⟨rfl, hb⟩
  have hz1 : w.heap.size + 1 + 1 ≤ w1.heap.size := by have := hb.size; simp at this; omega
  replace A := Lib.hid (A.out.below hb)
  replace Z := Lib.hid (Z.out.below hb)
  replace B := Lib.hid (below_go B.out hb (by simp; omega))
  clear hb
  obtain ⟨q0, q1, q2, q3, q4⟩ := A.out
  have HA0 : Hid (Reads w1 a n xs) := Lib.hid (HR.out.below B.out)
  go_wp2_with fail
  refine (backwards_any m a n cap xs _ HA0.out hn).mono ?_
  rintro e w2 ⟨a2, n2, c2, rfl, ho2, hb⟩
  have hz2 : w1.heap.size ≤ w2.heap.size := hb.size
  replace A := Lib.hid (A.out.below hb)
  replace Z := Lib.hid (Z.out.below hb)
  replace B := Lib.hid (below_go B.out hb (by omega))
  have R2 := Lib.hid ho2.reads
  have hl2 : n2 ≤ 200 := by have h9 := ho2.reads.len; rw [List.length_reverse, HL.out] at h9; omega
  clear hb ho2 q0 q1 q2 q3 q4
  obtain ⟨q0, q1, q2, q3, q4⟩ := A.out
  go_wp2_with fail
  refine (normalOf_any m m1 m8 a2 n2 c2 xs.reverse _ R2.out HT.out (by omega) e0 kf HK.out).mono ?_
  rintro e w3 ⟨a3, n3, c3, rfl, hc3, ho3, hb⟩
  have hz3 : w2.heap.size ≤ w3.heap.size := hb.size
  replace A := Lib.hid (A.out.below hb)
  replace Z := Lib.hid (Z.out.below hb)
  replace B := Lib.hid (below_go B.out hb (by omega))
  have O := Lib.hid ho3
  have hl3 : n3 ≤ 200 := by have h9 := ho3.len; omega
  clear hb ho3 q0 q1 q2 q3 q4
  obtain ⟨q0, q1, q2, q3, q4⟩ := A.out
  have P := Lib.hid (At3.place w3 (.int .i64 m) (.int .i64 e0) (.slice a3 n3 c3) 28 w3.heap.size rfl)
  obtain ⟨p0, ⟨p1, p2, p3⟩, p4, p5, p6⟩ := P.out
  replace A := Lib.hid (A.out.alloc (.cells #[.int .i64 m, .int .i64 e0, .slice a3 n3 c3] 28))
  replace Z := Lib.hid (Z.out.alloc (.cells #[.int .i64 m, .int .i64 e0, .slice a3 n3 c3] 28))
  replace B := Lib.hid (B.out.alloc B.out.size (.cells #[.int .i64 m, .int .i64 e0, .slice a3 n3 c3] 28))
  have OI := Lib.hid (O.out.within.alloc (.cells #[.int .i64 m, .int .i64 e0, .slice a3 n3 c3] 28))
  go_wp2_with fail
  refine (reverse_all a3 n3 c3 kf _ (by omega) OI.out).mono ?_
  rintro e w4 ⟨rfl, ho4, hw4⟩
  have hz4 : w3.heap.size + 1 ≤ w4.heap.size := by have h9 := hw4.size; simp at h9; omega
  replace P := Lib.hid (P.out.wrote hw4 (.inr (by omega)))
  replace A := Lib.hid (A.out.wrote hw4 (.inl (by omega)))
  replace Z := Lib.hid (Z.out.wrote hw4 (.inl (by omega)))
  replace B := Lib.hid (below_write B.out hw4 (by omega) B.out.size)
  replace O := Lib.hid ho4
  clear hw4 ho4 OI p0 p1 p2 p3 p4 p5 p6 q0 q1 q2 q3 q4
  obtain ⟨p0, ⟨p1, p2, p3⟩, p4, p5, p6⟩ := P.out
  obtain ⟨r0, hr0⟩ : ∃ r0, r0 = kf.reverse := ⟨_, rfl⟩
  rw [← hr0] at O
  have HR0 := Lib.hid hr0; clear hr0
  have HN3 : Hid (r0.length = n3) := Lib.hid O.out.1.len
  have HLK : Hid (kf.length = n3) := Lib.hid (by have h9 := HN3.out; rw [HR0.out, List.length_reverse] at h9; exact h9)
  have KZ : Hid (w.heap.size + 1 + 1 ≤ w2.heap.size) := Lib.hid (by omega)
  go_wp2_with fail
  clear p0 p1 p2 p3 p4 p5 p6
  go_loopw [5, 6, 20] (fun _ _ i wr => ∃ k cur, k ≤ n3 ∧ i = .int .i64 (k : Nat) ∧ OwnSIn w2.heap.size w3.heap.size wr a3 n3 cur ∧ (∀ q, q < n3 → rowAt cur q = if q < k then backR m (rowAt r0 q) else rowAt r0 q) ∧ At3 wr w3.heap.size (.int .i64 m) (.int .i64 e0) (.slice a3 n3 c3) ∧ At2 wr w.heap.size (.int .i64 m) (.slice a n cap) ∧ At3 wr (w.heap.size + 1) (.int .i64 0) (.int .i64 0) (.slice none 0 0) ∧ Below w.heap.size w wr ∧ w3.heap.size + 1 ≤ wr.heap.size) (fun _ _ i _ => n3 - (intOf i).toNat)
  case atStart => exact ⟨0, r0, by omega, by simp, O.out, fun q hq => by rw [if_neg (by omega)], P.out, A.out, Z.out, B.out, hz4⟩
  case round =>
   obtain ⟨k, cur, hk, rfl, hO, hq, hP, hA, hZ, hB9, hs9⟩ := hrel
   clear O P A Z B
   have O := Lib.hid hO
   have HQ := Lib.hid hq
   have P := Lib.hid hP
   have A := Lib.hid hA
   have Z := Lib.hid hZ
   have B := Lib.hid hB9
   have S9 := Lib.hid hs9
   clear hO hq hP hA hZ hB9 hs9
   by_cases hlt : k < n3
   ·obtain ⟨g, off, ha3, hgl, hgh, hRW⟩ : ∃ g off, a3 = some ⟨g, off, none⟩ ∧ w2.heap.size ≤ g ∧ g < w3.heap.size ∧ RowsAt wr g off n3 cur := by
     have h9 := O.out.1.2.2
     have h8 := O.out
     rcases h9 with h | ⟨g, off, rfl, _⟩
     ·omega
     ·exact ⟨g, off, rfl, (h8.1.rowsAt (by omega)).2, (h8.2.resolve_left (by omega)) _ rfl, (h8.1.rowsAt (by omega)).1⟩
    subst ha3
    have R := Lib.hid hRW
    have HGL := Lib.hid hgl
    have HGH := Lib.hid hgh
    clear hRW hgl hgh
    obtain ⟨row, hrow⟩ : ∃ row, row = rowAt cur k := ⟨_, rfl⟩
    have HROW := Lib.hid hrow
    have CR := Lib.hid (R.out.2.2.2.1 k hlt)
    rw [← hrow] at CR
    clear hrow
    obtain ⟨z0, z1, z2, z3, z4, z5, z6, z7⟩ := CR.out.flat
    go_upto_region 8 with fail
    have SR : Hid (Sim m row) := Lib.hid (by rw [HROW.out, HQ.out k hlt, if_neg (by omega), HR0.out]; exact HNL.out.sims _ (List.mem_reverse.1 (rowAt_getElem (by rw [List.length_reverse]; have h8 := HLK.out; omega))))
    have HBK := Lib.hid (backR_sim SR.out).len
    have P8 := Lib.hid (P.out.alloc (.cells #[.int .u8 (at8 row 0), .int .u8 (at8 row 1), .int .u8 (at8 row 2), .int .u8 (at8 row 3), .int .u8 (at8 row 4), .int .u8 (at8 row 5), .int .u8 (at8 row 6), .int .u8 (at8 row 7)] 78))
    have A8 := Lib.hid (A.out.alloc (.cells #[.int .u8 (at8 row 0), .int .u8 (at8 row 1), .int .u8 (at8 row 2), .int .u8 (at8 row 3), .int .u8 (at8 row 4), .int .u8 (at8 row 5), .int .u8 (at8 row 6), .int .u8 (at8 row 7)] 78))
    have Z8 := Lib.hid (Z.out.alloc (.cells #[.int .u8 (at8 row 0), .int .u8 (at8 row 1), .int .u8 (at8 row 2), .int .u8 (at8 row 3), .int .u8 (at8 row 4), .int .u8 (at8 row 5), .int .u8 (at8 row 6), .int .u8 (at8 row 7)] 78))
    have B8 := Lib.hid (B.out.alloc B.out.size (.cells #[.int .u8 (at8 row 0), .int .u8 (at8 row 1), .int .u8 (at8 row 2), .int .u8 (at8 row 3), .int .u8 (at8 row 4), .int .u8 (at8 row 5), .int .u8 (at8 row 6), .int .u8 (at8 row 7)] 78))
    have R8 := Lib.hid ((R.out.own (Nat.zero_le g)).alloc (.cells #[.int .u8 (at8 row 0), .int .u8 (at8 row 1), .int .u8 (at8 row 2), .int .u8 (at8 row 3), .int .u8 (at8 row 4), .int .u8 (at8 row 5), .int .u8 (at8 row 6), .int .u8 (at8 row 7)] 78))
    have Y8 := Lib.hid (Row8.place wr .u8 row 78 wr.heap.size rfl SR.out.len)
    clear z0 z1 z2 z3 z4 z5 z6 z7 CR
    generalize (wr.alloc (.cells #[.int .u8 (at8 row 0), .int .u8 (at8 row 1), .int .u8 (at8 row 2), .int .u8 (at8 row 3), .int .u8 (at8 row 4), .int .u8 (at8 row 5), .int .u8 (at8 row 6), .int .u8 (at8 row 7)] 78)) = W8 at P8 A8 Z8 B8 R8 Y8 ⊢
    have KB : Hid (Below W8.heap.size W8 W8.drew) := Lib.hid ((Below.refl W8.heap.size W8).drew)
    have SH : Hid (∀ X, Below W8.heap.size W8 X → X.cell? ⟨w3.heap.size, 2, none⟩ = some (.slice (some ⟨g, off, none⟩) n3 c3) ∧ X.cell? ⟨w.heap.size, 0, none⟩ = some (.int .i64 m) ∧ (X.cell? ⟨wr.heap.size, 0, none⟩ = some (.int .u8 (at8 row 0)) ∧ X.cell? ⟨wr.heap.size, 1, none⟩ = some (.int .u8 (at8 row 1)) ∧ X.cell? ⟨wr.heap.size, 2, none⟩ = some (.int .u8 (at8 row 2)) ∧ X.cell? ⟨wr.heap.size, 3, none⟩ = some (.int .u8 (at8 row 3)) ∧ X.cell? ⟨wr.heap.size, 4, none⟩ = some (.int .u8 (at8 row 4)) ∧ X.cell? ⟨wr.heap.size, 5, none⟩ = some (.int .u8 (at8 row 5)) ∧ X.cell? ⟨wr.heap.size, 6, none⟩ = some (.int .u8 (at8 row 6)) ∧ X.cell? ⟨wr.heap.size, 7, none⟩ = some (.int .u8 (at8 row 7)))) := Lib.hid fun X h => ⟨(P8.out.below h).2.1.2.2, (A8.out.below h).2.1, (Y8.out.below h).flat⟩
    refine wp_region_held_drew (S := (fun w' => w'.cell? ⟨w3.heap.size, 2, none⟩ = some (.slice (some ⟨g, off, none⟩) n3 c3) ∧ w'.cell? ⟨w.heap.size, 0, none⟩ = some (.int .i64 m) ∧ (w'.cell? ⟨wr.heap.size, 0, none⟩ = some (.int .u8 (at8 row 0)) ∧ w'.cell? ⟨wr.heap.size, 1, none⟩ = some (.int .u8 (at8 row 1)) ∧ w'.cell? ⟨wr.heap.size, 2, none⟩ = some (.int .u8 (at8 row 2)) ∧ w'.cell? ⟨wr.heap.size, 3, none⟩ = some (.int .u8 (at8 row 3)) ∧ w'.cell? ⟨wr.heap.size, 4, none⟩ = some (.int .u8 (at8 row 4)) ∧ w'.cell? ⟨wr.heap.size, 5, none⟩ = some (.int .u8 (at8 row 5)) ∧ w'.cell? ⟨wr.heap.size, 6, none⟩ = some (.int .u8 (at8 row 6)) ∧ w'.cell? ⟨wr.heap.size, 7, none⟩ = some (.int .u8 (at8 row 7))))) (by kernel_rfl) ?_ (fun hHeld => ?_)
    ·first | with_reducible exact SH.out _ KB.out | with_reducible exact hS2
    refine wpAnyH_take (i := 0) (oi := { dst := some 25, op := Op.fieldAddr 28 (Operand.tmp 4) 2, type := 0, pos := "l03_normal.go:215", after := #[], guard := none }) (v := ?_) rfl (by kernel_rfl) (by kernel_rfl) (by kernel_rfl) (fun _ _ _ h => h) (Or.inl ⟨by rfl, ?_⟩) (by assumption) ?_
    rotate_left
    ·intro w hSw
     (try dsimp only at hSw)
     go_simp
     try with_reducible rfl
    try simp only [Act.put, List.setIfInBounds_toArray, List.set_cons_zero, List.set_cons_succ]
    refine wpAnyH_take (i := 1) (oi := { dst := some 26, op := Op.load 26 (Operand.tmp 25), type := 26, pos := "l03_normal.go:215", after := #[{ on := 0, ground := Ground.data }], guard := none }) (v := ?_) rfl (by kernel_rfl) (by kernel_rfl) (by kernel_rfl) (fun _ _ _ h => h) (Or.inl ⟨by rfl, ?_⟩) (by assumption) ?_
    rotate_left
    ·intro w hSw
     (try dsimp only at hSw)
     go_simp
     try with_reducible rfl
    try simp only [Act.put, List.setIfInBounds_toArray, List.set_cons_zero, List.set_cons_succ]
    refine wpAnyH_take (i := 2) (oi := { dst := some 27, op := Op.move (Operand.tmp 5), type := 3, pos := "l03_normal.go:215", after := #[], guard := none }) (v := ?_) rfl (by kernel_rfl) (by kernel_rfl) (by kernel_rfl) (fun _ _ _ h => h) (Or.inl ⟨by rfl, ?_⟩) (by assumption) ?_
    rotate_left
    ·intro w hSw
     (try dsimp only at hSw)
     go_simp
     try with_reducible rfl
    try simp only [Act.put, List.setIfInBounds_toArray, List.set_cons_zero, List.set_cons_succ]
    refine wpAnyH_take (i := 3) (oi := { dst := some 28, op := Op.load 78 (Operand.tmp 6), type := 78, pos := "l03_normal.go:215", after := #[], guard := none }) (v := ?_) rfl (by kernel_rfl) (by kernel_rfl) (by kernel_rfl) (fun _ _ _ h => h) (Or.inl ⟨by rfl, ?_⟩) (by assumption) ?_
    rotate_left
    ·intro w hSw
     (try dsimp only at hSw)
     go_simp
     try with_reducible rfl
    try simp only [Act.put, List.setIfInBounds_toArray, List.set_cons_zero, List.set_cons_succ]
    refine wpAnyH_take (i := 4) (oi := { dst := some 29, op := Op.fieldAddr 31 (Operand.tmp 1) 0, type := 0, pos := "l03_normal.go:215", after := #[], guard := none }) (v := ?_) rfl (by kernel_rfl) (by kernel_rfl) (by kernel_rfl) (fun _ _ _ h => h) (Or.inl ⟨by rfl, ?_⟩) (by assumption) ?_
    rotate_left
    ·intro w hSw
     (try dsimp only at hSw)
     go_simp
     try with_reducible rfl
    try simp only [Act.put, List.setIfInBounds_toArray, List.set_cons_zero, List.set_cons_succ]
    refine wpAnyH_take (i := 5) (oi := { dst := some 30, op := Op.load 2 (Operand.tmp 29), type := 2, pos := "l03_normal.go:215", after := #[{ on := 4, ground := Ground.data }], guard := none }) (v := ?_) rfl (by kernel_rfl) (by kernel_rfl) (by kernel_rfl) (fun _ _ _ h => h) (Or.inl ⟨by rfl, ?_⟩) (by assumption) ?_
    rotate_left
    ·intro w hSw
     (try dsimp only at hSw)
     go_simp
     try with_reducible rfl
    try simp only [Act.put, List.setIfInBounds_toArray, List.set_cons_zero, List.set_cons_succ]
    refine wpAnyH_ready (rs := [6]) (by kernel_rfl) (by simp) ?_
    refine AllReadyH.cons (o := { dst := some 31, op := Op.call { callee := Callee.value (Operand.func 65), args := #[Operand.tmp 28, Operand.tmp 30], argTypes := #[78, 2] }, type := 78, pos := "l03_normal.go:215", after := #[{ on := 3, ground := Ground.data }, { on := 5, ground := Ground.data }], guard := none }) rfl (fun K hK => ?_) ?_
    ·go_simp
     refine (back_any m row SR.out _).mono ?_
     rintro e u1 ⟨rfl, gg⟩
     replace KB := Lib.hid (below_go KB.out gg KB.out.size)
     clear gg
     go_wp2_with fail
     refine hK.out _ _ ?_ (fun hHeld => ?_)
     ·first | with_reducible exact SH.out _ KB.out | with_reducible exact hS2
     clear hK K
     try simp only [Act.put, List.setIfInBounds_toArray, List.set_cons_zero, List.set_cons_succ]
     refine wpAnyH_take (i := 7) (oi := { dst := some 32, op := Op.indexAddr 26 (Operand.tmp 26) (Operand.tmp 27), type := 0, pos := "l03_normal.go:215", after := #[{ on := 1, ground := Ground.data }, { on := 2, ground := Ground.data }, { on := 0, ground := Ground.phase }, { on := 1, ground := Ground.phase }, { on := 2, ground := Ground.phase }, { on := 3, ground := Ground.phase }, { on := 4, ground := Ground.phase }, { on := 5, ground := Ground.phase }, { on := 6, ground := Ground.phase }], guard := none }) (v := ?_) rfl (by kernel_rfl) (by kernel_rfl) (by kernel_rfl) (fun _ _ _ h => h) (Or.inl ⟨by rfl, ?_⟩) (by assumption) ?_
     rotate_left
     ·intro w hSw
      (try dsimp only at hSw)
      go_simp
      try with_reducible rfl
     try simp only [Act.put, List.setIfInBounds_toArray, List.set_cons_zero, List.set_cons_succ]
     refine wpAnyH_ready (rs := [8]) (by kernel_rfl) (by simp) ?_
     refine AllReadyH.cons (o := { dst := none, op := Op.store 78 (Operand.tmp 32) (Operand.tmp 31), type := 0, pos := "l03_normal.go:215", after := #[{ on := 7, ground := Ground.data }, { on := 6, ground := Ground.data }, { on := 6, ground := Ground.chain }, { on := 0, ground := Ground.phase }, { on := 1, ground := Ground.phase }, { on := 2, ground := Ground.phase }, { on := 3, ground := Ground.phase }, { on := 4, ground := Ground.phase }, { on := 5, ground := Ground.phase }, { on := 6, ground := Ground.phase }], guard := none }) rfl (fun K hK => ?_) ?_
     ·have R1 := Lib.hid ((R8.out.below KB.out).rowsAt (by omega)).1
      have W1 := Lib.hid (But.refl g u1)
      obtain ⟨z0, z1, z2, z3, z4, z5, z6, z7⟩ := (R1.out.2.2.2.1 k hlt).flat
      have fz := R1.out.2.2.2.2
      go_simp
      clear z0 z1 z2 z3 z4 z5 z6 z7 fz
      have R2 : Hid (RowsAt ((((((((u1.setCell ⟨g, off + k * 8, none⟩ (.int .u8 (at8 (backR m row) 0))).setCell ⟨g, off + k * 8 + 1, none⟩ (.int .u8 (at8 (backR m row) 1))).setCell ⟨g, off + k * 8 + 2, none⟩ (.int .u8 (at8 (backR m row) 2))).setCell ⟨g, off + k * 8 + 3, none⟩ (.int .u8 (at8 (backR m row) 3))).setCell ⟨g, off + k * 8 + 4, none⟩ (.int .u8 (at8 (backR m row) 4))).setCell ⟨g, off + k * 8 + 5, none⟩ (.int .u8 (at8 (backR m row) 5))).setCell ⟨g, off + k * 8 + 6, none⟩ (.int .u8 (at8 (backR m row) 6))).setCell ⟨g, off + k * 8 + 7, none⟩ (.int .u8 (at8 (backR m row) 7))) g off n3 (cur.set k (backR m row))) := Lib.hid (R1.out.store k hlt (backR m row) HBK.out)
      have W2 : Hid (But g u1 ((((((((u1.setCell ⟨g, off + k * 8, none⟩ (.int .u8 (at8 (backR m row) 0))).setCell ⟨g, off + k * 8 + 1, none⟩ (.int .u8 (at8 (backR m row) 1))).setCell ⟨g, off + k * 8 + 2, none⟩ (.int .u8 (at8 (backR m row) 2))).setCell ⟨g, off + k * 8 + 3, none⟩ (.int .u8 (at8 (backR m row) 3))).setCell ⟨g, off + k * 8 + 4, none⟩ (.int .u8 (at8 (backR m row) 4))).setCell ⟨g, off + k * 8 + 5, none⟩ (.int .u8 (at8 (backR m row) 5))).setCell ⟨g, off + k * 8 + 6, none⟩ (.int .u8 (at8 (backR m row) 6))).setCell ⟨g, off + k * 8 + 7, none⟩ (.int .u8 (at8 (backR m row) 7)))) := Lib.hid (W1.out.set8 _ _ _ _ _ _ _ _ _)
      generalize ((((((((u1.setCell ⟨g, off + k * 8, none⟩ (.int .u8 (at8 (backR m row) 0))).setCell ⟨g, off + k * 8 + 1, none⟩ (.int .u8 (at8 (backR m row) 1))).setCell ⟨g, off + k * 8 + 2, none⟩ (.int .u8 (at8 (backR m row) 2))).setCell ⟨g, off + k * 8 + 3, none⟩ (.int .u8 (at8 (backR m row) 3))).setCell ⟨g, off + k * 8 + 4, none⟩ (.int .u8 (at8 (backR m row) 4))).setCell ⟨g, off + k * 8 + 5, none⟩ (.int .u8 (at8 (backR m row) 5))).setCell ⟨g, off + k * 8 + 6, none⟩ (.int .u8 (at8 (backR m row) 6))).setCell ⟨g, off + k * 8 + 7, none⟩ (.int .u8 (at8 (backR m row) 7))) = V2 at R2 W2 ⊢
      have W3 : Hid (Wrote w2.heap.size w3.heap.size u1 V2) := Lib.hid (W2.out.wide HGL.out HGH.out)
      have hs8 := S9.out
      have hs7 := KZ.out
      have P2 := Lib.hid ((P8.out.below KB.out).wrote W3.out (.inr (Nat.le_refl _)))
      have A2 := Lib.hid ((A8.out.below KB.out).wrote W3.out (.inl (by omega)))
      have Z2 := Lib.hid ((Z8.out.below KB.out).wrote W3.out (.inl (by omega)))
      have Y2 := Lib.hid ((Y8.out.below KB.out).heap W3.out.size (W3.out.block _ (Y8.out.below KB.out).lt (.inr (by omega))))
      have B2 := Lib.hid (below_write (below_go B8.out KB.out B8.out.size) W3.out (by omega) (Nat.le_trans B8.out.size KB.out.size))
      have S2 : Hid (w3.heap.size + 1 ≤ V2.heap.size) := Lib.hid (by have h1 := Y2.out.lt; omega)
      clear hs8 hs7
      have hS2 : V2.cell? ⟨w3.heap.size, 2, none⟩ = some (.slice (some ⟨g, off, none⟩) n3 c3) ∧ V2.cell? ⟨w.heap.size, 0, none⟩ = some (.int .i64 m) ∧ (V2.cell? ⟨wr.heap.size, 0, none⟩ = some (.int .u8 (at8 row 0)) ∧ V2.cell? ⟨wr.heap.size, 1, none⟩ = some (.int .u8 (at8 row 1)) ∧ V2.cell? ⟨wr.heap.size, 2, none⟩ = some (.int .u8 (at8 row 2)) ∧ V2.cell? ⟨wr.heap.size, 3, none⟩ = some (.int .u8 (at8 row 3)) ∧ V2.cell? ⟨wr.heap.size, 4, none⟩ = some (.int .u8 (at8 row 4)) ∧ V2.cell? ⟨wr.heap.size, 5, none⟩ = some (.int .u8 (at8 row 5)) ∧ V2.cell? ⟨wr.heap.size, 6, none⟩ = some (.int .u8 (at8 row 6)) ∧ V2.cell? ⟨wr.heap.size, 7, none⟩ = some (.int .u8 (at8 row 7))) := ⟨P2.out.2.1.2.2, A2.out.2.1, Y2.out.flat⟩
      refine hK.out _ _ ?_ (fun hHeld => ?_)
      ·first | with_reducible exact SH.out _ KB.out | with_reducible exact hS2
      clear hK K
      try simp only [Act.put, List.setIfInBounds_toArray, List.set_cons_zero, List.set_cons_succ]
      refine wpAnyH_done (by kernel_rfl) ?_ _
      go_wp2
      go_roundw
      case measure => simp [intOf]; omega
      case rel =>
       refine ⟨k + 1, cur.set k (backR m row), by omega, by go_num, ⟨R2.out.own HGL.out, .inr fun x hx => by cases hx; exact HGH.out⟩, fun q hq => ?_, P2.out, A2.out, Z2.out, B2.out, S2.out⟩
       exact back_step (by have h9 := O.out.1.len; omega) HROW.out HQ.out q hq
     exact AllReadyH.nil
    exact AllReadyH.nil
   ·have hkn : k = n3 := by omega
    have HKN := Lib.hid hkn; clear hkn
    have e9 : cur = kf.reverse.map (backR m) := by
     rw [← HR0.out]
     exact back_all O.out.1.len HN3.out (by rw [← HKN.out]; exact Nat.le_refl _) HQ.out
    have O9 := Lib.hid O.out.1
    rw [e9] at O9
    clear e9
    obtain ⟨p0, ⟨p1, p2, p3⟩, p4, p5, p6⟩ := P.out
    obtain ⟨x0, ⟨x1, x2, x3⟩, y1, y2, y3⟩ := Z.out
    have hs8 := S9.out
    have hs7 := KZ.out
    go_wp2
    try rw [Exit.noGoto_ret]
    obtain ⟨_, ⟨e1, e2, e3⟩, _⟩ := Z.out.fill (.int .i64 m) (.int .i64 e0) (.slice a3 n3 c3)
    have o4 := (O9.out.set3 (g2 := w.heap.size + 1) (by omega) (.int .i64 m) (.int .i64 e0) (.slice a3 n3 c3)).mono (B' := w.heap.size) (by omega)
    exact bodyPost_ret (v := .tuple #[.agg #[.int .i64 m, .int .i64 e0, .slice a3 n3 c3], .int .i64 0]) (by simp [results, Try.results24, go_sem, e1, e2, e3]) rfl ⟨_, _, _, rfl, by omega, o4, below_set3 B.out (by omega) _ _ _⟩
 | false =>
  rw [hB, if_neg (by simp)] at hM
  simp only [Prod.mk.injEq] at hM
  obtain ⟨rfl, rfl, rfl, rfl⟩ := hM
  go_enter Try.func24, Try.ntmps24
  have A := Lib.hid ((At2.place w (.int .i64 s) (.slice a n cap) 31 w.heap.size rfl).alloc (.cells #[.int .i64 0, .int .i64 0, .slice none 0 0] 28))
  have Z := Lib.hid (At3.place (w.alloc (.cells #[.int .i64 s, .slice a n cap] 31)) (.int .i64 0) (.int .i64 0) (.slice none 0 0) 28 (w.heap.size + 1) (by simp))
  have B := Lib.hid ((below1 w (.cells #[.int .i64 s, .slice a n cap] 31)).alloc (by simp) (.cells #[.int .i64 0, .int .i64 0, .slice none 0 0] 28))
  go_wp2_with fail
  refine (implIsBraid_any s a n cap xs _ (HR.out.below B.out) hn).mono ?_
  rw [hB]
  rintro e w1 ⟨rfl, hb⟩
  have hz1 : w.heap.size + 1 + 1 ≤ w1.heap.size := by have := hb.size; simp at this; omega
  replace Z := Lib.hid (Z.out.below hb)
  replace B := Lib.hid (below_go B.out hb (by simp; omega))
  clear hb
  obtain ⟨x0, ⟨x1, x2, x3⟩, y1, y2, y3⟩ := Z.out
  go_wp2
  try rw [Exit.noGoto_ret]
  obtain ⟨_, ⟨e1, e2, e3⟩, _⟩ := Z.out.fill (.int .i64 0) (.int .i64 0) (.slice none 0 0)
  exact bodyPost_ret (v := .tuple #[.agg #[.int .i64 0, .int .i64 0, .slice none 0 0], .int .i64 1]) (by simp [results, Try.results24, go_sem, e1, e2, e3]) rfl ⟨none, 0, 0, rfl, by omega, OwnS.nil _ _ _, below_set3 B.out (by omega) _ _ _⟩

end Go.Proofs.Ythpmehhfhngnbaa

