/- The right normal form of a braid: the model. -/
import Derived.Test.YthpmehhfhngnbaaRnSNof
import Derived.Test.YthpmehhfhngnbaaRnSFra
namespace Go.Proofs.Ythpmehhfhngnbaa
open Go.RowKit Go.ChangeShapes

/-- The right normal form of a braid, or the code. -/
def mROf (s : Int) (xs : List Int) : Int × Int × List (List Int) × Int := if isBraid s xs = true then (s, (ofW s.toNat xs.reverse).1, (ofW s.toNat xs.reverse).2.reverse.map (backR s.toNat), 0) else (0, 0, [], 1)

theorem rev_step (xs : List Int) (k : Nat) (h : k < xs.length) : xs.reverse.take (k + 1) = xs.reverse.take k ++ [xs.getD (xs.length - 1 - k) 0] := by
 rw [take_snoc xs.reverse k (by rw [List.length_reverse]; exact h)]
 congr 2
 simp [List.getD, List.getElem?_reverse h]

theorem revL_step {m : Nat} (l : List (List Int)) (k : Nat) (h : k < l.length) : (l.reverse.map (backR m)).take (k + 1) = (l.reverse.map (backR m)).take k ++ [backR m (rowAt l (l.length - 1 - k))] := by
 rw [List.take_succ_eq_append_getElem (by simpa using h)]
 congr 2
 simp [rowAt, List.getD, List.getElem?_eq_getElem (show l.length - 1 - k < l.length by omega)]

theorem At3.set2 {w : World} {g : Nat} {u v x : Value} (h : At3 w g u v x) (y : Value) : At3 (w.setCell ⟨g, 2, none⟩ y) g u v y := by
 obtain ⟨h1, ⟨c0, c1, c2⟩, f0, f1, f2⟩ := h
 exact ⟨by simpa [World.setCell] using h1, ⟨(World.cell?_setCell_other _ _ _ _ (by simp)).trans c0, (World.cell?_setCell_other _ _ _ _ (by simp)).trans c1, World.cell?_setCell_same _ _ _ c2⟩, by simpa using f0, by simpa using f1, by simpa using f2⟩

theorem OwnAV.past {B : Nat} {w : World} {v : Value} {n : Nat} {rs : List (List Int)} (h : OwnAV B w v n rs) {g : Nat} (hg : g < B) (i : Nat) (y : Value) : OwnAV B (w.setCell ⟨g, i, none⟩ y) v n rs := by
 obtain ⟨a', c', rfl, h'⟩ := h.form
 exact OwnAV.of (h'.setCell_below (show g < B from hg) y)

theorem letters_rev {m : Nat} {xs : List Int} (h : Letters m xs) : Letters m xs.reverse := fun x hx => h x (List.mem_reverse.1 hx)

set_option maxRecDepth 100000 in
set_option maxHeartbeats 8000000 in
theorem specRightNormalOf_any (s : Int) (a : Option Addr) (n cap : Nat) (xs : List Int) (w : World) (hr : Reads w a n xs) (hf : Fits xs) (hn : n ≤ 1048576) (fs fp : Int) (frs : List (List Int)) (fc : Int) (hM : mROf s xs = (fs, fp, frs, fc)) :
  Calls Try.prog 23 #[.agg #[.int .i64 s, .slice a n cap]] w (RetNCS w fs fp frs fc) := by
 obtain ⟨i0, hi, hi0, hi1, hi2⟩ := info_parts infoInt
 obtain ⟨j0, gj, gj0, gj1, gj2⟩ := info_parts infoSimple
 have HL := Lib.hid hr.len
 have HR := Lib.hid hr; clear hr
 unfold mROf at hM
 cases hB : isBraid s xs with
 | true =>
  rw [hB, if_pos rfl] at hM
  obtain ⟨m, rfl⟩ : ∃ m : Nat, s = m := ⟨s.toNat, by have := (isBraid_iff _ _).1 hB; omega⟩
  obtain ⟨m1, m8, hlen, hlet⟩ := letters_of hB
  have HT := Lib.hid (letters_rev hlet); clear hlet
  rw [Int.toNat_natCast] at hM
  rw [HL.out] at hlen
  obtain ⟨e0, kf, hk⟩ : ∃ e0 kf, ofW m xs.reverse = (e0, kf) := ⟨_, _, rfl⟩
  rw [hk] at hM
  have HK := Lib.hid hk; clear hk
  simp only [Prod.mk.injEq] at hM
  obtain ⟨rfl, rfl, rfl, rfl⟩ := hM
  have hbd := ofW_len (m := m) xs.reverse HK.out
  rw [List.length_reverse, HL.out] at hbd
  have hNL := ofW_nl m1 m8 HT.out HK.out
  have HNL := Lib.hid hNL; clear hNL
  go_enter Try.func23, Try.ntmps23
  have A := Lib.hid ((At2.place w (.int .i64 m) (.slice a n cap) 31 w.heap.size rfl).alloc (.cells #[.int .i64 0, .int .i64 0, .slice none 0 0] 28))
  have Z := Lib.hid (At3.place (w.alloc (.cells #[.int .i64 m, .slice a n cap] 31)) (.int .i64 0) (.int .i64 0) (.slice none 0 0) 28 (w.heap.size + 1) (by simp))
  have B := Lib.hid ((below1 w (.cells #[.int .i64 m, .slice a n cap] 31)).alloc (by simp) (.cells #[.int .i64 0, .int .i64 0, .slice none 0 0] 28))
  go_wp2_with fail
  refine (l01Is_any m a n cap xs _ (HR.out.below B.out) hf hn).mono ?_
  rw [hB]
  rintro e w1 ⟨rfl, hb⟩
  have hz1 : w.heap.size + 1 + 1 ≤ w1.heap.size := by have := hb.size; simp at this; omega
  replace A := Lib.hid (A.out.below hb)
  replace Z := Lib.hid (Z.out.below hb)
  replace B := Lib.hid (below_go B.out hb (by simp; omega))
  clear hb
  obtain ⟨q0, q1, q2, q3, q4⟩ := A.out
  obtain ⟨b, off, ha, hc⟩ : ∃ b off, (n = 0 ∨ a = some ⟨b, off, none⟩) ∧ ∀ j, j < n → w.cell? ⟨b, off + j, none⟩ = some (.int .i64 (xs.getD j 0)) := by
   rcases HR.out.2 with h | ⟨b, off, ha, hc⟩
   ·exact ⟨0, 0, .inl h, fun j hj => by omega⟩
   ·exact ⟨b, off, .inr ha, hc⟩
  have HA := Lib.hid ha
  have HC := Lib.hid hc
  clear ha hc
  go_wp2
  clear q0 q1 q2 q3 q4
  go_loopw [4, 5] (fun v i wr => ∃ k : Nat, k ≤ n ∧ i = .int .i64 ((n : Int) - 1 - k) ∧ OwnV w1.heap.size wr v k (xs.reverse.take k) ∧ At2 wr w.heap.size (.int .i64 m) (.slice a n cap) ∧ At3 wr (w.heap.size + 1) (.int .i64 0) (.int .i64 0) (.slice none 0 0) ∧ Below w.heap.size w wr ∧ w1.heap.size ≤ wr.heap.size) (fun _ i _ => (intOf i + 1).toNat)
  case atStart => exact ⟨0, Nat.zero_le _, by simp, OwnV.empty w1, A.out.alloc _, Z.out.alloc _, B.out.alloc B.out.size _, by simp⟩
  case round =>
   obtain ⟨k, hk, rfl, ho, hA, hZ, hbl, hsz⟩ := hrel
   clear A Z B
   have A := Lib.hid hA
   have Z := Lib.hid hZ
   have HO := Lib.hid ho
   have HB := Lib.hid hbl
   have HSZ := Lib.hid hsz
   clear hA hZ ho hbl hsz
   obtain ⟨q0, q1, q2, q3, q4⟩ := A.out
   by_cases hlt : k < n
   ·obtain ⟨x, hx⟩ : ∃ x, x = xs.getD (n - 1 - k) 0 := ⟨_, rfl⟩
    have h1 : wr.cell? ⟨b, off + (n - 1 - k), none⟩ = some (.int .i64 x) := by rw [hx]; exact (HB.out.cell (World.block_lt_of_cell? _ _ (HC.out _ (by omega)))).trans (HC.out _ (by omega))
    have HX := Lib.hid hx; clear hx
    have ha2 : a = some ⟨b, off, none⟩ := HA.out.resolve_left (by omega)
    subst ha2
    have hz : w1.heap.size ≤ wr.heap.size := HSZ.out
    go_wp2_with (at_builtin; refine wpList_append_own _ rfl _ _ 22 rfl w1.heap.size 2 i0 (.int .i64 0) 1 8 Try.underlying22 hi hi0 hi1 hi2 rfl (by decide) _ _ _ rfl (World.ownsRow.alloc HO.out _) ⟨wr.heap.size, 0, none⟩ 1 1 [.int .i64 x] rfl rfl (one_new wr x _) (one_cell _) (by unfold maxLen; omega) (by omega) (by simp; omega) ?_)
    intro v' w2 hown' hgrow _
    have HO' := Lib.hid (OwnV.appended hown')
    have HB' := Lib.hid (below_appended ((Below.refl w1.heap.size wr)) hz HO.out hgrow)
    clear hown' hgrow q0 q1 q2 q3 q4
    have hsz2 : wr.heap.size ≤ w2.heap.size := HB'.out.size
    replace A := Lib.hid (A.out.heap hsz2 (HB'.out.block _ (by omega)))
    replace Z := Lib.hid (Z.out.heap hsz2 (HB'.out.block _ (by omega)))
    replace HB := Lib.hid (HB.out.trans (HB'.out.mono (by omega)))
    go_wp2
    go_roundw
    case rel =>
     refine ⟨k + 1, by omega, by go_num, ?_, A.out, Z.out, HB.out, by omega⟩
     rw [rev_step xs k (by rw [HL.out]; exact hlt), HL.out, ← HX.out]
     exact HO'.out
    case measure => simp [intOf]; omega
   ·have hkn : k = n := by omega
    have HK9 := Lib.hid hkn; clear hkn
    have ho := HO.out
    rw [HK9.out, List.take_of_length_le (by rw [List.length_reverse, HL.out]; exact Nat.le_refl _)] at ho
    obtain ⟨a', c', hv, ho'⟩ := ho.form
    subst hv
    have OL := Lib.hid ho'
    clear ho ho' HO
    go_wp2_with fail
    refine (l03Of_any m m1 m8 a' n c' xs.reverse _ OL.out.reads HT.out (by omega) e0 kf HK.out).mono ?_
    rintro e w2 ⟨a2, n2, c2, rfl, hc2, ho, hb⟩
    have hz2 : wr.heap.size ≤ w2.heap.size := hb.size
    replace A := Lib.hid (A.out.below hb)
    replace Z := Lib.hid (Z.out.below hb)
    replace HB := Lib.hid (below_go HB.out hb HB.out.size)
    have O := Lib.hid ho
    clear ho hb q0 q1 q2 q3 q4 OL
    have hn2 : n2 ≤ 200 := by have h9 := O.out.len; omega
    have HN2 := Lib.hid hn2
    have HF : Hid (fitN (m : Int) e0 (kf.reverse.map (backR m)) = ((m : Int), e0, kf.reverse.map (backR m), 0)) := Lib.hid (if_pos (by rw [List.length_map, List.length_reverse]; have h9 := O.out.len; omega))
    obtain ⟨ba, oa, hba, hca⟩ : ∃ ba oa, (n2 = 0 ∨ (a2 = some ⟨ba, oa, none⟩ ∧ ba < w2.heap.size)) ∧ ∀ j, j < n2 → Cells8 w2 ba (oa + j * 8) (rowAt kf j) := by
     rcases O.out.2.2 with h0 | ⟨g, off9, rfl, _, hg, hcc, _⟩
     ·exact ⟨0, 0, .inl h0, fun j hj => by omega⟩
     ·exact ⟨g, off9, .inr ⟨rfl, hg⟩, hcc⟩
    have HBA := Lib.hid hba
    have HCA := Lib.hid hca
    clear hba hca
    go_wp2
    have A9 := Lib.hid ((At3.place w2 (.int .i64 m) (.int .i64 e0) (.slice a2 n2 c2) 28 w2.heap.size rfl).alloc (.cells #[.int .i64 m, .int .i64 e0, .slice none 0 0] 28))
    have O9 := Lib.hid (At3.place (w2.alloc (.cells #[.int .i64 m, .int .i64 e0, .slice a2 n2 c2] 28)) (.int .i64 m) (.int .i64 e0) (.slice none 0 0) 28 (w2.heap.size + 1) (by simp))
    have Z9 := Lib.hid ((Z.out.alloc (.cells #[.int .i64 m, .int .i64 e0, .slice a2 n2 c2] 28)).alloc (.cells #[.int .i64 m, .int .i64 e0, .slice none 0 0] 28))
    have B9 := Lib.hid (((Below.refl w2.heap.size w2).alloc (Nat.le_refl _) (.cells #[.int .i64 m, .int .i64 e0, .slice a2 n2 c2] 28)).alloc (by simp) (.cells #[.int .i64 m, .int .i64 e0, .slice none 0 0] 28))
    have HBW := Lib.hid HB.out
    have KZ : Hid (w.heap.size + 1 + 1 ≤ w2.heap.size) := Lib.hid (by have h1 := HSZ.out; omega)
    skip
    go_loopw [8] (fun i wx => ∃ j v7, j ≤ n2 ∧ i = .int .i64 ((n2 : Int) - 1 - j) ∧ At3 wx w2.heap.size (.int .i64 m) (.int .i64 e0) (.slice a2 n2 c2) ∧ At3 wx (w2.heap.size + 1) (.int .i64 m) (.int .i64 e0) v7 ∧ OwnAV (w2.heap.size + 1 + 1) wx v7 j ((kf.reverse.map (backR m)).take j) ∧ At3 wx (w.heap.size + 1) (.int .i64 0) (.int .i64 0) (.slice none 0 0) ∧ Below w2.heap.size w2 wx ∧ (w2.heap.size + 1 + 1) ≤ wx.heap.size) (fun i _ => (intOf i + 1).toNat)
    case atStart => exact ⟨0, .slice none 0 0, Nat.zero_le _, by simp, A9.out, O9.out, by rw [List.take_zero]; exact ⟨fun r hr => by simp at hr, World.ownsRow_nil _ _ _ _⟩, Z9.out, B9.out, by simp⟩
    case round =>
     obtain ⟨j, v7, hj, rfl, hA9, hO9, hv7, hZ9, hB9, hs9⟩ := hrel
     clear A9 O9 Z9 B9
     have A9 := Lib.hid hA9
     have O9 := Lib.hid hO9
     have V7 := Lib.hid hv7
     have Z9 := Lib.hid hZ9
     have B9 := Lib.hid hB9
     have S9 := Lib.hid hs9
     clear hA9 hO9 hv7 hZ9 hB9 hs9
     obtain ⟨x0, ⟨x1, x2, x3⟩, x4, x5, x6⟩ := A9.out
     obtain ⟨y0, ⟨y1, y2, y3⟩, y4, y5, y6⟩ := O9.out
     by_cases hlt2 : j < n2
     ·obtain ⟨row, hrow⟩ : ∃ row, row = rowAt kf (n2 - 1 - j) := ⟨_, rfl⟩
      have SR : Hid (Sim m row) := Lib.hid (by rw [hrow]; exact HNL.out.sims _ (rowAt_getElem (by have h9 := O.out.len; omega)))
      obtain ⟨hae, hbl2⟩ := HBA.out.resolve_left (by omega)
      subst hae
      have HBL := Lib.hid hbl2
      obtain ⟨t, ht⟩ : ∃ t, t = n2 - 1 - j := ⟨_, rfl⟩
      rw [← ht] at hrow
      have htn : t < n2 := by omega
      have hti : ((n2 : Int) - 1 - (j : Int)) = (t : Int) := by omega
      have HTI := Lib.hid ht
      clear ht
      have HROW := Lib.hid hrow
      clear hrow
      have CR : Hid (∀ X, Below w2.heap.size wr X → Cells8 X ba (oa + t * 8) row) := Lib.hid fun X h i hi => by rw [HROW.out]; exact ((h.cell (by show ba < _; omega)).trans (B9.out.cell (by show ba < _; omega))).trans (HCA.out t htn i hi)
      rw [hti]
      go_upto_region 13 with fail
      clear x1 x2 x3 y1 y2 y3
      have HB8 := Lib.hid (backR_sim SR.out).len
      have KB : Hid (Below (w2.heap.size + 1 + 1) wr wr.drew) := Lib.hid (Below.refl (w2.heap.size + 1 + 1) wr).drew
      have SH : Hid (∀ X, Below (w2.heap.size + 1 + 1) wr X → (X.cell? ⟨w2.heap.size, 0, none⟩ = some (.int .i64 m) ∧ X.cell? ⟨w2.heap.size, 1, none⟩ = some (.int .i64 e0) ∧ X.cell? ⟨w2.heap.size, 2, none⟩ = some (.slice (some ⟨ba, oa, none⟩) n2 c2)) ∧ (X.cell? ⟨ba, oa + t * 8, none⟩ = some (.int .u8 (at8 row 0)) ∧ X.cell? ⟨ba, oa + t * 8 + 1, none⟩ = some (.int .u8 (at8 row 1)) ∧ X.cell? ⟨ba, oa + t * 8 + 2, none⟩ = some (.int .u8 (at8 row 2)) ∧ X.cell? ⟨ba, oa + t * 8 + 3, none⟩ = some (.int .u8 (at8 row 3)) ∧ X.cell? ⟨ba, oa + t * 8 + 4, none⟩ = some (.int .u8 (at8 row 4)) ∧ X.cell? ⟨ba, oa + t * 8 + 5, none⟩ = some (.int .u8 (at8 row 5)) ∧ X.cell? ⟨ba, oa + t * 8 + 6, none⟩ = some (.int .u8 (at8 row 6)) ∧ X.cell? ⟨ba, oa + t * 8 + 7, none⟩ = some (.int .u8 (at8 row 7)))) := Lib.hid fun X h => ⟨(A9.out.heap h.size (h.block _ (by omega))).cells, (CR.out X (h.mono (by omega))).flat⟩
      have V7K : Hid (OwnAV (w2.heap.size + 1 + 1) wr.drew v7 j ((kf.reverse.map (backR m)).take j)) := Lib.hid (V7.out.drawn ((Below.refl wr.heap.size wr).drew))
      refine wp_region_held_drew (S := (fun w' => (w'.cell? ⟨w2.heap.size, 0, none⟩ = some (.int .i64 m) ∧ w'.cell? ⟨w2.heap.size, 1, none⟩ = some (.int .i64 e0) ∧ w'.cell? ⟨w2.heap.size, 2, none⟩ = some (.slice (some ⟨ba, oa, none⟩) n2 c2)) ∧ (w'.cell? ⟨ba, oa + t * 8, none⟩ = some (.int .u8 (at8 row 0)) ∧ w'.cell? ⟨ba, oa + t * 8 + 1, none⟩ = some (.int .u8 (at8 row 1)) ∧ w'.cell? ⟨ba, oa + t * 8 + 2, none⟩ = some (.int .u8 (at8 row 2)) ∧ w'.cell? ⟨ba, oa + t * 8 + 3, none⟩ = some (.int .u8 (at8 row 3)) ∧ w'.cell? ⟨ba, oa + t * 8 + 4, none⟩ = some (.int .u8 (at8 row 4)) ∧ w'.cell? ⟨ba, oa + t * 8 + 5, none⟩ = some (.int .u8 (at8 row 5)) ∧ w'.cell? ⟨ba, oa + t * 8 + 6, none⟩ = some (.int .u8 (at8 row 6)) ∧ w'.cell? ⟨ba, oa + t * 8 + 7, none⟩ = some (.int .u8 (at8 row 7))))) (by kernel_rfl) ?_ (fun hHeld => ?_)
      ·first | with_reducible exact SH.out _ KB.out | with_reducible exact ⟨A8.out.cells, (CR.out _ K8.out).flat⟩
      refine wpAnyH_take (i := 0) (oi := { dst := some 49, op := Op.fieldAddr 28 (Operand.tmp 7) 2, type := 0, pos := "l03_normal.go:130", after := #[], guard := none }) (v := ?_) rfl (by kernel_rfl) (by kernel_rfl) (by kernel_rfl) (fun _ _ _ h => h) (Or.inl ⟨by rfl, ?_⟩) (by assumption) ?_
      rotate_left
      ·intro w hSw
       (try dsimp only at hSw)
       go_simp
       try with_reducible rfl
      try simp only [Act.put, List.setIfInBounds_toArray, List.set_cons_zero, List.set_cons_succ]
      refine wpAnyH_take (i := 2) (oi := { dst := some 51, op := Op.fieldAddr 28 (Operand.tmp 6) 2, type := 0, pos := "l03_normal.go:130", after := #[], guard := none }) (v := ?_) rfl (by kernel_rfl) (by kernel_rfl) (by kernel_rfl) (fun _ _ _ h => h) (Or.inl ⟨by rfl, ?_⟩) (by assumption) ?_
      rotate_left
      ·intro w hSw
       (try dsimp only at hSw)
       go_simp
       try with_reducible rfl
      try simp only [Act.put, List.setIfInBounds_toArray, List.set_cons_zero, List.set_cons_succ]
      refine wpAnyH_take (i := 3) (oi := { dst := some 52, op := Op.load 26 (Operand.tmp 51), type := 26, pos := "l03_normal.go:130", after := #[{ on := 2, ground := Ground.data }], guard := none }) (v := ?_) rfl (by kernel_rfl) (by kernel_rfl) (by kernel_rfl) (fun _ _ _ h => h) (Or.inl ⟨by rfl, ?_⟩) (by assumption) ?_
      rotate_left
      ·intro w hSw
       (try dsimp only at hSw)
       go_simp
       try with_reducible rfl
      try simp only [Act.put, List.setIfInBounds_toArray, List.set_cons_zero, List.set_cons_succ]
      refine wpAnyH_take (i := 4) (oi := { dst := some 53, op := Op.move (Operand.tmp 8), type := 3, pos := "l03_normal.go:130", after := #[], guard := none }) (v := ?_) rfl (by kernel_rfl) (by kernel_rfl) (by kernel_rfl) (fun _ _ _ h => h) (Or.inl ⟨by rfl, ?_⟩) (by assumption) ?_
      rotate_left
      ·intro w hSw
       (try dsimp only at hSw)
       go_simp
       try with_reducible rfl
      try simp only [Act.put, List.setIfInBounds_toArray, List.set_cons_zero, List.set_cons_succ]
      refine wpAnyH_take (i := 5) (oi := { dst := some 54, op := Op.indexAddr 26 (Operand.tmp 52) (Operand.tmp 53), type := 0, pos := "l03_normal.go:130", after := #[{ on := 3, ground := Ground.data }, { on := 4, ground := Ground.data }], guard := none }) (v := ?_) rfl (by kernel_rfl) (by kernel_rfl) (by kernel_rfl) (fun _ _ _ h => h) (Or.inl ⟨by rfl, ?_⟩) (by assumption) ?_
      rotate_left
      ·intro w hSw
       (try dsimp only at hSw)
       go_simp
       try with_reducible rfl
      try simp only [Act.put, List.setIfInBounds_toArray, List.set_cons_zero, List.set_cons_succ]
      refine wpAnyH_take (i := 6) (oi := { dst := some 55, op := Op.load 78 (Operand.tmp 54), type := 78, pos := "l03_normal.go:130", after := #[{ on := 5, ground := Ground.data }], guard := none }) (v := ?_) rfl (by kernel_rfl) (by kernel_rfl) (by kernel_rfl) (fun _ _ _ h => h) (Or.inl ⟨by rfl, ?_⟩) (by assumption) ?_
      rotate_left
      ·intro w hSw
       (try dsimp only at hSw)
       go_simp
       try with_reducible rfl
      try simp only [Act.put, List.setIfInBounds_toArray, List.set_cons_zero, List.set_cons_succ]
      refine wpAnyH_take (i := 7) (oi := { dst := some 56, op := Op.fieldAddr 28 (Operand.tmp 6) 0, type := 0, pos := "l03_normal.go:130", after := #[], guard := none }) (v := ?_) rfl (by kernel_rfl) (by kernel_rfl) (by kernel_rfl) (fun _ _ _ h => h) (Or.inl ⟨by rfl, ?_⟩) (by assumption) ?_
      rotate_left
      ·intro w hSw
       (try dsimp only at hSw)
       go_simp
       try with_reducible rfl
      try simp only [Act.put, List.setIfInBounds_toArray, List.set_cons_zero, List.set_cons_succ]
      refine wpAnyH_take (i := 8) (oi := { dst := some 57, op := Op.load 2 (Operand.tmp 56), type := 2, pos := "l03_normal.go:130", after := #[{ on := 7, ground := Ground.data }], guard := none }) (v := ?_) rfl (by kernel_rfl) (by kernel_rfl) (by kernel_rfl) (fun _ _ _ h => h) (Or.inl ⟨by rfl, ?_⟩) (by assumption) ?_
      rotate_left
      ·intro w hSw
       (try dsimp only at hSw)
       go_simp
       try with_reducible rfl
      try simp only [Act.put, List.setIfInBounds_toArray, List.set_cons_zero, List.set_cons_succ]
      refine wpAnyH_ready (rs := [1, 9]) (by kernel_rfl) (by simp) ?_
      refine AllReadyH.cons (o := { dst := some 50, op := Op.load 26 (Operand.tmp 49), type := 26, pos := "l03_normal.go:130", after := #[{ on := 0, ground := Ground.data }], guard := none }) rfl (fun K hK => ?_) ?_
      ·have O7 := Lib.hid (O9.out.heap KB.out.size (KB.out.block _ (by omega)))
       obtain ⟨z0, ⟨z1, z2, z3⟩, z4, z5, z6⟩ := O7.out
       go_simp
       clear z0 z1 z2 z3 z4 z5 z6 O7
       refine hK.out _ _ ?_ (fun hHeld => ?_)
       ·first | with_reducible exact SH.out _ KB.out | with_reducible exact ⟨A8.out.cells, (CR.out _ K8.out).flat⟩
       clear hK K
       try simp only [Act.put, List.setIfInBounds_toArray, List.set_cons_zero, List.set_cons_succ]
       refine wpAnyH_ready (rs := [9]) (by kernel_rfl) (by simp) ?_
       refine AllReadyH.cons (o := { dst := some 58, op := Op.call { callee := Callee.value (Operand.func 62), args := #[Operand.tmp 55, Operand.tmp 57], argTypes := #[78, 2] }, type := 78, pos := "l03_normal.go:130", after := #[{ on := 6, ground := Ground.data }, { on := 8, ground := Ground.data }], guard := none }) rfl (fun K hK => ?_) ?_
       ·go_simp
        have hs9 := S9.out
        refine (l02Back_any m row SR.out _).mono ?_
        rintro e u1 ⟨rfl, gg⟩
        replace V7K := Lib.hid (V7K.out.drawn gg)
        replace KB := Lib.hid (below_go KB.out gg (by have h1 := KB.out.size; omega))
        clear gg hs9
        go_wp2_with fail
        refine hK.out _ _ ?_ (fun hHeld => ?_)
        ·first | with_reducible exact SH.out _ KB.out | with_reducible exact ⟨A8.out.cells, (CR.out _ K8.out).flat⟩
        clear hK K
        try simp only [Act.put, List.setIfInBounds_toArray, List.set_cons_zero, List.set_cons_succ]
        refine wpAnyH_ready (rs := [10]) (by kernel_rfl) (by simp) ?_
        refine AllReadyH.cons (o := { dst := some 59, op := Op.buildSlice 26 1 #[(0, Operand.tmp 58)], type := 26, pos := "l03_normal.go:130", after := #[{ on := 9, ground := Ground.data }], guard := none }) rfl (fun K hK => ?_) ?_
        ·go_simp
         have Y : Hid (ReadsA ((u1.alloc (.cells #[.int .u8 (at8 (backR m row) 0), .int .u8 (at8 (backR m row) 1), .int .u8 (at8 (backR m row) 2), .int .u8 (at8 (backR m row) 3), .int .u8 (at8 (backR m row) 4), .int .u8 (at8 (backR m row) 5), .int .u8 (at8 (backR m row) 6), .int .u8 (at8 (backR m row) 7)] 78))) (some ⟨u1.heap.size, 0, none⟩) 1 [backR m row]) := Lib.hid (reads_at u1 (backR m row) HB8.out 78 (by simp))
         replace V7K := Lib.hid (V7K.out.drawn ((Below.refl _ _).alloc (Nat.le_refl _) (.cells #[.int .u8 (at8 (backR m row) 0), .int .u8 (at8 (backR m row) 1), .int .u8 (at8 (backR m row) 2), .int .u8 (at8 (backR m row) 3), .int .u8 (at8 (backR m row) 4), .int .u8 (at8 (backR m row) 5), .int .u8 (at8 (backR m row) 6), .int .u8 (at8 (backR m row) 7)] 78)))
         replace KB := Lib.hid (KB.out.alloc (by have h1 := KB.out.size; have h2 := S9.out; omega) (.cells #[.int .u8 (at8 (backR m row) 0), .int .u8 (at8 (backR m row) 1), .int .u8 (at8 (backR m row) 2), .int .u8 (at8 (backR m row) 3), .int .u8 (at8 (backR m row) 4), .int .u8 (at8 (backR m row) 5), .int .u8 (at8 (backR m row) 6), .int .u8 (at8 (backR m row) 7)] 78))
         refine hK.out _ _ ?_ (fun hHeld => ?_)
         ·first | with_reducible exact SH.out _ KB.out | with_reducible exact ⟨A8.out.cells, (CR.out _ K8.out).flat⟩
         clear hK K
         try simp only [Act.put, List.setIfInBounds_toArray, List.set_cons_zero, List.set_cons_succ]
         refine wpAnyH_ready (rs := [11]) (by kernel_rfl) (by simp) ?_
         refine AllReadyH.cons (o := { dst := some 60, op := Op.call { callee := Callee.builtin Builtin.append, args := #[Operand.tmp 50, Operand.tmp 59], argTypes := #[26, 26] }, type := 26, pos := "l03_normal.go:130", after := #[{ on := 1, ground := Ground.data }, { on := 10, ground := Ground.data }, { on := 9, ground := Ground.chain }], guard := none }) rfl (fun K hK => ?_) ?_
         ·have hs9 := S9.out
          have hk9 := KB.out.size
          refine step_append_rows_at rfl _ _ 26 rfl (w2.heap.size + 1 + 1) j0 Try.underlying26 gj gj0 gj1 gj2 _ _ _ rfl V7K.out _ _ _ [backR m row] rfl Y.out (by omega) (by omega) ?_
          intro v' u3 ho' hg hv
          replace KB := Lib.hid (below_ownA KB.out (by omega) (Nat.le_refl _) V7K.out hg)
          obtain ⟨a8, c8, hv8, _⟩ := ho'.form
          subst hv8
          have V8 := Lib.hid ho'
          clear ho' hg hv hs9 hk9 Y V7K
          refine hK.out _ _ ?_ (fun hHeld => ?_)
          ·first | with_reducible exact SH.out _ KB.out | with_reducible exact ⟨A8.out.cells, (CR.out _ K8.out).flat⟩
          clear hK K
          try simp only [Act.put, List.setIfInBounds_toArray, List.set_cons_zero, List.set_cons_succ]
          refine wpAnyH_take (i := 12) (oi := { dst := some 61, op := Op.fieldAddr 28 (Operand.tmp 7) 2, type := 0, pos := "l03_normal.go:130", after := #[{ on := 0, ground := Ground.phase }, { on := 1, ground := Ground.phase }, { on := 2, ground := Ground.phase }, { on := 3, ground := Ground.phase }, { on := 4, ground := Ground.phase }, { on := 5, ground := Ground.phase }, { on := 6, ground := Ground.phase }, { on := 7, ground := Ground.phase }, { on := 8, ground := Ground.phase }, { on := 9, ground := Ground.phase }, { on := 10, ground := Ground.phase }, { on := 11, ground := Ground.phase }], guard := none }) (v := ?_) rfl (by kernel_rfl) (by kernel_rfl) (by kernel_rfl) (fun _ _ _ h => h) (Or.inl ⟨by rfl, ?_⟩) (by assumption) ?_
          rotate_left
          ·intro w hSw
           (try dsimp only at hSw)
           go_simp
           try with_reducible rfl
          try simp only [Act.put, List.setIfInBounds_toArray, List.set_cons_zero, List.set_cons_succ]
          refine wpAnyH_ready (rs := [13]) (by kernel_rfl) (by simp) ?_
          refine AllReadyH.cons (o := { dst := none, op := Op.store 26 (Operand.tmp 61) (Operand.tmp 60), type := 0, pos := "l03_normal.go:130", after := #[{ on := 12, ground := Ground.data }, { on := 11, ground := Ground.data }, { on := 11, ground := Ground.chain }, { on := 0, ground := Ground.phase }, { on := 1, ground := Ground.phase }, { on := 2, ground := Ground.phase }, { on := 3, ground := Ground.phase }, { on := 4, ground := Ground.phase }, { on := 5, ground := Ground.phase }, { on := 6, ground := Ground.phase }, { on := 7, ground := Ground.phase }, { on := 8, ground := Ground.phase }, { on := 9, ground := Ground.phase }, { on := 10, ground := Ground.phase }, { on := 11, ground := Ground.phase }], guard := none }) rfl (fun K hK => ?_) ?_
          ·have O8 := Lib.hid (O9.out.heap KB.out.size (KB.out.block _ (by omega)))
           obtain ⟨z0, ⟨z1, z2, z3⟩, z4, z5, z6⟩ := O8.out
           go_simp
           clear z0 z1 z2 z3 z4 z5 z6
           have A8 := Lib.hid ((A9.out.heap KB.out.size (KB.out.block _ (by omega))).setCell (p := ⟨w2.heap.size + 1, 2, none⟩) (by show w2.heap.size + 1 ≠ w2.heap.size; omega) (.slice a8 (j + 1) c8))
           have Z8 := Lib.hid ((Z9.out.heap KB.out.size (KB.out.block _ (by have h9 := KZ.out; omega))).setCell (p := ⟨w2.heap.size + 1, 2, none⟩) (by have h9 := KZ.out; show w2.heap.size + 1 ≠ w.heap.size + 1; omega) (.slice a8 (j + 1) c8))
           replace O8 := Lib.hid (O8.out.set2 (.slice a8 (j + 1) c8))
           replace V8 := Lib.hid (V8.out.past (g := w2.heap.size + 1) (by omega) 2 (.slice a8 (j + 1) c8))
           have B8 := Lib.hid ((B9.out.trans (KB.out.mono (by omega))).setCell (p := ⟨w2.heap.size + 1, 2, none⟩) (by show w2.heap.size ≤ w2.heap.size + 1; omega) (.slice a8 (j + 1) c8))
           have S8 : Hid ((w2.heap.size + 1 + 1) ≤ (u3.setCell ⟨w2.heap.size + 1, 2, none⟩ (.slice a8 (j + 1) c8)).heap.size) := Lib.hid (by have h1 := KB.out.size; have h2 := S9.out; simp [World.setCell]; omega)
           have K8 : Hid (Below w2.heap.size wr _) := Lib.hid ((KB.out.mono (by omega)).setCell (p := ⟨w2.heap.size + 1, 2, none⟩) (by show w2.heap.size ≤ w2.heap.size + 1; omega) (.slice a8 (j + 1) c8))
           refine hK.out _ _ ?_ (fun hHeld => ?_)
           ·first | with_reducible exact SH.out _ KB.out | with_reducible exact ⟨A8.out.cells, (CR.out _ K8.out).flat⟩
           clear hK K
           try simp only [Act.put, List.setIfInBounds_toArray, List.set_cons_zero, List.set_cons_succ]
           refine wpAnyH_done (by kernel_rfl) ?_ _
           go_wp2
           go_roundw
           case measure => simp [intOf]
           case rel =>
            refine ⟨j + 1, .slice a8 (j + 1) c8, by omega, by go_num, A8.out, O8.out, ?_, Z8.out, B8.out, S8.out⟩
            rw [revL_step kf j (by have h9 := O.out.len; omega), show kf.length - 1 - j = t by have h9 := O.out.len; have h8 := HTI.out; omega, ← HROW.out]
            exact V8.out
          exact AllReadyH.nil
         exact AllReadyH.nil
        exact AllReadyH.nil
       exact AllReadyH.nil
      refine AllReadyH.cons (o := { dst := some 58, op := Op.call { callee := Callee.value (Operand.func 62), args := #[Operand.tmp 55, Operand.tmp 57], argTypes := #[78, 2] }, type := 78, pos := "l03_normal.go:130", after := #[{ on := 6, ground := Ground.data }, { on := 8, ground := Ground.data }], guard := none }) rfl (fun K hK => ?_) ?_
      ·go_simp
       have hs9 := S9.out
       refine (l02Back_any m row SR.out _).mono ?_
       rintro e u1 ⟨rfl, gg⟩
       replace V7K := Lib.hid (V7K.out.drawn gg)
       replace KB := Lib.hid (below_go KB.out gg (by have h1 := KB.out.size; omega))
       clear gg hs9
       go_wp2_with fail
       refine hK.out _ _ ?_ (fun hHeld => ?_)
       ·first | with_reducible exact SH.out _ KB.out | with_reducible exact ⟨A8.out.cells, (CR.out _ K8.out).flat⟩
       clear hK K
       try simp only [Act.put, List.setIfInBounds_toArray, List.set_cons_zero, List.set_cons_succ]
       refine wpAnyH_ready (rs := [1, 10]) (by kernel_rfl) (by simp) ?_
       refine AllReadyH.cons (o := { dst := some 50, op := Op.load 26 (Operand.tmp 49), type := 26, pos := "l03_normal.go:130", after := #[{ on := 0, ground := Ground.data }], guard := none }) rfl (fun K hK => ?_) ?_
       ·have O7 := Lib.hid (O9.out.heap KB.out.size (KB.out.block _ (by omega)))
        obtain ⟨z0, ⟨z1, z2, z3⟩, z4, z5, z6⟩ := O7.out
        go_simp
        clear z0 z1 z2 z3 z4 z5 z6 O7
        refine hK.out _ _ ?_ (fun hHeld => ?_)
        ·first | with_reducible exact SH.out _ KB.out | with_reducible exact ⟨A8.out.cells, (CR.out _ K8.out).flat⟩
        clear hK K
        try simp only [Act.put, List.setIfInBounds_toArray, List.set_cons_zero, List.set_cons_succ]
        refine wpAnyH_ready (rs := [10]) (by kernel_rfl) (by simp) ?_
        refine AllReadyH.cons (o := { dst := some 59, op := Op.buildSlice 26 1 #[(0, Operand.tmp 58)], type := 26, pos := "l03_normal.go:130", after := #[{ on := 9, ground := Ground.data }], guard := none }) rfl (fun K hK => ?_) ?_
        ·go_simp
         have Y : Hid (ReadsA ((u1.alloc (.cells #[.int .u8 (at8 (backR m row) 0), .int .u8 (at8 (backR m row) 1), .int .u8 (at8 (backR m row) 2), .int .u8 (at8 (backR m row) 3), .int .u8 (at8 (backR m row) 4), .int .u8 (at8 (backR m row) 5), .int .u8 (at8 (backR m row) 6), .int .u8 (at8 (backR m row) 7)] 78))) (some ⟨u1.heap.size, 0, none⟩) 1 [backR m row]) := Lib.hid (reads_at u1 (backR m row) HB8.out 78 (by simp))
         replace V7K := Lib.hid (V7K.out.drawn ((Below.refl _ _).alloc (Nat.le_refl _) (.cells #[.int .u8 (at8 (backR m row) 0), .int .u8 (at8 (backR m row) 1), .int .u8 (at8 (backR m row) 2), .int .u8 (at8 (backR m row) 3), .int .u8 (at8 (backR m row) 4), .int .u8 (at8 (backR m row) 5), .int .u8 (at8 (backR m row) 6), .int .u8 (at8 (backR m row) 7)] 78)))
         replace KB := Lib.hid (KB.out.alloc (by have h1 := KB.out.size; have h2 := S9.out; omega) (.cells #[.int .u8 (at8 (backR m row) 0), .int .u8 (at8 (backR m row) 1), .int .u8 (at8 (backR m row) 2), .int .u8 (at8 (backR m row) 3), .int .u8 (at8 (backR m row) 4), .int .u8 (at8 (backR m row) 5), .int .u8 (at8 (backR m row) 6), .int .u8 (at8 (backR m row) 7)] 78))
         refine hK.out _ _ ?_ (fun hHeld => ?_)
         ·first | with_reducible exact SH.out _ KB.out | with_reducible exact ⟨A8.out.cells, (CR.out _ K8.out).flat⟩
         clear hK K
         try simp only [Act.put, List.setIfInBounds_toArray, List.set_cons_zero, List.set_cons_succ]
         refine wpAnyH_ready (rs := [11]) (by kernel_rfl) (by simp) ?_
         refine AllReadyH.cons (o := { dst := some 60, op := Op.call { callee := Callee.builtin Builtin.append, args := #[Operand.tmp 50, Operand.tmp 59], argTypes := #[26, 26] }, type := 26, pos := "l03_normal.go:130", after := #[{ on := 1, ground := Ground.data }, { on := 10, ground := Ground.data }, { on := 9, ground := Ground.chain }], guard := none }) rfl (fun K hK => ?_) ?_
         ·have hs9 := S9.out
          have hk9 := KB.out.size
          refine step_append_rows_at rfl _ _ 26 rfl (w2.heap.size + 1 + 1) j0 Try.underlying26 gj gj0 gj1 gj2 _ _ _ rfl V7K.out _ _ _ [backR m row] rfl Y.out (by omega) (by omega) ?_
          intro v' u3 ho' hg hv
          replace KB := Lib.hid (below_ownA KB.out (by omega) (Nat.le_refl _) V7K.out hg)
          obtain ⟨a8, c8, hv8, _⟩ := ho'.form
          subst hv8
          have V8 := Lib.hid ho'
          clear ho' hg hv hs9 hk9 Y V7K
          refine hK.out _ _ ?_ (fun hHeld => ?_)
          ·first | with_reducible exact SH.out _ KB.out | with_reducible exact ⟨A8.out.cells, (CR.out _ K8.out).flat⟩
          clear hK K
          try simp only [Act.put, List.setIfInBounds_toArray, List.set_cons_zero, List.set_cons_succ]
          refine wpAnyH_take (i := 12) (oi := { dst := some 61, op := Op.fieldAddr 28 (Operand.tmp 7) 2, type := 0, pos := "l03_normal.go:130", after := #[{ on := 0, ground := Ground.phase }, { on := 1, ground := Ground.phase }, { on := 2, ground := Ground.phase }, { on := 3, ground := Ground.phase }, { on := 4, ground := Ground.phase }, { on := 5, ground := Ground.phase }, { on := 6, ground := Ground.phase }, { on := 7, ground := Ground.phase }, { on := 8, ground := Ground.phase }, { on := 9, ground := Ground.phase }, { on := 10, ground := Ground.phase }, { on := 11, ground := Ground.phase }], guard := none }) (v := ?_) rfl (by kernel_rfl) (by kernel_rfl) (by kernel_rfl) (fun _ _ _ h => h) (Or.inl ⟨by rfl, ?_⟩) (by assumption) ?_
          rotate_left
          ·intro w hSw
           (try dsimp only at hSw)
           go_simp
           try with_reducible rfl
          try simp only [Act.put, List.setIfInBounds_toArray, List.set_cons_zero, List.set_cons_succ]
          refine wpAnyH_ready (rs := [13]) (by kernel_rfl) (by simp) ?_
          refine AllReadyH.cons (o := { dst := none, op := Op.store 26 (Operand.tmp 61) (Operand.tmp 60), type := 0, pos := "l03_normal.go:130", after := #[{ on := 12, ground := Ground.data }, { on := 11, ground := Ground.data }, { on := 11, ground := Ground.chain }, { on := 0, ground := Ground.phase }, { on := 1, ground := Ground.phase }, { on := 2, ground := Ground.phase }, { on := 3, ground := Ground.phase }, { on := 4, ground := Ground.phase }, { on := 5, ground := Ground.phase }, { on := 6, ground := Ground.phase }, { on := 7, ground := Ground.phase }, { on := 8, ground := Ground.phase }, { on := 9, ground := Ground.phase }, { on := 10, ground := Ground.phase }, { on := 11, ground := Ground.phase }], guard := none }) rfl (fun K hK => ?_) ?_
          ·have O8 := Lib.hid (O9.out.heap KB.out.size (KB.out.block _ (by omega)))
           obtain ⟨z0, ⟨z1, z2, z3⟩, z4, z5, z6⟩ := O8.out
           go_simp
           clear z0 z1 z2 z3 z4 z5 z6
           have A8 := Lib.hid ((A9.out.heap KB.out.size (KB.out.block _ (by omega))).setCell (p := ⟨w2.heap.size + 1, 2, none⟩) (by show w2.heap.size + 1 ≠ w2.heap.size; omega) (.slice a8 (j + 1) c8))
           have Z8 := Lib.hid ((Z9.out.heap KB.out.size (KB.out.block _ (by have h9 := KZ.out; omega))).setCell (p := ⟨w2.heap.size + 1, 2, none⟩) (by have h9 := KZ.out; show w2.heap.size + 1 ≠ w.heap.size + 1; omega) (.slice a8 (j + 1) c8))
           replace O8 := Lib.hid (O8.out.set2 (.slice a8 (j + 1) c8))
           replace V8 := Lib.hid (V8.out.past (g := w2.heap.size + 1) (by omega) 2 (.slice a8 (j + 1) c8))
           have B8 := Lib.hid ((B9.out.trans (KB.out.mono (by omega))).setCell (p := ⟨w2.heap.size + 1, 2, none⟩) (by show w2.heap.size ≤ w2.heap.size + 1; omega) (.slice a8 (j + 1) c8))
           have S8 : Hid ((w2.heap.size + 1 + 1) ≤ (u3.setCell ⟨w2.heap.size + 1, 2, none⟩ (.slice a8 (j + 1) c8)).heap.size) := Lib.hid (by have h1 := KB.out.size; have h2 := S9.out; simp [World.setCell]; omega)
           have K8 : Hid (Below w2.heap.size wr _) := Lib.hid ((KB.out.mono (by omega)).setCell (p := ⟨w2.heap.size + 1, 2, none⟩) (by show w2.heap.size ≤ w2.heap.size + 1; omega) (.slice a8 (j + 1) c8))
           refine hK.out _ _ ?_ (fun hHeld => ?_)
           ·first | with_reducible exact SH.out _ KB.out | with_reducible exact ⟨A8.out.cells, (CR.out _ K8.out).flat⟩
           clear hK K
           try simp only [Act.put, List.setIfInBounds_toArray, List.set_cons_zero, List.set_cons_succ]
           refine wpAnyH_done (by kernel_rfl) ?_ _
           go_wp2
           go_roundw
           case measure => simp [intOf]
           case rel =>
            refine ⟨j + 1, .slice a8 (j + 1) c8, by omega, by go_num, A8.out, O8.out, ?_, Z8.out, B8.out, S8.out⟩
            rw [revL_step kf j (by have h9 := O.out.len; omega), show kf.length - 1 - j = t by have h9 := O.out.len; have h8 := HTI.out; omega, ← HROW.out]
            exact V8.out
          exact AllReadyH.nil
         exact AllReadyH.nil
        exact AllReadyH.nil
       refine AllReadyH.cons (o := { dst := some 59, op := Op.buildSlice 26 1 #[(0, Operand.tmp 58)], type := 26, pos := "l03_normal.go:130", after := #[{ on := 9, ground := Ground.data }], guard := none }) rfl (fun K hK => ?_) ?_
       ·go_simp
        have Y : Hid (ReadsA ((u1.alloc (.cells #[.int .u8 (at8 (backR m row) 0), .int .u8 (at8 (backR m row) 1), .int .u8 (at8 (backR m row) 2), .int .u8 (at8 (backR m row) 3), .int .u8 (at8 (backR m row) 4), .int .u8 (at8 (backR m row) 5), .int .u8 (at8 (backR m row) 6), .int .u8 (at8 (backR m row) 7)] 78))) (some ⟨u1.heap.size, 0, none⟩) 1 [backR m row]) := Lib.hid (reads_at u1 (backR m row) HB8.out 78 (by simp))
        replace V7K := Lib.hid (V7K.out.drawn ((Below.refl _ _).alloc (Nat.le_refl _) (.cells #[.int .u8 (at8 (backR m row) 0), .int .u8 (at8 (backR m row) 1), .int .u8 (at8 (backR m row) 2), .int .u8 (at8 (backR m row) 3), .int .u8 (at8 (backR m row) 4), .int .u8 (at8 (backR m row) 5), .int .u8 (at8 (backR m row) 6), .int .u8 (at8 (backR m row) 7)] 78)))
        replace KB := Lib.hid (KB.out.alloc (by have h1 := KB.out.size; have h2 := S9.out; omega) (.cells #[.int .u8 (at8 (backR m row) 0), .int .u8 (at8 (backR m row) 1), .int .u8 (at8 (backR m row) 2), .int .u8 (at8 (backR m row) 3), .int .u8 (at8 (backR m row) 4), .int .u8 (at8 (backR m row) 5), .int .u8 (at8 (backR m row) 6), .int .u8 (at8 (backR m row) 7)] 78))
        refine hK.out _ _ ?_ (fun hHeld => ?_)
        ·first | with_reducible exact SH.out _ KB.out | with_reducible exact ⟨A8.out.cells, (CR.out _ K8.out).flat⟩
        clear hK K
        try simp only [Act.put, List.setIfInBounds_toArray, List.set_cons_zero, List.set_cons_succ]
        refine wpAnyH_ready (rs := [1]) (by kernel_rfl) (by simp) ?_
        refine AllReadyH.cons (o := { dst := some 50, op := Op.load 26 (Operand.tmp 49), type := 26, pos := "l03_normal.go:130", after := #[{ on := 0, ground := Ground.data }], guard := none }) rfl (fun K hK => ?_) ?_
        ·have O7 := Lib.hid (O9.out.heap KB.out.size (KB.out.block _ (by omega)))
         obtain ⟨z0, ⟨z1, z2, z3⟩, z4, z5, z6⟩ := O7.out
         go_simp
         clear z0 z1 z2 z3 z4 z5 z6 O7
         refine hK.out _ _ ?_ (fun hHeld => ?_)
         ·first | with_reducible exact SH.out _ KB.out | with_reducible exact ⟨A8.out.cells, (CR.out _ K8.out).flat⟩
         clear hK K
         try simp only [Act.put, List.setIfInBounds_toArray, List.set_cons_zero, List.set_cons_succ]
         refine wpAnyH_ready (rs := [11]) (by kernel_rfl) (by simp) ?_
         refine AllReadyH.cons (o := { dst := some 60, op := Op.call { callee := Callee.builtin Builtin.append, args := #[Operand.tmp 50, Operand.tmp 59], argTypes := #[26, 26] }, type := 26, pos := "l03_normal.go:130", after := #[{ on := 1, ground := Ground.data }, { on := 10, ground := Ground.data }, { on := 9, ground := Ground.chain }], guard := none }) rfl (fun K hK => ?_) ?_
         ·have hs9 := S9.out
          have hk9 := KB.out.size
          refine step_append_rows_at rfl _ _ 26 rfl (w2.heap.size + 1 + 1) j0 Try.underlying26 gj gj0 gj1 gj2 _ _ _ rfl V7K.out _ _ _ [backR m row] rfl Y.out (by omega) (by omega) ?_
          intro v' u3 ho' hg hv
          replace KB := Lib.hid (below_ownA KB.out (by omega) (Nat.le_refl _) V7K.out hg)
          obtain ⟨a8, c8, hv8, _⟩ := ho'.form
          subst hv8
          have V8 := Lib.hid ho'
          clear ho' hg hv hs9 hk9 Y V7K
          refine hK.out _ _ ?_ (fun hHeld => ?_)
          ·first | with_reducible exact SH.out _ KB.out | with_reducible exact ⟨A8.out.cells, (CR.out _ K8.out).flat⟩
          clear hK K
          try simp only [Act.put, List.setIfInBounds_toArray, List.set_cons_zero, List.set_cons_succ]
          refine wpAnyH_take (i := 12) (oi := { dst := some 61, op := Op.fieldAddr 28 (Operand.tmp 7) 2, type := 0, pos := "l03_normal.go:130", after := #[{ on := 0, ground := Ground.phase }, { on := 1, ground := Ground.phase }, { on := 2, ground := Ground.phase }, { on := 3, ground := Ground.phase }, { on := 4, ground := Ground.phase }, { on := 5, ground := Ground.phase }, { on := 6, ground := Ground.phase }, { on := 7, ground := Ground.phase }, { on := 8, ground := Ground.phase }, { on := 9, ground := Ground.phase }, { on := 10, ground := Ground.phase }, { on := 11, ground := Ground.phase }], guard := none }) (v := ?_) rfl (by kernel_rfl) (by kernel_rfl) (by kernel_rfl) (fun _ _ _ h => h) (Or.inl ⟨by rfl, ?_⟩) (by assumption) ?_
          rotate_left
          ·intro w hSw
           (try dsimp only at hSw)
           go_simp
           try with_reducible rfl
          try simp only [Act.put, List.setIfInBounds_toArray, List.set_cons_zero, List.set_cons_succ]
          refine wpAnyH_ready (rs := [13]) (by kernel_rfl) (by simp) ?_
          refine AllReadyH.cons (o := { dst := none, op := Op.store 26 (Operand.tmp 61) (Operand.tmp 60), type := 0, pos := "l03_normal.go:130", after := #[{ on := 12, ground := Ground.data }, { on := 11, ground := Ground.data }, { on := 11, ground := Ground.chain }, { on := 0, ground := Ground.phase }, { on := 1, ground := Ground.phase }, { on := 2, ground := Ground.phase }, { on := 3, ground := Ground.phase }, { on := 4, ground := Ground.phase }, { on := 5, ground := Ground.phase }, { on := 6, ground := Ground.phase }, { on := 7, ground := Ground.phase }, { on := 8, ground := Ground.phase }, { on := 9, ground := Ground.phase }, { on := 10, ground := Ground.phase }, { on := 11, ground := Ground.phase }], guard := none }) rfl (fun K hK => ?_) ?_
          ·have O8 := Lib.hid (O9.out.heap KB.out.size (KB.out.block _ (by omega)))
           obtain ⟨z0, ⟨z1, z2, z3⟩, z4, z5, z6⟩ := O8.out
           go_simp
           clear z0 z1 z2 z3 z4 z5 z6
           have A8 := Lib.hid ((A9.out.heap KB.out.size (KB.out.block _ (by omega))).setCell (p := ⟨w2.heap.size + 1, 2, none⟩) (by show w2.heap.size + 1 ≠ w2.heap.size; omega) (.slice a8 (j + 1) c8))
           have Z8 := Lib.hid ((Z9.out.heap KB.out.size (KB.out.block _ (by have h9 := KZ.out; omega))).setCell (p := ⟨w2.heap.size + 1, 2, none⟩) (by have h9 := KZ.out; show w2.heap.size + 1 ≠ w.heap.size + 1; omega) (.slice a8 (j + 1) c8))
           replace O8 := Lib.hid (O8.out.set2 (.slice a8 (j + 1) c8))
           replace V8 := Lib.hid (V8.out.past (g := w2.heap.size + 1) (by omega) 2 (.slice a8 (j + 1) c8))
           have B8 := Lib.hid ((B9.out.trans (KB.out.mono (by omega))).setCell (p := ⟨w2.heap.size + 1, 2, none⟩) (by show w2.heap.size ≤ w2.heap.size + 1; omega) (.slice a8 (j + 1) c8))
           have S8 : Hid ((w2.heap.size + 1 + 1) ≤ (u3.setCell ⟨w2.heap.size + 1, 2, none⟩ (.slice a8 (j + 1) c8)).heap.size) := Lib.hid (by have h1 := KB.out.size; have h2 := S9.out; simp [World.setCell]; omega)
           have K8 : Hid (Below w2.heap.size wr _) := Lib.hid ((KB.out.mono (by omega)).setCell (p := ⟨w2.heap.size + 1, 2, none⟩) (by show w2.heap.size ≤ w2.heap.size + 1; omega) (.slice a8 (j + 1) c8))
           refine hK.out _ _ ?_ (fun hHeld => ?_)
           ·first | with_reducible exact SH.out _ KB.out | with_reducible exact ⟨A8.out.cells, (CR.out _ K8.out).flat⟩
           clear hK K
           try simp only [Act.put, List.setIfInBounds_toArray, List.set_cons_zero, List.set_cons_succ]
           refine wpAnyH_done (by kernel_rfl) ?_ _
           go_wp2
           go_roundw
           case measure => simp [intOf]
           case rel =>
            refine ⟨j + 1, .slice a8 (j + 1) c8, by omega, by go_num, A8.out, O8.out, ?_, Z8.out, B8.out, S8.out⟩
            rw [revL_step kf j (by have h9 := O.out.len; omega), show kf.length - 1 - j = t by have h9 := O.out.len; have h8 := HTI.out; omega, ← HROW.out]
            exact V8.out
          exact AllReadyH.nil
         exact AllReadyH.nil
        exact AllReadyH.nil
       exact AllReadyH.nil
      exact AllReadyH.nil
     ·have hj2 : j = n2 := by omega
      have HJ2 := Lib.hid hj2; clear hj2
      have hv8 := V7.out
      rw [HJ2.out, List.take_of_length_le (by rw [List.length_map, List.length_reverse]; have h9 := O.out.len; omega)] at hv8
      obtain ⟨a8, c8, hv9, ho8⟩ := hv8.form
      subst hv9
      have V8 := Lib.hid ho8
      clear hv8 ho8 V7
      have BW := Lib.hid (HB.out.trans (B9.out.mono (by have h9 := KZ.out; omega)))
      have hz4 : w2.heap.size + 1 + 1 ≤ wr.heap.size := S9.out
      have hz5 : w.heap.size + 1 + 1 ≤ w2.heap.size := KZ.out
      go_wp2_with fail
      refine (l03Fit_own (m : Int) e0 a8 n2 c8 (kf.reverse.map (backR m)) _ V8.out.toS _ _ _ _ HF.out).mono ?_
      rintro e w3 ⟨a3, n3, c3, rfl, ho, h3, _, hb⟩
      have hz3 : wr.heap.size ≤ w3.heap.size := hb.size
      have Z := Lib.hid (Z9.out.below hb)
      have B := Lib.hid (below_go BW.out hb (by omega))
      have O3 := Lib.hid ho
      clear ho hb
      replace Z := Lib.hid (Z.out.alloc (.cells #[.int .i64 m, .int .i64 e0, .slice a3 n3 c3] 28))
      replace B := Lib.hid (B.out.alloc B.out.size (.cells #[.int .i64 m, .int .i64 e0, .slice a3 n3 c3] 28))
      replace O3 := Lib.hid (O3.out.alloc (.cells #[.int .i64 m, .int .i64 e0, .slice a3 n3 c3] 28))
      obtain ⟨r1, r2, r3⟩ := (At3.place w3 (.int .i64 m) (.int .i64 e0) (.slice a3 n3 c3) 28 w3.heap.size rfl).all
      obtain ⟨x0, ⟨x1, x2, x3⟩, y1, y2, y3⟩ := Z.out
      go_wp2
      try rw [Exit.noGoto_ret]
      obtain ⟨_, ⟨e1, e2, e3⟩, _⟩ := Z.out.fill (.int .i64 m) (.int .i64 e0) (.slice a3 n3 c3)
      have o3 := O3.out
      have o4 := (o3.set3 (g2 := w.heap.size + 1) (by omega) (.int .i64 m) (.int .i64 e0) (.slice a3 n3 c3)).mono (B' := w.heap.size) (by omega)
      exact bodyPost_ret (v := .tuple #[.agg #[.int .i64 m, .int .i64 e0, .slice a3 n3 c3], .int .i64 0]) (by simp [results, Try.results23, go_sem, e1, e2, e3]) rfl ⟨_, _, _, rfl, by omega, o4, below_set3 B.out (by omega) _ _ _⟩
 | false =>
  rw [hB, if_neg (by simp)] at hM
  simp only [Prod.mk.injEq] at hM
  obtain ⟨rfl, rfl, rfl, rfl⟩ := hM
  go_enter Try.func23, Try.ntmps23
  have Z := Lib.hid (At3.place (w.alloc (.cells #[.int .i64 s, .slice a n cap] 31)) (.int .i64 0) (.int .i64 0) (.slice none 0 0) 28 (w.heap.size + 1) (by simp))
  have B := Lib.hid ((below1 w (.cells #[.int .i64 s, .slice a n cap] 31)).alloc (by simp) (.cells #[.int .i64 0, .int .i64 0, .slice none 0 0] 28))
  go_wp2_with fail
  refine (l01Is_any s a n cap xs _ (HR.out.below B.out) hf hn).mono ?_
  rw [hB]
  rintro e w1 ⟨rfl, hb⟩
  have hz1 : w.heap.size + 1 + 1 ≤ w1.heap.size := by have := hb.size; simp at this; omega
  replace Z := Lib.hid (Z.out.below hb)
  replace B := Lib.hid (below_go B.out hb (by simp; omega))
  clear hb
  obtain ⟨x0, ⟨x1, x2, x3⟩, y1, y2, y3⟩ := Z.out
  go_wp2
  try rw [Exit.noGoto_ret]
  obtain ⟨_, ⟨e1, e2, e3⟩, _⟩ := Z.out.fill (.int .i64 0) (.int .i64 0) (.slice none 0 0)
  exact bodyPost_ret (v := .tuple #[.agg #[.int .i64 0, .int .i64 0, .slice none 0 0], .int .i64 1]) (by simp [results, Try.results23, go_sem, e1, e2, e3]) rfl ⟨none, 0, 0, rfl, by omega, OwnS.nil _ _ _, below_set3 B.out (by omega) _ _ _⟩

end Go.Proofs.Ythpmehhfhngnbaa

