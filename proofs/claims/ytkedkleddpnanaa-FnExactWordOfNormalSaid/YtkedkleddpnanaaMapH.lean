/- The word of a simple braid: the model. -/
import Derived.Test.YtkedkleddpnanaaTakeP
import Derived.Test.YtkedkleddpnanaaSBeg
import Derived.Test.YtkedkleddpnanaaIRows
import Derived.Test.YtkedkleddpnanaaSThen
import Derived.Test.YtkedkleddpnanaaExch
import Derived.Test.YtkedkleddpnanaaMapF
namespace Go.Proofs.Ytkedkleddpnanaa
open Go.RowKit Go.ChangeShapes

theorem grown_keeps {w1 w2 : World} {o : Obj} {r : Option Nat} (hg : (w1.alloc o).grownBy w2 r) (j : Nat) (hj : j < w1.heap.size) (hne : some j ≠ r) : w2.heap[j]? = w1.heap[j]? :=
  (hg.block j (Nat.lt_of_lt_of_le hj ((Below.refl _ _).alloc (Nat.le_refl _) o).size) hne).trans (((Below.refl w1.heap.size w1).alloc (Nat.le_refl _) o).block j hj)

theorem OwnV.low {B g : Nat} {w : World} {v : Value} {n : Nat} {xs : List Int} (h : OwnV B w v n xs) (hg : g < B) : some g ≠ v.ownBlock := fun e => by
  have := (World.ownsRow.lt h g e.symm).1
  omega

theorem below_grown {B : Nat} {w w1 w2 : World} {v : Value} {n : Nat} {xs : List Int} {o : Obj} (h : Below w.heap.size w w1) (ho : OwnV B w1 v n xs) (hB : w.heap.size ≤ B) (hg : (w1.alloc o).grownBy w2 v.ownBlock) : Below w.heap.size w w2 := by
  have h := wrote_appended (below_wrote (lo := w.heap.size) (hi := w.heap.size + 1) h) hB ho hg
  exact ⟨h.os, h.tape, h.output, h.size, fun j hj => h.block j hj (.inl hj)⟩

theorem OwnV.drew {B : Nat} {w : World} {v : Value} {n : Nat} {xs : List Int} (h : OwnV B w v n xs) : OwnV B w.drew v n xs := h

theorem OwnV.fill8 {B g : Nat} {w : World} {v : Value} {n : Nat} {xs : List Int} (h : OwnV B w v n xs) (hg : g < B) (v0 v1 v2 v3 v4 v5 v6 v7 : Value) :
    OwnV B ((((((((w.setCell ⟨g, 0, none⟩ v0).setCell ⟨g, 1, none⟩ v1).setCell ⟨g, 2, none⟩ v2).setCell ⟨g, 3, none⟩ v3).setCell ⟨g, 4, none⟩ v4).setCell ⟨g, 5, none⟩ v5).setCell ⟨g, 6, none⟩ v6).setCell ⟨g, 7, none⟩ v7) v n xs := by
  obtain ⟨a, cap, rfl, ho⟩ := h.form
  have h0 := ho.setCell_below (p := ⟨g, 0, none⟩) hg v0
  have h1 := h0.setCell_below (p := ⟨g, 1, none⟩) hg v1
  have h2 := h1.setCell_below (p := ⟨g, 2, none⟩) hg v2
  have h3 := h2.setCell_below (p := ⟨g, 3, none⟩) hg v3
  have h4 := h3.setCell_below (p := ⟨g, 4, none⟩) hg v4
  have h5 := h4.setCell_below (p := ⟨g, 5, none⟩) hg v5
  have h6 := h5.setCell_below (p := ⟨g, 6, none⟩) hg v6
  exact h6.setCell_below (p := ⟨g, 7, none⟩) hg v7

theorem far_some {n k : Nat} {u : List Int} (h : Sim n u) (hc : common [u] (n - 1) 0 = some k) : far (thenR n (exR n k) u) < far u := by
  obtain ⟨_, h2, h3, _⟩ := common_some hc
  refine far_less h (by omega) ?_
  simpa [allBeg] using h3

/-- A call's block is not what was one's own before. -/
theorem OwnV.apart {B g : Nat} {w0 : World} {v : Value} {n : Nat} {xs : List Int} (h : OwnV B w0 v n xs) (hg : w0.heap.size ≤ g) : some g ≠ v.ownBlock := fun e => by
  have := (World.ownsRow.lt h g e.symm).2
  omega

theorem begR_none {n : Nat} {u : List Int} (h : common [u] (n - 1) 0 = none) : begR u (n - 1) = [] := by
  have hn := common_none h
  unfold begR
  rw [List.map_eq_nil_iff, List.filter_eq_nil_iff]
  intro j hj
  have := hn j (Nat.zero_le _) (by have := List.mem_range.1 hj; omega)
  simpa [allBeg] using this

theorem filter_first (p : Nat → Bool) (k m i : Nat) (h1 : i ≤ k) (h2 : k < i + m) (hk : p k = true) (hno : ∀ j, i ≤ j → j < k → p j = false) : ∃ rest, (List.range' i m).filter p = k :: rest := by
  induction m generalizing i with
  | zero => omega
  | succ m ih =>
    rw [List.range'_succ]
    by_cases e : i = k
    · subst e
      exact ⟨_, List.filter_cons_of_pos hk⟩
    · rw [List.filter_cons_of_neg (by rw [hno i (Nat.le_refl _) (by omega)]; simp)]
      exact ih (i + 1) (by omega) (by omega) fun j h3 h4 => hno j (by omega) h4

theorem begR_some {n k : Nat} {u : List Int} (h : common [u] (n - 1) 0 = some k) : ∃ rest, begR u (n - 1) = ((k : Int) + 1) :: rest ∧ k + 1 < n := by
  obtain ⟨_, h2, h3, h4⟩ := common_some h
  obtain ⟨rest, hr⟩ := filter_first (fun j => decide (at8 u (j + 1) < at8 u j)) k (n - 1) 0 (Nat.zero_le _) h2 (by simpa [allBeg] using h3) (fun j h5 h6 => by have := h4 j h5 h6; simpa [allBeg] using this)
  refine ⟨rest.map fun (j : Nat) => (j : Int) + 1, ?_, by omega⟩
  unfold begR
  rw [List.range_eq_range', hr]
  rfl

set_option maxRecDepth 100000 in
set_option maxHeartbeats 1000000 in
theorem l02Word_any (n : Nat) (a : List Int) (sa : Sim n a) (w : World) :
    Calls Try.prog 59 #[.int .i64 n, arr8 .u8 a] w fun e w' => ∃ a1 m c1, e = .returned (.slice a1 m c1) ∧ m ≤ 196 ∧ Own w.heap.size w' a1 m c1 (takeR n [a]) ∧ Below w.heap.size w w' := by
  have h8 := sa.hi
  have SA := Lib.hid sa
  have h1 := sa.lo
  clear sa
  obtain ⟨i0, hi, hz0, hz1, hz2⟩ := info_parts infoInt
  go_enter Try.func59, Try.ntmps59
  have RA := Lib.hid (Row8.place w .u8 a 26 w.heap.size rfl SA.out.len)
  have BB := Lib.hid (below1 w (.cells #[.int .u8 (at8 a 0), .int .u8 (at8 a 1), .int .u8 (at8 a 2), .int .u8 (at8 a 3), .int .u8 (at8 a 4), .int .u8 (at8 a 5), .int .u8 (at8 a 6), .int .u8 (at8 a 7)] 26))
  have O0 : Hid (OwnV (w.heap.size + 1) ((w.alloc (.cells #[.int .u8 (at8 a 0), .int .u8 (at8 a 1), .int .u8 (at8 a 2), .int .u8 (at8 a 3), .int .u8 (at8 a 4), .int .u8 (at8 a 5), .int .u8 (at8 a 6), .int .u8 (at8 a 7)] 26)).alloc (.cells #[] 2)) (.slice (some ⟨w.heap.size + 1, 0, none⟩) 0 0) 0 []) := Lib.hid (by simpa using OwnV.empty (w.alloc (.cells #[.int .u8 (at8 a 0), .int .u8 (at8 a 1), .int .u8 (at8 a 2), .int .u8 (at8 a 3), .int .u8 (at8 a 4), .int .u8 (at8 a 5), .int .u8 (at8 a 6), .int .u8 (at8 a 7)] 26)))
  replace RA := Lib.hid (RA.out.alloc (.cells #[] 2))
  replace BB := Lib.hid (BB.out.alloc BB.out.size (.cells #[] 2))
  go_wp2_with fail
  go_loopw [5] (fun v wr => ∃ (got u : List Int), Sim n u ∧ takeR n [a] = got ++ takeR n [u] ∧ got.length + far u ≤ 196 ∧ OwnV (w.heap.size + 1) wr v got.length got ∧ Row8 wr w.heap.size .u8 u ∧ Below w.heap.size w wr) (fun v _ => 200 - lenOf v)
  case atStart => exact ⟨[], a, SA.out, rfl, by have := far_le SA.out; simpa using this, O0.out, RA.out, BB.out⟩
  case round =>
    obtain ⟨got, u, hs, ht, hf, ho, hr, hb⟩ := hrel
    clear O0 RA BB
    have HS := Lib.hid hs
    have HT := Lib.hid ht
    have HO := Lib.hid ho
    have RA := Lib.hid hr
    have BB := Lib.hid hb
    clear hs ht ho hr hb
    have zz := BB.out.size
    have zr := RA.out.lt
    obtain ⟨⟨q0, q1, q2, q3⟩, q4, q5, q6, q7⟩ := RA.out.all
    go_wp2_with fail
    refine (l02Begins_any n h1 h8 u HS.out.len _).mono ?_
    rintro e w1 ⟨a1, c1, rfl, hol, hb1⟩
    clear q0 q1 q2 q3 q4 q5 q6 q7
    have LO := Lib.hid hol
    have HO0 := HO.out
    replace RA := Lib.hid (RA.out.below hb1)
    replace BB := Lib.hid (below_go BB.out hb1 zz)
    replace HO := Lib.hid (HO.out.drawn hb1)
    clear hol hb1
    have z1 := BB.out.size
    cases hc : common [u] (n - 1) 0 with
    | none =>
      have hl : begR u (n - 1) = [] := begR_none hc
      have HE : Hid (takeR n [a] = got) := Lib.hid (by rw [HT.out, takeR_none hc, List.append_nil])
      rw [hl]
      clear hl hc
      go_wp2
      go_ret
      obtain ⟨g, cap, rfl, ho'⟩ := HO.out.form
      exact ⟨g, _, cap, rfl, by omega, by rw [HE.out]; exact ho'.mono (by omega), BB.out⟩
    | some k =>
      obtain ⟨rest, hl, hk⟩ := begR_some hc
      have hlen : (begR u (n - 1)).length = rest.length + 1 := by rw [hl]; rfl
      have h196 := far_le HS.out
      have HN := Lib.hid (takeR_some (n := n) (v := u) (vs := []) (fun x hx => by rw [List.mem_singleton.1 hx]; exact HS.out) hc)
      have HF := Lib.hid (far_some HS.out hc)
      have S2 : Hid (Sim n (thenR n (exR n k) u)) := Lib.hid (thenR_sim (exR_sim n k h8 hk) HS.out)
      have hff := HF.out
      obtain ⟨m, hm⟩ : ∃ m, m = (begR u (n - 1)).length := ⟨_, rfl⟩
      rw [← hm] at LO hlen ⊢
      have hm0 : 1 ≤ m := by omega
      obtain ⟨gl, rfl, hgl1, hgl2⟩ := LO.out.block hm0
      have hx := LO.out.cellAt 0 hm0
      rw [hl] at hx
      simp only [List.getD_cons_zero] at hx
      have hgo := OwnV.apart HO0 hgl1
      have tne : ((m : Int) == 0) = false := by rw [beq_eq_false_iff_ne]; omega
      have jb1 : (0 : Int) < m := by omega
      clear hl hlen hm hc HO0
      go_wp2_with (at_builtin; refine wpList_append_own _ rfl _ _ 23 rfl (w.heap.size + 1) 2 i0 (.int .i64 0) 1 8 Try.underlying23 hi hz0 hz1 hz2 rfl (by decide) _ _ _ rfl (World.ownsRow.alloc HO.out _) ⟨w1.heap.size, 0, none⟩ 1 1 [.int .i64 ((k : Int) + 1)] rfl rfl (one_new w1 ((k : Int) + 1) _) (one_cell _) (by unfold maxLen; omega) (by omega) (by simp; omega) ?_)
      intro v' w2 hown' hgrow _
      have HO3 := Lib.hid (OwnV.appended hown')
      have HL := Lib.hid HO.out.lenOf
      have Z1 : Hid (w.heap.size < w1.heap.size) := Lib.hid (by omega)
      have hx2 := (World.cell?_of_block (a := ⟨gl, 0, none⟩) (grown_keeps hgrow gl hgl2 hgo)).trans hx
      have R2 := Lib.hid (RA.out.heap (Nat.le_trans (by simp) hgrow.size) (grown_keeps hgrow w.heap.size Z1.out (HO.out.low (Nat.lt_succ_self _))))
      have B2 := Lib.hid (below_grown BB.out HO.out (Nat.le_succ _) hgrow)
      clear hown' hgrow hx RA BB HO LO hgo
      have zb := B2.out.size
      have z2 := R2.out.lt
      obtain ⟨⟨q0, q1, q2, q3⟩, q4, q5, q6, q7⟩ := R2.out.all
      have HE := Lib.hid (exR_len n k h8)
      have HU := Lib.hid HS.out.len
      have HW := Lib.hid (exR_sim n k h8 hk).wide
      go_wp2
      go_region_with
        (first
          | (go_at_call 103; refine (l02Exchange_any n k h8 hk _).mono ?_; rintro e v1 ⟨rfl, g1⟩; obtain ⟨⟨r0, r1, r2, r3⟩, r4, r5, r6, r7⟩ := (R2.out.drew.below g1).all)
          | (go_at_call 102; refine (l02Then_any n h8 (exR n k) u HE.out HU.out HW.out _).mono ?_; rintro e v2 ⟨rfl, g2⟩; obtain ⟨⟨d0, d1, d2, d3⟩, d4, d5, d6, d7⟩ := ((R2.out.drew.below g1).below g2).all; obtain ⟨⟨f0, f1, f2, f3⟩, f4, f5, f6, f7⟩ := ((R2.out.drew.below g1).below g2).frees; have zq := ((R2.out.drew.below g1).below g2).lt))
      all_goals
        have R3 := Lib.hid ((R2.out.drew.below g1).below g2)
        have B3 := Lib.hid (below_go (below_go B2.out.drew g1 zb) g2 (Nat.le_trans zb g1.size))
        have O3 := Lib.hid ((OwnV.drew HO3.out).drawn g1)
        replace O3 := Lib.hid (O3.out.drawn g2)
        clear g1 g2 q0 q1 q2 q3 q4 q5 q6 q7 r0 r1 r2 r3 r4 r5 r6 r7 d0 d1 d2 d3 d4 d5 d6 d7 f0 f1 f2 f3 f4 f5 f6 f7 hx2
        go_wp2
        go_roundw
        case rel =>
          refine ⟨got ++ [(k : Int) + 1], thenR n (exR n k) u, S2.out, ?_, ?_, ?_, R3.out.fill (thenR n (exR n k) u) (mapR_len _ _ h8), below_fill8 B3.out _ (by omega) _ _ _ _ _ _ _ _⟩
          · rw [HT.out, HN.out]
            simp [strip]
          · rw [List.length_append, List.length_singleton]
            omega
          · rw [List.length_append, List.length_singleton]
            exact O3.out.fill8 (Nat.lt_succ_self _) _ _ _ _ _ _ _ _
        case measure =>
          have e1 := HO3.out.lenOf
          rw [e1, HL.out]
          omega

end Go.Proofs.Ytkedkleddpnanaa
