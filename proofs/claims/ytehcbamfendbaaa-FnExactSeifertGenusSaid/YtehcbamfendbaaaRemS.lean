/- RemoveStrand: where a letter is found first; the model and the program. -/
import Derived.Test.YtehcbamfendbaaaSFor
import Derived.Test.YtehcbamfendbaaaCloI
import Derived.Test.YtehcbamfendbaaaOwnL
namespace Go.Proofs.Ytehcbamfendbaaa
open Go.RowKit Go.ChangeShapes

/-- Whether the last letter, and no other one, has the index s - 1. -/
def remB (s : Int) (xs : List Int) : Bool := decide (0 < xs.length) && (idx (xs.getD (xs.length - 1) 0) == s - 1) && (xs.take (xs.length - 1)).all (fun x => idx x != s - 1)

/-- A strand removed, and the code. -/
def mRem (s : Int) (xs : List Int) : Int × List Int × Int :=
  if isBraid s xs = true then (if remB s xs = true then (s - 1, xs.take (xs.length - 1), 0) else (0, [], 5)) else (0, [], 1)

/-- The place of the first letter with an index, or -1. -/
def FirstAt (q : Int) (xs : List Int) (r : Int) : Prop :=
  (r = -1 ∧ ∀ j, j < xs.length → idx (xs.getD j 0) ≠ q) ∨ (∃ j : Nat, r = j ∧ j < xs.length ∧ idx (xs.getD j 0) = q ∧ ∀ i, i < j → idx (xs.getD i 0) ≠ q)

theorem remB_iff (s : Int) (xs : List Int) : remB s xs = true ↔ 0 < xs.length ∧ idx (xs.getD (xs.length - 1) 0) = s - 1 ∧ ∀ j, j < xs.length - 1 → idx (xs.getD j 0) ≠ s - 1 := by
  unfold remB
  simp only [Bool.and_eq_true, decide_eq_true_eq, beq_iff_eq, List.all_eq_true, bne_iff_ne, and_assoc]
  refine and_congr_right fun h0 => and_congr_right fun _ => ⟨fun h j hj => h _ ?_, fun h x hx => ?_⟩
  · have hj2 : j < (xs.take (xs.length - 1)).length := by rw [List.length_take]; omega
    have := List.getElem_mem hj2
    rw [List.getElem_take] at this
    simpa [List.getD, List.getElem?_eq_getElem (show j < xs.length by omega)] using this
  · obtain ⟨j, hj, rfl⟩ := List.mem_iff_getElem.1 hx
    rw [List.length_take] at hj
    have := h j (by omega)
    rw [List.getElem_take]
    simpa [List.getD, List.getElem?_eq_getElem (show j < xs.length by omega)] using this

theorem remB_of {s : Int} {xs : List Int} {r : Int} (h : FirstAt (s - 1) xs r) : (remB s xs = true ∧ 0 < xs.length ∧ r = ((xs.length - 1 : Nat) : Int)) ∨ (remB s xs = false ∧ (r = -1 ∨ ∃ j : Nat, r = j ∧ j < xs.length ∧ j ≠ xs.length - 1)) := by
  rcases h with ⟨rfl, h⟩ | ⟨j, rfl, hj, he, h⟩
  · refine .inr ⟨?_, .inl rfl⟩
    rw [Bool.eq_false_iff]
    intro hc
    obtain ⟨h0, h1, _⟩ := (remB_iff s xs).1 hc
    exact h _ (by omega) h1
  · by_cases hjl : j = xs.length - 1
    · subst hjl
      exact .inl ⟨(remB_iff s xs).2 ⟨by omega, he, h⟩, by omega, rfl⟩
    · refine .inr ⟨?_, .inr ⟨j, rfl, hj, hjl⟩⟩
      rw [Bool.eq_false_iff]
      intro hc
      obtain ⟨h0, h1, h2⟩ := (remB_iff s xs).1 hc
      exact h2 j (by omega) he

theorem Reads.take11 {w : World} {b off n : Nat} {xs : List Int} (h : Reads w (some ⟨b, off, none⟩) n xs) (p : Nat) (hp : p ≤ n) : Reads w (some ⟨b, off, none⟩) p (xs.take p) := by
  have hl := h.len
  refine ⟨by simp; omega, ?_⟩
  rcases h.2 with h0 | ⟨b', off', ha, hc⟩
  · exact .inl (by omega)
  · cases ha
    refine .inr ⟨b, off, rfl, fun j hj => ?_⟩
    rw [hc j (by omega)]
    simp [List.getD, hj]

/-- How many letters have the index. -/
def cntI (q : Int) (xs : List Int) : Nat := xs.countP (fun x => idx x == q)

theorem cntI_step (q : Int) (xs : List Int) (k : Nat) (h : k < xs.length) : cntI q (xs.take (k + 1)) = cntI q (xs.take k) + (if idx (xs.getD k 0) = q then 1 else 0) := by
  rw [take_snoc xs k h]
  unfold cntI
  rw [List.countP_append]
  congr 1
  simp [List.countP_cons]

theorem cntI_le (q : Int) (xs : List Int) : cntI q xs ≤ xs.length := List.countP_le_length

theorem remB_cnt (s : Int) (xs : List Int) (m : Nat) (hm : xs.length = m + 1) : remB s xs = (decide (cntI (s - 1) xs = 1) && decide (idx (xs.getD m 0) = s - 1)) := by
  have h1 := cntI_step (s - 1) xs m (by omega)
  rw [List.take_of_length_le (show xs.length ≤ m + 1 by omega)] at h1
  have h0 : (xs.take m).all (fun x => idx x != s - 1) = decide (cntI (s - 1) (xs.take m) = 0) := by
    rw [Bool.eq_iff_iff]
    simp only [List.all_eq_true, decide_eq_true_eq, cntI, List.countP_eq_zero]
    simp
  unfold remB
  rw [show xs.length - 1 = m by omega, h0, h1]
  by_cases h : idx (xs.getD m 0) = s - 1
  · have e1 : (idx (xs.getD m 0) == s - 1) = true := by rw [h]; simp
    have e2 : decide (idx (xs.getD m 0) = s - 1) = true := decide_eq_true h
    have e3 : decide (0 < xs.length) = true := decide_eq_true (by omega)
    have e4 : decide (cntI (s - 1) (xs.take m) + 1 = 1) = decide (cntI (s - 1) (xs.take m) = 0) := by rw [Bool.eq_iff_iff]; simp
    rw [if_pos h, e1, e2, e3, e4]
    simp
  · have e1 : (idx (xs.getD m 0) == s - 1) = false := beq_eq_false_iff_ne.2 h
    have e2 : decide (idx (xs.getD m 0) = s - 1) = false := decide_eq_false h
    rw [e1, e2]
    simp

set_option maxRecDepth 100000 in
theorem hasIndex_any (q x : Int) (g : Nat) (w : World) (hc : w.cell? ⟨g, 0, none⟩ = some (.int .i64 q)) (h1 : -1000 < x) (h2 : x < 1000) :
    Calls Try.prog 110 #[.int .i64 x, .pointer (some ⟨g, 0, none⟩)] w fun e w' => e = .returned (.bool (idx x == q)) ∧ Below w.heap.size w w' := by
  have C1 := fun W => index_any x W h1 h2
  rw [idxv_cnt] at C1
  have K1 := Lib.hid C1
  clear C1
  go_enter Try.func110, Try.ntmps110
  go_wp2
  go_quiet (first
    | (go_at_call 111; exact Calls.quiet_of_same ((K1.out _).mono fun _ _ ⟨he, hw⟩ => ⟨he, hw.symm⟩)))
  go_wp2
  go_ret
  exact ⟨ret_bool rfl, below_draws _ _ _⟩

set_option maxRecDepth 100000 in
set_option maxHeartbeats 1000000 in
theorem indexFuncI_any (q : Int) (g : Nat) (b : Option Addr) (m capb : Nat) (cs : List Int) (w : World) (hc : w.cell? ⟨g, 0, none⟩ = some (.int .i64 q)) (hg : g < w.heap.size) (hr : Reads w b m cs) (hsm : Small cs) (hm : m ≤ 1048576) :
    Calls Try.prog 109 #[.slice b m capb, .func (.func 110) #[] #[.pointer (some ⟨g, 0, none⟩)]] w fun e w' => ∃ r : Int, e = .returned (.int .i64 r) ∧ FirstAt q cs r ∧ Below w.heap.size w w' := by
  have HX := Lib.hid hr; have HCN := Lib.hid hr.len; clear hr
  have HST := Lib.hid (fun W (k : Below w.heap.size w W) x h1 h2 => hasIndex_any q x g W ((k.cell (p := ⟨g, 0, none⟩) hg).trans hc) h1 h2); clear hc
  have HSM := Lib.hid hsm; clear hsm
  go_enter Try.func109, Try.ntmps109
  go_wp2
  go_loopw [8] (fun i wr => ∃ k : Nat, k ≤ m ∧ i = .int .i64 k ∧ Hid (∀ j, j < k → idx (cs.getD j 0) ≠ q) ∧ Below w.heap.size w wr) (fun i _ => m - (intOf i).toNat)
  case atStart => exact ⟨0, Nat.zero_le _, rfl, Lib.hid (fun j hj => absurd hj (Nat.not_lt_zero _)), Below.refl _ _⟩
  case round =>
    obtain ⟨k, hk, rfl, HS, hb⟩ := hrel
    have HB := Lib.hid hb; clear hb
    by_cases hlt : k < m
    · obtain ⟨gb, go', rfl, hgb, hgc⟩ := HX.out.cells (by omega)
      obtain ⟨x, hx⟩ : ∃ x, x = cs.getD k 0 := ⟨_, rfl⟩
      have c1 : wr.cell? ⟨gb, go' + k, none⟩ = some (.int .i64 x) := by rw [hx]; exact (HB.out.cell (by exact hgb)).trans (hgc k hlt)
      have hxs := HSM.out x (by rw [hx]; exact getD_mem cs k (by rw [HCN.out]; exact hlt))
      have HX1 := Lib.hid hx; clear hx hgc
      have HXS := Lib.hid hxs; clear hxs
      cases hi : idx x == q with
      | true =>
        have HI := Lib.hid (beq_iff_eq.1 hi)
        have HIB := Lib.hid hi; clear hi
        go_wp2_with fail
        refine (HST.out _ HB.out _ HXS.out.1 HXS.out.2).mono ?_
        rintro e w' ⟨rfl, hb⟩
        rw [HIB.out]
        have HB2 := Lib.hid (below_go HB.out hb HB.out.size); clear hb
        go_wp2
        go_ret
        exact ⟨(k : Int), rfl, .inr ⟨k, rfl, by rw [HCN.out]; exact hlt, by rw [← HX1.out]; exact HI.out, HS.out⟩, HB2.out⟩
      | false =>
        have HI := Lib.hid (beq_eq_false_iff_ne.1 hi)
        have HIB := Lib.hid hi; clear hi
        go_wp2_with fail
        refine (HST.out _ HB.out _ HXS.out.1 HXS.out.2).mono ?_
        rintro e w' ⟨rfl, hb⟩
        rw [HIB.out]
        have HB2 := Lib.hid (below_go HB.out hb HB.out.size); clear hb
        go_wp2
        go_roundw
        case rel =>
          refine ⟨k + 1, by omega, by go_num, Lib.hid fun j hj => ?_, HB2.out⟩
          by_cases hjk : j = k
          · rw [hjk, ← HX1.out]; exact HI.out
          · exact HS.out j (by omega)
        case measure => simp [intOf]; omega
    · have hkn : k = m := by omega
      have HKN := Lib.hid hkn; clear hkn
      go_wp2
      go_ret
      exact ⟨-1, rfl, .inl ⟨rfl, fun j hj => HS.out j (by rw [HKN.out, ← HCN.out]; exact hj)⟩, HB.out⟩

set_option maxRecDepth 100000 in
set_option maxHeartbeats 1000000 in
theorem firstWith_any (s : Int) (a : Option Addr) (n cap : Nat) (xs : List Int) (q : Int) (w : World) (hr : Reads w a n xs) (hsm : Small xs) (hn : n ≤ 1048576) :
    Calls Try.prog 74 #[.agg #[.int .i64 s, .slice a n cap], .int .i64 q] w fun e w' => ∃ r : Int, e = .returned (.int .i64 r) ∧ FirstAt q xs r ∧ Below w.heap.size w w' := by
  have R := Lib.hid hr; clear hr
  have HSM := Lib.hid hsm; clear hsm
  have A := Lib.hid ((At2.new w (.int .i64 s) (.slice a n cap) 29).alloc (.cells #[.int .i64 q] 2))
  have BB := Lib.hid (below2 w (.cells #[.int .i64 s, .slice a n cap] 29) (.cells #[.int .i64 q] 2))
  have B1 := At1.place (w.alloc (.cells #[.int .i64 s, .slice a n cap] 29)) (.int .i64 q) 2 (w.heap.size + 1) (by simp)
  have B := Lib.hid B1; clear B1
  go_enter Try.func74, Try.ntmps74
  obtain ⟨qA1, qA2, qA3, qA4, qA5⟩ := A.out
  go_wp2_with fail
  refine (indexFuncI_any q (w.heap.size + 1) a n cap xs _ B.out.2.1 B.out.1 ((R.out.alloc _).alloc _) HSM.out hn).mono ?_
  rintro e w1 ⟨r, rfl, hf, hb⟩
  have HF := Lib.hid hf; clear hf
  replace BB := Lib.hid (below_go BB.out hb BB.out.size); clear hb
  go_wp2
  go_ret
  exact ⟨r, rfl, HF.out, BB.out⟩

set_option maxRecDepth 100000 in
set_option maxHeartbeats 1000000 in
theorem implRemoveStrand_any {s : Int} {a : Option Addr} {n cap : Nat} {xs : List Int} {w : World} {fs : Int} {fxs : List Int} {fc : Int} (hr : Reads w a n xs) (hf : Fits xs) (hn : n ≤ 1048576) (hcap : n ≤ cap) (hM : mRem s xs = (fs, fxs, fc)) :
    Calls Try.prog 37 #[.agg #[.int .i64 s, .slice a n cap]] w (RetBraid w fs fxs fc) := by
  have R := Lib.hid hr; clear hr
  have HF := Lib.hid hf; clear hf
  have HL := Lib.hid R.out.len
  by_cases hbr : isBraid s xs = true
  · have g1 := lo_of_isBraid _ _ hbr
    have g2 := hi_of_isBraid _ _ hbr
    have g3 := len_of_isBraid _ _ hbr
    have hnn : n ≤ 200 := by have := HL.out; omega
    have HLS := Lib.hid (letts_of_isBraid hbr)
    have ws : IntKind.i64.wrap (s - 1) = s - 1 := IntWalk.i64_in _ (by omega)
    have HSM : Hid (Small xs) := Lib.hid fun x hx => (HLS.out x hx).small (by omega)
    have HM : Hid ((if remB s xs = true then (s - 1, xs.take (xs.length - 1), 0) else (0, [], 5)) = (fs, fxs, fc)) := Lib.hid (by rw [← hM, mRem, if_pos hbr])
    clear hM g3
    go_enter Try.func37, Try.ntmps37
    replace R := Lib.hid ((R.out.alloc (.cells #[.int .i64 s, .slice a n cap] 29)).alloc (.cells #[.int .i64 0, .slice none 0 0] 29))
    have A := Lib.hid ((At2.new w (.int .i64 s) (.slice a n cap) 29).alloc (.cells #[.int .i64 0, .slice none 0 0] 29))
    have Z := Lib.hid (At2.place (w.alloc (.cells #[.int .i64 s, .slice a n cap] 29)) (.int .i64 0) (.slice none 0 0) 29 (w.heap.size + 1) (by simp))
    have BB := Lib.hid (below2 w (.cells #[.int .i64 s, .slice a n cap] 29) (.cells #[.int .i64 0, .slice none 0 0] 29))
    obtain ⟨qA1, qA2, qA3, qA4, qA5⟩ := A.out
    go_wp2_with fail
    refine (implIsBraid_any s a n cap xs _ R.out hn).mono ?_
    rintro e w1 ⟨rfl, hb⟩
    clear qA1 qA2 qA3 qA4 qA5
    replace R := Lib.hid (R.out.below hb)
    replace A := Lib.hid (A.out.below hb)
    replace Z := Lib.hid (Z.out.below hb)
    replace BB := Lib.hid (below_go BB.out hb BB.out.size)
    clear hb
    obtain ⟨qA1, qA2, qA3, qA4, qA5⟩ := A.out
    go_wp2_with fail
    refine (firstWith_any s a n cap xs (s - 1) _ R.out HSM.out hn).mono ?_
    rintro e w2 ⟨r, rfl, hfa, hb⟩
    clear qA1 qA2 qA3 qA4 qA5
    replace R := Lib.hid (R.out.below hb)
    replace A := Lib.hid (A.out.below hb)
    replace Z := Lib.hid (Z.out.below hb)
    replace BB := Lib.hid (below_go BB.out hb BB.out.size)
    clear hb
    obtain ⟨qA1, qA2, qA3, qA4, qA5⟩ := A.out
    have hrb := remB_of hfa
    clear hfa
    rcases hrb with ⟨hrm, hpos, rfl⟩ | ⟨hrm, hno⟩
    · have hM2 := HM.out
      rw [if_pos hrm] at hM2
      simp only [Prod.mk.injEq] at hM2
      obtain ⟨rfl, rfl, rfl⟩ := hM2
      obtain ⟨m, hm⟩ : ∃ m, xs.length = m + 1 := ⟨xs.length - 1, by omega⟩
      have hnm : n = m + 1 := by have := HL.out; omega
      rw [show xs.length - 1 = m by omega]
      subst hnm
      have HMM := Lib.hid hm; clear hm hrm hpos
      obtain ⟨gb, off, rfl, hgb, hgc⟩ := R.out.cells (by omega)
      have ws2 : IntKind.i64.wrap (((m + 1 : Nat) : Int) - 1) = (m : Int) := (IntWalk.i64_in _ (by omega)).trans (by omega)
      clear hgb hgc
      have R2 : Hid (Reads w2 (some ⟨gb, off, none⟩) m (xs.take m)) := Lib.hid (R.out.take11 m (by omega))
      have u1 : (0 : Int) ≤ (m : Int) := by omega
      have u2 : (m : Int) ≤ (cap : Int) := by omega
      have u3 : m ≤ cap := by omega
      obtain ⟨qZ1, qZ2, qZ3, qZ4, qZ5⟩ := Z.out
      go_wp2
      go_region_held3 (fun w' => w'.cell? ⟨w.heap.size, 0, none⟩ = some (.int .i64 s) ∧ w'.cell? ⟨w.heap.size, 1, none⟩ = some (.slice (some ⟨gb, off, none⟩) (m + 1) cap)) (first | with_reducible exact ⟨qA2, qA3⟩ | with_reducible exact ⟨rA2, rA3⟩ | go_keep)
        (first
          | (go_at_call 75; refine (cloneI_any _ m _ (xs.take m) _ R2.out.drew (by omega)).mono ?_; rintro e w3 ⟨a3, c3, rfl, ho, hb⟩; obtain ⟨rA1, rA2, rA3, rA4, rA5⟩ := A.out.drew.below hb; obtain ⟨rZ1, rZ2, rZ3, rZ4, rZ5⟩ := Z.out.drew.below hb))
      go_wp2
      have z1 := Z.out.1
      have z2 : w2.heap.size ≤ w3.heap.size := hb.size
      obtain ⟨_, e2, e3, _, _⟩ := (Z.out.drew.below hb).fill (.int .i64 (s - 1)) (.slice a3 m c3)
      refine bodyPost_ret (v := .tuple #[.agg #[.int .i64 (s - 1), .slice a3 m c3], .int .i64 0]) (by simp [results, Try.results37, go_sem, e2, e3]) rfl ⟨a3, m, c3, rfl, by omega, ?_, ?_⟩
      · rw [show xs.length - 1 = m by have := HMM.out; omega]; exact ((ho.setCell_below (by show _ < w2.heap.size; omega) _).setCell_below (by show _ < w2.heap.size; omega) _).mono (by show _ ≤ w2.heap.size; omega)
      · exact ((below_go BB.out.drew hb (by show _ ≤ w2.heap.size; omega)).setCell (p := ⟨w.heap.size + 1, 0, none⟩) (by simp) _).setCell (p := ⟨w.heap.size + 1, 1, none⟩) (by simp) _
    · have hM2 := HM.out
      rw [if_neg (by simp [hrm])] at hM2
      simp only [Prod.mk.injEq] at hM2
      obtain ⟨rfl, rfl, rfl⟩ := hM2
      have HRM := Lib.hid hrm; clear hrm
      have hw0 : IntKind.i64.wrap ((n : Int) - 1) = (n : Int) - 1 := IntWalk.i64_in _ (by omega)
      rcases hno with rfl | ⟨j, rfl, hj, hjn⟩
      · obtain ⟨qZ1, qZ2, qZ3, qZ4, qZ5⟩ := Z.out
        go_wp2
        obtain ⟨_, e2, e3, _, _⟩ := Z.out.fill (.int .i64 0) (.slice none 0 0)
        refine bodyPost_ret (v := .tuple #[.agg #[.int .i64 0, .slice none 0 0], .int .i64 5]) (by simp [results, Try.results37, go_sem, e2, e3]) rfl ⟨none, 0, 0, rfl, Nat.zero_le _, Own.nil _ _, ?_⟩
        exact (BB.out.setCell (p := ⟨w.heap.size + 1, 0, none⟩) (by simp) _).setCell (p := ⟨w.heap.size + 1, 1, none⟩) (by simp) _
      · have hjn2 : ((j : Int) != (n : Int) - 1) = true := by (have := HL.out; simp; omega)
        have hj2 : j < n := by have := HL.out; omega
        clear hj hjn
        obtain ⟨qZ1, qZ2, qZ3, qZ4, qZ5⟩ := Z.out
        go_wp2
        obtain ⟨_, e2, e3, _, _⟩ := Z.out.fill (.int .i64 0) (.slice none 0 0)
        refine bodyPost_ret (v := .tuple #[.agg #[.int .i64 0, .slice none 0 0], .int .i64 5]) (by simp [results, Try.results37, go_sem, e2, e3]) rfl ⟨none, 0, 0, rfl, Nat.zero_le _, Own.nil _ _, ?_⟩
        exact (BB.out.setCell (p := ⟨w.heap.size + 1, 0, none⟩) (by simp) _).setCell (p := ⟨w.heap.size + 1, 1, none⟩) (by simp) _
  · have hb0 : isBraid s xs = false := by simpa using hbr
    simp only [mRem, if_neg hbr, Prod.mk.injEq] at hM
    obtain ⟨rfl, rfl, rfl⟩ := hM
    clear hbr
    go_enter Try.func37, Try.ntmps37
    replace R := Lib.hid ((R.out.alloc (.cells #[.int .i64 s, .slice a n cap] 29)).alloc (.cells #[.int .i64 0, .slice none 0 0] 29))
    have A := Lib.hid ((At2.new w (.int .i64 s) (.slice a n cap) 29).alloc (.cells #[.int .i64 0, .slice none 0 0] 29))
    have Z := Lib.hid (At2.place (w.alloc (.cells #[.int .i64 s, .slice a n cap] 29)) (.int .i64 0) (.slice none 0 0) 29 (w.heap.size + 1) (by simp))
    have BB := Lib.hid (below2 w (.cells #[.int .i64 s, .slice a n cap] 29) (.cells #[.int .i64 0, .slice none 0 0] 29))
    obtain ⟨qA1, qA2, qA3, qA4, qA5⟩ := A.out
    go_wp2_with fail
    refine (implIsBraid_any s a n cap xs _ R.out hn).mono ?_
    rintro e w1 ⟨rfl, hb⟩
    clear qA1 qA2 qA3 qA4 qA5
    replace R := Lib.hid (R.out.below hb)
    replace A := Lib.hid (A.out.below hb)
    replace Z := Lib.hid (Z.out.below hb)
    replace BB := Lib.hid (below_go BB.out hb BB.out.size)
    clear hb
    obtain ⟨qA1, qA2, qA3, qA4, qA5⟩ := A.out
    obtain ⟨qZ1, qZ2, qZ3, qZ4, qZ5⟩ := Z.out
    go_wp2
    obtain ⟨_, e2, e3, _, _⟩ := Z.out.fill (.int .i64 0) (.slice none 0 0)
    refine bodyPost_ret (v := .tuple #[.agg #[.int .i64 0, .slice none 0 0], .int .i64 1]) (by simp [results, Try.results37, go_sem, e2, e3]) rfl ⟨none, 0, 0, rfl, Nat.zero_le _, Own.nil _ _, ?_⟩
    exact (BB.out.setCell (p := ⟨w.heap.size + 1, 0, none⟩) (by simp) _).setCell (p := ⟨w.heap.size + 1, 1, none⟩) (by simp) _

set_option maxRecDepth 100000 in
set_option maxHeartbeats 1000000 in
theorem specRemoveStrand_any {s : Int} {a : Option Addr} {n cap : Nat} {xs : List Int} {w : World} {fs : Int} {fxs : List Int} {fc : Int} (hr : Reads w a n xs) (hf : Fits xs) (hn : n ≤ 1048576) (hcap : n ≤ cap) (hM : mRem s xs = (fs, fxs, fc)) :
    Calls Try.prog 36 #[.agg #[.int .i64 s, .slice a n cap]] w (RetBraid w fs fxs fc) := by
  have R := Lib.hid hr; clear hr
  have HF := Lib.hid hf; clear hf
  have HL := Lib.hid R.out.len
  by_cases hbr : isBraid s xs = true
  · have g1 := lo_of_isBraid _ _ hbr
    have g2 := hi_of_isBraid _ _ hbr
    have g3 := len_of_isBraid _ _ hbr
    have hnn : n ≤ 200 := by have := HL.out; omega
    have HLS := Lib.hid (letts_of_isBraid hbr)
    have ws : IntKind.i64.wrap (s - 1) = s - 1 := IntWalk.i64_in _ (by omega)
    have HSM : Hid (Small xs) := Lib.hid fun x hx => (HLS.out x hx).small (by omega)
    have HM : Hid ((if remB s xs = true then (s - 1, xs.take (xs.length - 1), 0) else (0, [], 5)) = (fs, fxs, fc)) := Lib.hid (by rw [← hM, mRem, if_pos hbr])
    clear hM g3
    go_enter Try.func36, Try.ntmps36
    replace R := Lib.hid ((R.out.alloc (.cells #[.int .i64 s, .slice a n cap] 29)).alloc (.cells #[.int .i64 0, .slice none 0 0] 29))
    have A := Lib.hid ((At2.new w (.int .i64 s) (.slice a n cap) 29).alloc (.cells #[.int .i64 0, .slice none 0 0] 29))
    have Z := Lib.hid (At2.place (w.alloc (.cells #[.int .i64 s, .slice a n cap] 29)) (.int .i64 0) (.slice none 0 0) 29 (w.heap.size + 1) (by simp))
    have BB := Lib.hid (below2 w (.cells #[.int .i64 s, .slice a n cap] 29) (.cells #[.int .i64 0, .slice none 0 0] 29))
    obtain ⟨qA1, qA2, qA3, qA4, qA5⟩ := A.out
    go_wp2_with fail
    refine (l01Is_any s a n cap xs _ R.out HF.out hn).mono ?_
    rintro e w1 ⟨rfl, hb⟩
    clear qA1 qA2 qA3 qA4 qA5
    replace R := Lib.hid (R.out.below hb)
    replace A := Lib.hid (A.out.below hb)
    replace Z := Lib.hid (Z.out.below hb)
    replace BB := Lib.hid (below_go BB.out hb BB.out.size)
    clear hb
    obtain ⟨qA1, qA2, qA3, qA4, qA5⟩ := A.out
    have w0 : IntKind.i64.wrap ((n : Int) - 1) = (n : Int) - 1 := IntWalk.i64_in _ (by omega)
    go_wp2
    go_loopw [5, 6] (fun v i wr => ∃ k : Nat, k ≤ n ∧ i = .int .i64 k ∧ v = .int .i64 (cntI (s - 1) (xs.take k)) ∧ Below w1.heap.size w1 wr) (fun _ i _ => n - (intOf i).toNat)
    case atStart => exact ⟨0, Nat.zero_le _, rfl, rfl, Below.refl _ _⟩
    case round =>
      obtain ⟨k, hk, rfl, rfl, hbl⟩ := hrel
      have HBL := Lib.hid hbl; clear hbl
      obtain ⟨qA1, qA2, qA3, qA4, qA5⟩ := A.out.below HBL.out
      obtain ⟨qZ1, qZ2, qZ3, qZ4, qZ5⟩ := Z.out.below HBL.out
      have hcl := cntI_le (s - 1) (xs.take k)
      rw [List.length_take] at hcl
      by_cases hlt : k < n
      · have hkl : k < xs.length := by rw [HL.out]; exact hlt
        obtain ⟨gb, off, rfl, hgb, hgc⟩ := R.out.cells (by omega)
        obtain ⟨l, hl⟩ : ∃ l, l = xs.getD k 0 := ⟨_, rfl⟩
        have h1 : wr.cell? ⟨gb, off + k, none⟩ = some (.int .i64 l) := by rw [hl]; exact (HBL.out.cell (by exact hgb)).trans (hgc _ hlt)
        have hle : Lett s l := HLS.out l (by rw [hl]; exact getD_mem xs k hkl)
        obtain ⟨M1, M2, M3⟩ := idx_max hle (by omega)
        have HST := Lib.hid (cntI_step (s - 1) xs k hkl)
        rw [← hl] at HST
        obtain ⟨c, hc⟩ : ∃ c, c = cntI (s - 1) (xs.take k) := ⟨_, rfl⟩
        rw [← hc] at hcl HST ⊢
        have hc3 : c ≤ 200 := by omega
        have wc : IntKind.i64.wrap ((c : Int) + 1) = ((c + 1 : Nat) : Int) := (IntWalk.i64_in _ (by omega)).trans (by omega)
        have hsm := hle.small (by omega)
        obtain ⟨u1, u2⟩ := hsm
        obtain ⟨q, hq⟩ : ∃ q, q = idx l := ⟨_, rfl⟩
        rw [← hq] at M2 M3 HST
        clear hgb hgc hl hle hc hcl hq
        have k1 : (k : Int) ≤ (n : Int) - 1 := by omega
        by_cases hqs : q = s - 1
        · have t1 : (q == s - 1) = true := by rw [hqs]; simp
          rw [if_pos hqs] at HST
          have HQ := Lib.hid hqs; clear hqs
          go_wp2
          go_quiet (fail)
          go_wp2
          go_roundw
          case rel => exact ⟨k + 1, by omega, by go_num, by rw [HST.out]; go_num, HBL.out.trans (below_draws _ _ _)⟩
          case measure => simp [intOf]; omega
        · have t1 : (q == s - 1) = false := beq_eq_false_iff_ne.2 hqs
          rw [if_neg hqs] at HST
          have HQ := Lib.hid hqs; clear hqs
          go_wp2
          go_quiet (fail)
          go_wp2
          go_roundw
          case rel => exact ⟨k + 1, by omega, by go_num, by rw [HST.out]; rfl, HBL.out.trans (below_draws _ _ _)⟩
          case measure => simp [intOf]; omega
      · have hkn : k = n := by omega
        subst hkn
        have k1 : ¬ (k : Int) ≤ (k : Int) - 1 := by omega
        rw [List.take_of_length_le (by rw [HL.out]; exact Nat.le_refl _)] at hcl ⊢
        have BB2 := Lib.hid (BB.out.trans (HBL.out.mono BB.out.size))
        by_cases h1 : cntI (s - 1) xs = 1
        · have hn1 : 1 ≤ k := by have := cntI_le (s - 1) xs; have := HL.out; omega
          obtain ⟨m, hm⟩ : ∃ m, k = m + 1 := ⟨k - 1, by omega⟩
          have hRB := remB_cnt s xs m (by rw [HL.out]; exact hm)
          obtain ⟨gb, off, rfl, hgb, hgc⟩ := R.out.cells (by omega)
          obtain ⟨l, hl⟩ : ∃ l, l = xs.getD m 0 := ⟨_, rfl⟩
          have h2 : wr.cell? ⟨gb, off + m, none⟩ = some (.int .i64 l) := by rw [hl]; exact (HBL.out.cell (by exact hgb)).trans (hgc _ (by omega))
          have hle : Lett s l := HLS.out l (by rw [hl]; exact getD_mem xs m (by have := HL.out; omega))
          obtain ⟨M1, M2, M3⟩ := idx_max hle (by omega)
          have hsm := hle.small (by omega)
          obtain ⟨u1, u2⟩ := hsm
          rw [← hl, h1] at hRB
          have R2 := Lib.hid (R.out.below HBL.out)
          have A2 := Lib.hid (A.out.below HBL.out)
          have Z2 := Lib.hid (Z.out.below HBL.out)
          obtain ⟨q, hq⟩ : ∃ q, q = idx l := ⟨_, rfl⟩
          rw [← hq] at M2 M3 hRB
          subst hm
          have HXL : Hid (xs.length = m + 1) := HL
          clear hl hle hgc hgb hcl hq hlt
          rw [h1]
          clear h1
          have w1' : IntKind.i64.wrap (((m + 1 : Nat) : Int) - 1) = (m : Int) := w0.trans (by omega)
          clear w0 HBL k1
          by_cases hqs : q = s - 1
          · have t1 : (q != s - 1) = false := by rw [hqs]; simp
            have hyes : remB s xs = true := by rw [hRB, hqs]; simp
            have hM2 := HM.out
            rw [if_pos hyes] at hM2
            simp only [Prod.mk.injEq] at hM2
            obtain ⟨rfl, rfl, rfl⟩ := hM2
            have R3 : Hid (Reads wr (some ⟨gb, off, none⟩) m (xs.take m)) := Lib.hid (R2.out.take11 m (by omega))
            have v1 : (0 : Int) ≤ (m : Int) := by omega
            have v2 : (m : Int) ≤ (cap : Int) := by omega
            have v3 : m ≤ cap := by omega
            have HQ := Lib.hid hqs; have HRB := Lib.hid hRB; have HY := Lib.hid hyes
            clear hqs hRB hyes
            clear R A Z BB
            go_wp2
            go_quiet (fail)
            go_wp2
            have R4 := Lib.hid (R3.out.below (below_draws _ _ nq))
            have A4 := Lib.hid (A2.out.below (below_draws _ _ nq))
            have Z4 := Lib.hid (Z2.out.below (below_draws _ _ nq))
            have BB4 := Lib.hid (BB2.out.trans (below_draws _ _ nq))
            clear R3 A2 Z2 BB2 qA1 qA2 qA3 qA4 qA5 qZ1 qZ2 qZ3 qZ4 qZ5
            obtain ⟨V, hV⟩ : ∃ V, V = wr.drewN nq := ⟨_, rfl⟩
            rw [← hV] at R4 A4 Z4 BB4 ⊢
            clear hV
            obtain ⟨qA1, qA2, qA3, qA4, qA5⟩ := A4.out
            obtain ⟨qZ1, qZ2, qZ3, qZ4, qZ5⟩ := Z4.out
            go_region_held3 (fun w' => w'.cell? ⟨w.heap.size, 0, none⟩ = some (.int .i64 s) ∧ w'.cell? ⟨w.heap.size, 1, none⟩ = some (.slice (some ⟨gb, off, none⟩) (m + 1) cap)) (first | with_reducible exact ⟨qA2, qA3⟩ | with_reducible exact ⟨rA2, rA3⟩ | go_keep)
              (first
                | (go_at_call 69; refine (l01Own_any _ m _ (xs.take m) _ R4.out.drew (by omega)).mono ?_; rintro e w4 ⟨a3, c3, rfl, ho, hb⟩; obtain ⟨rA1, rA2, rA3, rA4, rA5⟩ := A4.out.drew.below hb; obtain ⟨rZ1, rZ2, rZ3, rZ4, rZ5⟩ := Z4.out.drew.below hb))
            go_wp2
            have z1 := Z4.out.1
            have z2 : V.heap.size ≤ w4.heap.size := hb.size
            obtain ⟨_, e2, e3, _, _⟩ := (Z4.out.drew.below hb).fill (.int .i64 (s - 1)) (.slice a3 m c3)
            refine bodyPost_ret (v := .tuple #[.agg #[.int .i64 (s - 1), .slice a3 m c3], .int .i64 0]) (by simp [results, Try.results36, go_sem, e2, e3]) rfl ⟨a3, m, c3, rfl, by omega, ?_, ?_⟩
            · rw [show xs.length - 1 = m by have := HXL.out; omega]; exact ((ho.setCell_below (by show _ < V.heap.size; omega) _).setCell_below (by show _ < V.heap.size; omega) _).mono (by show _ ≤ V.heap.size; omega)
            · exact ((below_go BB4.out.drew hb (by show _ ≤ V.heap.size; omega)).setCell (p := ⟨w.heap.size + 1, 0, none⟩) (by simp) _).setCell (p := ⟨w.heap.size + 1, 1, none⟩) (by simp) _
          · have t1 : (q != s - 1) = true := by rw [bne_iff_ne]; exact hqs
            have hno : remB s xs = false := by rw [hRB]; simp [hqs]
            have hM2 := HM.out
            rw [if_neg (by simp [hno])] at hM2
            simp only [Prod.mk.injEq] at hM2
            obtain ⟨rfl, rfl, rfl⟩ := hM2
            have HQ := Lib.hid hqs; have HRB := Lib.hid hRB; have HNO := Lib.hid hno
            clear hqs hRB hno
            go_wp2
            go_quiet (fail)
            go_wp2
            obtain ⟨_, e2, e3, _, _⟩ := (Z2.out.below (below_draws _ _ nq)).fill (.int .i64 0) (.slice none 0 0)
            refine bodyPost_ret (v := .tuple #[.agg #[.int .i64 0, .slice none 0 0], .int .i64 5]) (by simp [results, Try.results36, go_sem, e2, e3]) rfl ⟨none, 0, 0, rfl, Nat.zero_le _, Own.nil _ _, ?_⟩
            exact ((BB2.out.trans (below_draws _ _ nq)).setCell (p := ⟨w.heap.size + 1, 0, none⟩) (by simp) _).setCell (p := ⟨w.heap.size + 1, 1, none⟩) (by simp) _
        · have hno : remB s xs = false := by
            rw [Bool.eq_false_iff]
            intro hc
            have h0 := ((remB_iff s xs).1 hc).1
            rw [remB_cnt s xs (xs.length - 1) (by omega)] at hc
            simp [h1] at hc
          have hM2 := HM.out
          rw [if_neg (by simp [hno])] at hM2
          simp only [Prod.mk.injEq] at hM2
          obtain ⟨rfl, rfl, rfl⟩ := hM2
          obtain ⟨c, hc⟩ : ∃ c, c = cntI (s - 1) xs := ⟨_, rfl⟩
          rw [← hc] at h1 hcl ⊢
          have t1 : ((c : Int) != 1) = true := by rw [bne_iff_ne]; omega
          have Z2 := Lib.hid (Z.out.below HBL.out)
          clear hc h1
          go_wp2
          go_quiet (fail)
          go_wp2
          obtain ⟨_, e2, e3, _, _⟩ := (Z2.out.below (below_draws _ _ nq)).fill (.int .i64 0) (.slice none 0 0)
          refine bodyPost_ret (v := .tuple #[.agg #[.int .i64 0, .slice none 0 0], .int .i64 5]) (by simp [results, Try.results36, go_sem, e2, e3]) rfl ⟨none, 0, 0, rfl, Nat.zero_le _, Own.nil _ _, ?_⟩
          exact ((BB2.out.trans (below_draws _ _ nq)).setCell (p := ⟨w.heap.size + 1, 0, none⟩) (by simp) _).setCell (p := ⟨w.heap.size + 1, 1, none⟩) (by simp) _
  · have hb0 : isBraid s xs = false := by simpa using hbr
    simp only [mRem, if_neg hbr, Prod.mk.injEq] at hM
    obtain ⟨rfl, rfl, rfl⟩ := hM
    clear hbr
    go_enter Try.func36, Try.ntmps36
    replace R := Lib.hid ((R.out.alloc (.cells #[.int .i64 s, .slice a n cap] 29)).alloc (.cells #[.int .i64 0, .slice none 0 0] 29))
    have A := Lib.hid ((At2.new w (.int .i64 s) (.slice a n cap) 29).alloc (.cells #[.int .i64 0, .slice none 0 0] 29))
    have Z := Lib.hid (At2.place (w.alloc (.cells #[.int .i64 s, .slice a n cap] 29)) (.int .i64 0) (.slice none 0 0) 29 (w.heap.size + 1) (by simp))
    have BB := Lib.hid (below2 w (.cells #[.int .i64 s, .slice a n cap] 29) (.cells #[.int .i64 0, .slice none 0 0] 29))
    obtain ⟨qA1, qA2, qA3, qA4, qA5⟩ := A.out
    go_wp2_with fail
    refine (l01Is_any s a n cap xs _ R.out HF.out hn).mono ?_
    rintro e w1 ⟨rfl, hb⟩
    clear qA1 qA2 qA3 qA4 qA5
    replace R := Lib.hid (R.out.below hb)
    replace A := Lib.hid (A.out.below hb)
    replace Z := Lib.hid (Z.out.below hb)
    replace BB := Lib.hid (below_go BB.out hb BB.out.size)
    clear hb
    obtain ⟨qA1, qA2, qA3, qA4, qA5⟩ := A.out
    obtain ⟨qZ1, qZ2, qZ3, qZ4, qZ5⟩ := Z.out
    go_wp2
    obtain ⟨_, e2, e3, _, _⟩ := Z.out.fill (.int .i64 0) (.slice none 0 0)
    refine bodyPost_ret (v := .tuple #[.agg #[.int .i64 0, .slice none 0 0], .int .i64 1]) (by simp [results, Try.results36, go_sem, e2, e3]) rfl ⟨none, 0, 0, rfl, Nat.zero_le _, Own.nil _ _, ?_⟩
    exact (BB.out.setCell (p := ⟨w.heap.size + 1, 0, none⟩) (by simp) _).setCell (p := ⟨w.heap.size + 1, 1, none⟩) (by simp) _

end Go.Proofs.Ytehcbamfendbaaa
