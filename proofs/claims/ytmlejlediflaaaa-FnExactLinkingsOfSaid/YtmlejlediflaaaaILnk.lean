/- Linking numbers: the exported function of the program. -/
import Derived.Test.YtmlejlediflaaaaSLnk
import Derived.Test.YtmlejlediflaaaaICrt
namespace Go.Proofs.Ytmlejlediflaaaa
open Go.RowKit Go.ChangeShapes

theorem GrowSS.setRow {B : Nat} {w w' : World} {v : Value} {m : Nat} {rs : List RowV} (h : GrowSS B w v m rs) (i : Nat) (hi' : i < rs.length) (ys : List Int) (ho : Own rs[i].b w' rs[i].a rs[i].n rs[i].cap ys) (k : w.grownBy w' (rs[i].a.map (·.block))) :
    GrowSS B w' v m (rs.set i { rs[i] with xs := ys }) ∧ Wrote B w.heap.size w w' := by
  obtain ⟨h1, h2, h3, h4⟩ := h
  obtain ⟨x1, x2, x3, x4⟩ := h2 _ (List.getElem_mem hi')
  have hk : Wrote rs[i].b (rs[i].b + 1) w w' := x1.writes k
  have hw : Wrote B w.heap.size w w' := wrote_wide hk ⟨x3, by omega⟩
  have hb : ∀ j (hj : j < (rs.set i { rs[i] with xs := ys }).length), (rs.set i { rs[i] with xs := ys })[j].b = (rs[j]'(by simpa using hj)).b := by
    intro j hj
    rw [List.getElem_set]
    by_cases e : i = j
    · subst e; rw [if_pos rfl]
    · rw [if_neg e]
  refine ⟨⟨?_, ?_, ?_, ?_⟩, hw⟩
  · have e : (rs.set i { rs[i] with xs := ys }).map RowV.val = rs.map RowV.val := by
      rw [List.map_set]
      have : RowV.val { rs[i] with xs := ys } = (rs.map RowV.val)[i]'(by simpa using hi') := by rw [List.getElem_map]; rfl
      rw [this, List.set_getElem_self]
    rw [e]
    refine ownsRow_heap h1 (fun j hj => hk.block j ?_ ?_)
    · exact World.ownsRow.lt h1 j hj |>.2
    · have := h4 _ (List.getElem_mem hi')
      have hne : j ≠ rs[i].b := fun e => this (by rw [hj, e])
      omega
  · intro x hx
    obtain ⟨j, hj, rfl⟩ := List.getElem_of_mem hx
    have hj2 : j < rs.length := by simpa using hj
    rw [List.getElem_set]
    by_cases e : i = j
    · subst e
      rw [if_pos rfl]
      exact ⟨⟨ho, x1.2⟩, x2, x3, Nat.lt_of_lt_of_le x4 hk.size⟩
    · rw [if_neg e]
      obtain ⟨y1, y2, y3, y4⟩ := h2 _ (List.getElem_mem hj2)
      have hne := h3 i j hi' hj2 e
      exact ⟨y1.wrote hk (by omega), y2, y3, Nat.lt_of_lt_of_le y4 hk.size⟩
  · intro j1 j2 g1 g2 hne
    rw [hb j1 g1, hb j2 g2]
    exact h3 j1 j2 (by simpa using g1) (by simpa using g2) hne
  · intro x hx
    obtain ⟨j, hj, rfl⟩ := List.getElem_of_mem hx
    rw [hb j hj]
    exact h4 _ (List.getElem_mem (by simpa using hj))

/-- The first numbers halved. -/
def halfP (xs : List Int) (y : Nat) : List Int := halfL (xs.take y) ++ xs.drop y

theorem halfP_zero (xs : List Int) : halfP xs 0 = xs := by simp [halfP, halfL]
theorem halfP_len (xs : List Int) (y : Nat) : (halfP xs y).length = xs.length := by simp [halfP, halfL]; omega
theorem halfP_all (xs : List Int) (y : Nat) (h : xs.length ≤ y) : halfP xs y = halfL xs := by simp [halfP, List.take_of_length_le h, List.drop_eq_nil_of_le h]
theorem halfP_at (xs : List Int) (y : Nat) : (halfP xs y).getD y 0 = xs.getD y 0 := by
  simp only [halfP, List.getD]
  by_cases h : y < xs.length
  · rw [List.getElem?_append_right (by simp [halfL]; omega)]
    simp [halfL, Nat.min_eq_left (Nat.le_of_lt h)]
  · rw [List.getElem?_eq_none (by simp [halfL]; omega), List.getElem?_eq_none (by omega)]
theorem halfP_step (xs : List Int) (y : Nat) (h : y < xs.length) : (halfP xs y).set y ((xs.getD y 0).tdiv 2) = halfP xs (y + 1) := by
  simp only [halfP]
  rw [List.set_append_right _ _ (by simp [halfL]; omega), take_snoc xs y h]
  have e : (halfL (xs.take y)).length = y := by simp [halfL]; omega
  rw [e, Nat.sub_self, List.drop_eq_getElem_cons h, List.set_cons_zero]
  simp only [halfL, List.map_append, List.map_cons, List.map_nil, List.append_assoc, List.cons_append, List.nil_append, List.getD, List.getElem?_eq_getElem h, Option.getD_some]

/-- The first rows halved, and the first numbers of one. -/
def hX (X : List (List Int)) (i y : Nat) : List (List Int) := (X.take i).map halfL ++ (X.drop i).modifyHead (halfP · y)

theorem hX_start (X : List (List Int)) : hX X 0 0 = X := by
  cases X <;> simp [hX, halfP_zero]
theorem hX_len (X : List (List Int)) (i y : Nat) : (hX X i y).length = X.length := by
  simp [hX]; omega
theorem hX_at (X : List (List Int)) (i y : Nat) (h : i < X.length) : (hX X i y).getD i [] = halfP (X.getD i []) y := by
  simp only [hX, List.getD]
  rw [List.getElem?_append_right (by simp; omega)]
  have e : ((X.take i).map halfL).length = i := by simp; omega
  rw [e, Nat.sub_self, List.drop_eq_getElem_cons h]
  simp [h]
theorem hX_set (X : List (List Int)) (i y : Nat) (h : i < X.length) : (hX X i y).set i (halfP (X.getD i []) (y + 1)) = hX X i (y + 1) := by
  simp only [hX]
  rw [List.set_append_right _ _ (by simp; omega)]
  have e : ((X.take i).map halfL).length = i := by simp; omega
  have e2 : X.getD i [] = X[i] := by simp [List.getD, h]
  rw [e, Nat.sub_self, List.drop_eq_getElem_cons h, e2]
  simp only [List.modifyHead_cons, List.set_cons_zero]
theorem hX_next (X : List (List Int)) (i y : Nat) (h : i < X.length) (hy : (X.getD i []).length ≤ y) : hX X i y = hX X (i + 1) 0 := by
  simp only [hX]
  rw [List.drop_eq_getElem_cons h, List.take_succ_eq_append_getElem h, List.map_append]
  have e : X.getD i [] = X[i] := by simp [List.getD, h]
  rw [e] at hy
  have e2 : (X.drop (i + 1)).modifyHead (halfP · 0) = X.drop (i + 1) := by cases X.drop (i + 1) <;> simp [halfP_zero]
  rw [e2]
  simp only [List.modifyHead_cons, halfP_all _ _ hy, List.map_cons, List.map_nil, List.append_assoc, List.cons_append, List.nil_append]
theorem hX_end (X : List (List Int)) (i y : Nat) (h : X.length ≤ i) : hX X i y = X.map halfL := by
  simp [hX, List.take_of_length_le h, List.drop_eq_nil_of_le h]

set_option maxRecDepth 100000 in
set_option maxHeartbeats 2000000 in
theorem implLinkingsOf_any {s : Int} {a : Option Addr} {n cap : Nat} {ls : List Int} {w : World} {r : List (List Int)} {fc : Int} (hr : Reads w a n ls) (hf : Fits ls) (hn : n ≤ 1048576) (hM : mLnk s ls = (r, fc)) :
    Calls Try.prog 36 #[.agg #[.int .i64 s, .slice a n cap]] w (RetSSN w r fc) := by
  have R := Lib.hid (hr.alloc (.cells #[.int .i64 s, .slice a n cap] 24)); clear hr
  have HF := Lib.hid hf; clear hf
  have A := Lib.hid (At2.new w (.int .i64 s) (.slice a n cap) 24)
  have BB := Lib.hid (below1 w (.cells #[.int .i64 s, .slice a n cap] 24))
  obtain ⟨qA1, qA2, qA3, qA4, qA5⟩ := A.out
  by_cases hpc : pureC s ls = 0
  · have hbr := (pureC_zero hpc).1
    rw [mLnk, if_pos hpc] at hM
    obtain ⟨rfl, rfl⟩ := Prod.mk.injEq .. ▸ hM
    have HPC := Lib.hid hpc
    obtain ⟨h1, h2, h3, h4⟩ := (isBraid_iff s ls).1 hbr
    obtain ⟨q, rfl⟩ : ∃ q : Nat, s = (q : Int) := ⟨s.toNat, by omega⟩
    rw [Int.toNat_natCast]
    have hq8 : q ≤ 8 := by omega
    have hbd : ∀ p y, p < 8 → y < 8 → -200 ≤ at8 (runT ls).2 (8 * p + y) ∧ at8 (runT ls).2 (8 * p + y) ≤ 200 := fun p y hp hy => by
      have := (runT_ok ls (fun z hz => by obtain ⟨e1, e2, e3⟩ := h4 z hz; exact ⟨e1, by omega, by omega⟩)).small p y hp hy
      unfold tget at this
      omega
    have HMC : Hid (mCro (q : Int) ls = (rowsC (runT ls).2 q q, 0)) := Lib.hid (by rw [mCro, if_pos hbr, Int.toNat_natCast])
    obtain ⟨X, hX0⟩ : ∃ X, X = rowsC (runT ls).2 q q := ⟨_, rfl⟩
    have HXR : Hid (∀ i, i < q → X.getD i [] = rowC (runT ls).2 i q) := Lib.hid fun i hi => by rw [hX0]; simp [rowsC, List.getD, hi]
    have HXL : Hid (X.length = q) := Lib.hid (by rw [hX0, rowsC_len])
    have HRB : Hid (∀ i, i < q → (X.getD i []).length = q ∧ ∀ y, y < q → -200 ≤ (X.getD i []).getD y 0 ∧ (X.getD i []).getD y 0 ≤ 200) := Lib.hid fun i hi => by
      rw [HXR.out i hi]
      refine ⟨rowC_len _ _ _, fun y hy => ?_⟩
      have := hbd i y (by omega) (by omega)
      have e : (rowC (runT ls).2 i q).getD y 0 = at8 (runT ls).2 (8 * i + y) := by simp [rowC, List.getD, hy]
      rw [e]; exact this
    rw [← hX0] at HMC ⊢
    clear hX0 hbd hpc h3 h4 hbr HXR
    go_enter Try.func36, Try.ntmps36
    go_wp2_with fail
    refine (pureCode_any R.out HF.out hn HPC.out).mono ?_
    rintro e w1 ⟨rfl, hb⟩
    clear qA1 qA2 qA3 qA4 qA5
    replace R := Lib.hid (R.out.below hb); replace A := Lib.hid (A.out.below hb)
    replace BB := Lib.hid (below_go BB.out hb BB.out.size); clear hb
    obtain ⟨qA1, qA2, qA3, qA4, qA5⟩ := A.out
    have t0 : ((0 : Int) != 0) = false := by simp
    go_wp2_with fail
    refine (implCrossingsOf_any R.out HF.out hn HMC.out).mono ?_
    rintro e w2 ⟨ad, cd, rs, rfl, hrs, hg, hb⟩
    clear qA1 qA2 qA3 qA4 qA5
    have zz := BB.out.size
    replace BB := Lib.hid (below_go BB.out hb zz); clear hb
    have hrl : rs.length = q := by rw [← HXL.out, ← hrs, List.length_map]
    have HRS : Hid (rs.map RowV.xs = X) := Lib.hid hrs
    rw [hrl] at hg ⊢
    have GG := Lib.hid (hg.low zz)
    clear hrs hg t0 A R
    go_wp2
    go_loopw [22] (fun iv wr => ∃ i : Nat, i ≤ q ∧ iv = .int .i64 i ∧ (∃ os : List RowV, os.map RowV.xs = hX X i 0 ∧ GrowSS w.heap.size wr (.slice ad q cd) q os) ∧ Below w.heap.size w wr) (fun iv _ => q - (intOf iv).toNat)
    case atStart => exact ⟨0, Nat.zero_le _, rfl, ⟨rs, by rw [hX_start]; exact HRS.out, GG.out⟩, BB.out⟩
    case round =>
      clear GG BB HRS
      obtain ⟨i, hi, rfl, ⟨os, hos, hg⟩, hb⟩ := hrel
      have HOS := Lib.hid hos; have GG := Lib.hid hg; have BB := Lib.hid hb
      clear hos hg hb
      by_cases hlt : i < q
      · have hol := GG.out.len
        have hil : i < os.length := by omega
        have c0 := by
          have h1 := GG.out.ownSS.2.1.resolve_left (by omega)
          exact h1
        obtain ⟨g, off, rfl, _, _, _, hc⟩ := c0
        have c0 := hc i hil
        have hxl : os[i].n = q := by
          have h1 := (GG.out.row _ (List.getElem_mem hil)).1.1.len
          have h2 : os[i].xs = (hX X i 0).getD i [] := by rw [← HOS.out]; simp [List.getD, hil]
          rw [h2, hX_at X i 0 (by rw [HXL.out]; exact hlt), halfP_len, (HRB.out i hlt).1] at h1
          exact h1.symm
        obtain ⟨x, hx⟩ : ∃ x, x = os[i] := ⟨_, rfl⟩
        rw [← hx] at c0 hxl
        have HXX := Lib.hid hx
        clear hc hx
        obtain ⟨xb, xa, xn, xc, xs⟩ := x
        simp only at c0 hxl
        subst hxl
        have i1 : (i : Int) < (xn : Int) := by omega
        have hHAS : GrowSS w.heap.size wr (.slice (some ⟨g, off, none⟩) xn cd) xn os ∧ ∃ (h : i < os.length), os[i].b = xb ∧ os[i].a = xa ∧ os[i].n = xn ∧ os[i].cap = xc := ⟨GG.out, hil, by rw [← HXX.out], by rw [← HXX.out], by rw [← HXX.out], by rw [← HXX.out]⟩
        have HH := Lib.hid hHAS
        clear hHAS HXX GG hol hil
        go_wp2
        go_loopw [28] (fun yv wr => ∃ y : Nat, y ≤ xn ∧ yv = .int .i64 y ∧ (∃ os : List RowV, os.map RowV.xs = hX X i y ∧ GrowSS w.heap.size wr (.slice (some ⟨g, off, none⟩) xn cd) xn os ∧ ∃ (h : i < os.length), os[i].b = xb ∧ os[i].a = xa ∧ os[i].n = xn ∧ os[i].cap = xc) ∧ Below w.heap.size w wr) (fun yv _ => xn - (intOf yv).toNat)
        case atStart => exact ⟨0, Nat.zero_le _, rfl, ⟨os, HOS.out, HH.out.1, HH.out.2⟩, BB.out⟩
        case round =>
          clear HOS HH BB c0
          obtain ⟨y, hy, rfl, ⟨os, hos, hg, hil, e1, e2, e3, e4⟩, hb⟩ := hrel
          have HOS := Lib.hid hos; have GG := Lib.hid hg; have BB := Lib.hid hb
          clear hos hg hb
          by_cases hly : y < xn
          · have hXi : i < X.length := by rw [HXL.out]; exact hlt
            have hown := (GG.out.row _ (List.getElem_mem hil)).1
            have hxs : os[i].xs = halfP (X.getD i []) y := by
              have h2 : os[i].xs = (hX X i y).getD i [] := by rw [← HOS.out]; simp [List.getD, hil]
              rw [h2, hX_at X i y hXi]
            have HST : Hid (∀ w5, Own xb w5 xa xn xc (halfP (X.getD i []) (y + 1)) → wr.grownBy w5 (xa.map (·.block)) → (∃ os' : List RowV, os'.map RowV.xs = hX X i (y + 1) ∧ GrowSS w.heap.size w5 (.slice (some ⟨g, off, none⟩) xn cd) xn os' ∧ ∃ (h : i < os'.length), os'[i].b = xb ∧ os'[i].a = xa ∧ os'[i].n = xn ∧ os'[i].cap = xc) ∧ Wrote w.heap.size wr.heap.size wr w5) := Lib.hid fun w5 ho hg => by
              obtain ⟨k1, k2⟩ := GG.out.setRow (w' := w5) i hil (halfP (X.getD i []) (y + 1)) (by rw [e1, e2, e3, e4]; exact ho) (by rw [e2]; exact hg)
              refine ⟨⟨_, ?_, k1, by rw [List.length_set]; exact hil, ?_⟩, k2⟩
              · rw [List.map_set, HOS.out, hX_set X i y hXi]
              · rw [List.getElem_set_self]; exact ⟨e1, e2, e3, e4⟩
            have ho := hown.1
            have hin := hown.2
            rw [e1, e2, e3, e4, hxs] at ho
            rw [e1, e2] at hin
            obtain ⟨rb, rfl, hrb1, hrb2⟩ := ho.block (by omega)
            have c1 := ho.cellAt y hly
            rw [halfP_at] at c1
            have f1 : wr.frozen? ⟨rb, y, none⟩ = false := World.ownsRow.frozenAt ho y
            have hbv := (HRB.out i hlt).2 y hly
            have hyl : y < (X.getD i []).length := by rw [(HRB.out i hlt).1]; exact hly
            have hst := halfP_step (X.getD i []) y hyl
            obtain ⟨v, hv⟩ : ∃ v, v = (X.getD i []).getD y 0 := ⟨_, rfl⟩
            rw [← hv] at c1 hbv hst
            have hwd : IntKind.i64.wrap (v.tdiv 2) = v.tdiv 2 := IntWalk.i64_in _ (by have := tdiv2_bd hbv; omega)
            have hs1 := World.ownsRow.stored ho y (.int .i64 (v.tdiv 2))
            have hs2 : Own xb (wr.setCell ⟨rb, y, none⟩ (.int .i64 (v.tdiv 2))) (some ⟨rb, 0, none⟩) xn xc (halfP (X.getD i []) (y + 1)) := by
              have h3 := hs1.1
              rw [← hst]
              unfold Own
              rw [List.map_set]
              exact h3
            obtain ⟨hg1, hg2⟩ := HST.out _ hs2 hs1.2
            have BB1 := Lib.hid (below_write BB.out hg2 (Nat.le_refl _) BB.out.size)
            have HG1 := Lib.hid hg1
            clear hg1 hg2 hs1 hs2 hst ho hin hown hxs hv hbv
            have y0 : (0 : Int) ≤ (y : Int) := by omega
            have y1 : (y : Int) < (xn : Int) := by omega
            go_wp2
            go_roundw
            case rel => exact ⟨y + 1, by omega, by go_num, HG1.out, BB1.out⟩
            case measure => simp [intOf]; omega
          · have hyq : y = xn := by omega
            have hXi : i < X.length := by rw [HXL.out]; exact hlt
            have HNX : Hid (hX X i y = hX X (i + 1) 0) := Lib.hid (hX_next X i y hXi (by rw [(HRB.out i hlt).1]; omega))
            have HYQ := Lib.hid hyq; clear hyq
            go_wp2
            go_roundw
            case rel => exact ⟨i + 1, by omega, by go_num, ⟨os, by rw [HOS.out, HNX.out], GG.out⟩, BB.out⟩
            case measure => simp [intOf]; omega
      · have hiq : i = q := by omega
        have HE : Hid (hX X i 0 = X.map halfL) := Lib.hid (hX_end X i 0 (by rw [HXL.out]; omega))
        have hol := GG.out.len
        clear hiq
        go_wp2
        go_ret2
        exact ⟨ad, cd, os, by rw [hol]; rfl, by rw [HOS.out, HE.out], by rw [hol]; exact GG.out, BB.out⟩
  · rw [mLnk, if_neg hpc] at hM
    obtain ⟨rfl, rfl⟩ := Prod.mk.injEq .. ▸ hM
    have hne : (pureC s ls != 0) = true := by simp [hpc]
    obtain ⟨pc, hpcq⟩ : ∃ pc, pc = pureC s ls := ⟨_, rfl⟩
    have HPC : Hid (pureC s ls = pc) := Lib.hid hpcq.symm
    rw [← hpcq] at hne ⊢
    clear hpc hM hpcq
    go_enter Try.func36, Try.ntmps36
    go_wp2_with fail
    refine (pureCode_any R.out HF.out hn HPC.out).mono ?_
    rintro e w1 ⟨rfl, hb⟩
    clear qA1 qA2 qA3 qA4 qA5
    replace BB := Lib.hid (below_go BB.out hb BB.out.size); clear hb
    go_wp2
    go_ret2
    exact ⟨none, 0, [], rfl, rfl, GrowSS.nil _ _, BB.out⟩

end Go.Proofs.Ytmlejlediflaaaa
