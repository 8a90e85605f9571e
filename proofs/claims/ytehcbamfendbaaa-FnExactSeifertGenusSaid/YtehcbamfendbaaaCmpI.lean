/- The components of a closure: the program. -/
import Derived.Test.YtehcbamfendbaaaSCmp
import Derived.Test.YtehcbamfendbaaaSrtI
import Derived.Test.YtehcbamfendbaaaPIBlk
import Derived.Test.YtehcbamfendbaaaEnds2
import Derived.Test.YtehcbamfendbaaaKitR
namespace Go.Proofs.Ytehcbamfendbaaa
open Go.RowKit Go.ChangeShapes

theorem GrowSS.setRowW {B : Nat} {w w' : World} {v : Value} {m : Nat} {rs : List RowV} (h : GrowSS B w v m rs) (i : Nat) (hi' : i < rs.length) (ys : List Int) (ho : Own rs[i].b w' rs[i].a rs[i].n rs[i].cap ys) (hk : Wrote rs[i].b (rs[i].b + 1) w w') :
    GrowSS B w' v m (rs.set i { rs[i] with xs := ys }) ∧ Wrote B w.heap.size w w' := by
  obtain ⟨h1, h2, h3, h4⟩ := h
  obtain ⟨x1, x2, x3, x4⟩ := h2 _ (List.getElem_mem hi')
  have hw : Wrote B w.heap.size w w' := wrote_wide hk ⟨x3, by omega⟩
  have hb : ∀ j (hj : j < (rs.set i { rs[i] with xs := ys }).length), (rs.set i { rs[i] with xs := ys })[j].b = (rs[j]'(by simpa using hj)).b := by
    intro j hj
    rw [List.getElem_set]
    by_cases e : i = j
    · subst e; rw [if_pos rfl]
    · rw [if_neg e]
  refine ⟨⟨?_, ?_, ?_, ?_⟩, hw⟩
  · have e : (rs.set i { rs[i] with xs := ys }).map RowV.val = rs.map RowV.val := by
      rw [List.map_set]
      have : RowV.val { rs[i] with xs := ys } = (rs.map RowV.val)[i]'(by simpa using hi') := by rw [List.getElem_map]; rfl
      rw [this, List.set_getElem_self]
    rw [e]
    refine ownsRow_heap h1 (fun j hj => hk.block j ?_ ?_)
    · exact World.ownsRow.lt h1 j hj |>.2
    · have := h4 _ (List.getElem_mem hi')
      have hne : j ≠ rs[i].b := fun e => this (by rw [hj, e])
      omega
  · intro x hx
    obtain ⟨j, hj, rfl⟩ := List.getElem_of_mem hx
    have hj2 : j < rs.length := by simpa using hj
    rw [List.getElem_set]
    by_cases e : i = j
    · subst e
      rw [if_pos rfl]
      exact ⟨⟨ho, x1.2⟩, x2, x3, Nat.lt_of_lt_of_le x4 hk.size⟩
    · rw [if_neg e]
      obtain ⟨y1, y2, y3, y4⟩ := h2 _ (List.getElem_mem hj2)
      have hne := h3 i j hi' hj2 e
      exact ⟨y1.wrote hk (by omega), y2, y3, Nat.lt_of_lt_of_le y4 hk.size⟩
  · intro j1 j2 g1 g2 hne
    rw [hb j1 g1, hb j2 g2]
    exact h3 j1 j2 (by simpa using g1) (by simpa using g2) hne
  · intro x hx
    obtain ⟨j, hj, rfl⟩ := List.getElem_of_mem hx
    rw [hb j hj]
    exact h4 _ (List.getElem_mem (by simpa using hj))

/-- The components of a braid, and the code. -/
noncomputable def mCmp (s : Int) (xs : List Int) : List (List Int) × Int := if isBraid s xs = true then (cmpL s.toNat (permP s.toNat xs), 0) else ([], 1)

theorem perm_row (n : Nat) (p : List Int) (h : Sim n p) : mapR n (fun x => (p.take n).getD x 0) = p := by
  have h8 := h.hi
  refine ext8 (mapR_len _ _ h8) h.len fun j hj => ?_
  rw [at8_mapR]
  by_cases e : j < n
  · rw [if_pos e]
    simp [at8, List.getD, e]
  · rw [if_neg e, h.tail j (by omega)]

theorem followC_any (E : List Int) (n : Nat) (a : Option Addr) (cap : Nat) (g x : Nat) (w : World) (hc : w.cell? ⟨g, 0, none⟩ = some (.slice a n cap)) (hr : Reads w a n E) (hx : x < n) (hb : ∀ y ∈ E, 0 ≤ y ∧ y < 8) (h8 : n ≤ 8) :
    Calls Try.prog 58 #[.int .u8 x, .pointer (some ⟨g, 0, none⟩)] w fun e w' => e = .returned (.int .u8 (E.getD x 0)) ∧ Below w.heap.size w w' := by
  obtain ⟨b, o, rfl, hb1, hcell⟩ := hr.cells (by omega)
  have c1 := hcell x hx
  obtain ⟨b1, b2⟩ := hb (E.getD x 0) (getD_mem E x (by rw [hr.len]; exact hx))
  obtain ⟨v, hv⟩ : ∃ v, v = E.getD x 0 := ⟨_, rfl⟩
  rw [← hv] at c1 b1 b2 ⊢
  have wv : IntKind.u8.wrap v = v := IntWalk.u8_in _ (by omega)
  have k0 : (0 : Int) ≤ (x : Int) := by omega
  have k1 : (x : Int) < (n : Int) := by omega
  clear hv hcell hb hr
  go_enter Try.func58, Try.ntmps58
  go_wp2
  go_ret
  exact ⟨ret_int rfl, Below.refl _ _⟩

theorem enter_followC (args : Array Value) (W : World) : Sem.run Try.prog (callFunc 58 args) W = .ok (.enter 58 args) W := by
  kernel_rfl

theorem cmp_row {n : Nat} {p : List Int} (k : Nat) (hk : k < (cycL n p n).length) :
    ∃ z, z < n ∧ lstN n p z = z ∧ (cycL n p n)[k] = blkN p z (perN p z) ∧ ∃ h2 : k < (cmpL n p).length, (cmpL n p)[k] = srtN n p z := by
  have hl : k < (ldr n p n).length := by simpa [cycL, ldr] using hk
  have hm : (ldr n p n)[k] ∈ ldr n p n := List.getElem_mem hl
  simp only [ldr, List.mem_filter, List.mem_range, decide_eq_true_eq] at hm
  refine ⟨(ldr n p n)[k], hm.1, hm.2, ?_, by simpa [cmpL] using hl, ?_⟩
  · simp only [cycL]; rw [List.getElem_map]; rfl
  · simp only [cmpL]; rw [List.getElem_map]

theorem cmp_len (n : Nat) (p : List Int) : (cmpL n p).length = (cycL n p n).length := by simp [cmpL, cycL, ldr]

theorem set_mix {α : Type} (L1 L2 : List α) (k : Nat) (h1 : k < L1.length) (h2 : k < L2.length) : (L1.take k ++ L2.drop k).set k L1[k] = L1.take (k + 1) ++ L2.drop (k + 1) := by
  rw [List.set_append_right _ _ (by rw [List.length_take]; omega), List.length_take, show k - min k L1.length = 0 by omega, List.drop_eq_getElem_cons h2, List.set_cons_zero]
  rw [List.take_add_one, List.getElem?_eq_getElem h1, Option.toList_some, List.append_assoc, List.singleton_append]

theorem per_bd {n : Nat} {p : List Int} (h : Sim n p) {z : Nat} (hz : z < n) : 1 ≤ perN p z ∧ perN p z ≤ n := by
  obtain ⟨d, h1, h2, h3, h4⟩ := h.prm.period z hz
  rw [perN_eq ⟨h1, h3, h4⟩]
  exact ⟨h1, h2⟩

set_option maxRecDepth 100000 in
set_option maxHeartbeats 2000000 in
theorem implCmp_any {s : Int} {a : Option Addr} {n cap : Nat} {xs : List Int} {w : World} {r : List (List Int)} {fc : Int} (hr : Reads w a n xs) (hf : Fits xs) (hn : n ≤ 1048576) (hM : mCmp s xs = (r, fc)) :
    Calls Try.prog 19 #[.agg #[.int .i64 s, .slice a n cap]] w (RetSSN w r fc) := by
  have R := Lib.hid (hr.alloc (.cells #[.int .i64 s, .slice a n cap] 29)); clear hr
  have HF := Lib.hid hf; clear hf
  have A := Lib.hid (At2.new w (.int .i64 s) (.slice a n cap) 29)
  have BB := Lib.hid (below1 w (.cells #[.int .i64 s, .slice a n cap] 29))
  by_cases hbr : isBraid s xs = true
  · obtain ⟨N, rfl, h1, h8, hlt⟩ := braid_nat hbr
    simp only [mCmp, if_pos hbr, Prod.mk.injEq, Int.toNat_natCast] at hM
    obtain ⟨rfl, rfl⟩ := hM
    have SS := Lib.hid (permP_sim N h1 h8 xs hlt)
    obtain ⟨E, hE⟩ : ∃ E, E = ends N (run8 order8 xs) N := ⟨_, rfl⟩
    have HEP : Hid ((permP N xs).take N = E) := Lib.hid (by rw [hE]; exact ends_same N xs h8 hlt)
    have HME : Hid (mEnds (N : Int) xs = (E, 0)) := Lib.hid (by rw [mEnds, if_pos hbr, Int.toNat_natCast, hE])
    clear hE hlt hbr
    obtain ⟨p, hp⟩ : ∃ p, p = permP N xs := ⟨_, rfl⟩
    rw [← hp] at SS HEP ⊢
    clear hp
    have HEB : Hid (∀ y ∈ E, 0 ≤ y ∧ y < 8) := Lib.hid (by
      rw [← HEP.out]
      intro y hy
      obtain ⟨j, hj, rfl⟩ := List.getElem_of_mem hy
      have hj2 : j < N := by rw [List.length_take] at hj; omega
      have h1 := SS.out.bd j hj2
      have h2 : at8 p j = (p.take N)[j] := by
        rw [List.getElem_take]
        simp [at8, List.getD, show j < p.length by rw [SS.out.len]; omega]
      rw [← h2]
      omega)
    have HFP : Hid (mapR N (fun x => E.getD x 0) = p) := Lib.hid (by rw [← HEP.out]; exact perm_row N p SS.out)
    obtain ⟨qA1, qA2, qA3, qA4, qA5⟩ := A.out
    go_enter Try.func19, Try.ntmps19
    go_wp2_with fail
    refine (implEnds_any R.out HF.out hn HME.out).mono ?_
    rintro e w1 ⟨a1, n1, c1, rfl, hl1, ho, hb⟩
    clear qA1 qA2 qA3 qA4 qA5
    have hnn : n1 = N := by
      have e1 := ho.len
      have e2 : E.length = N := by rw [← HEP.out, List.length_take, SS.out.len]; omega
      omega
    subst hnn
    have RE := Lib.hid (ho.reads.alloc (.cells #[.slice a1 n1 c1] 22))
    have zz := BB.out.size
    replace A := Lib.hid ((A.out.below hb).alloc (.cells #[.slice a1 n1 c1] 22))
    replace BB := Lib.hid (below_go BB.out hb BB.out.size)
    have B4 := Lib.hid (At1.place w1 (.slice a1 n1 c1) 22 w1.heap.size rfl)
    replace BB := Lib.hid (BB.out.alloc BB.out.size (.cells #[.slice a1 n1 c1] 22))
    clear hb ho zz
    obtain ⟨qA1, qA2, qA3, qA4, qA5⟩ := A.out
    obtain ⟨qB1, qB2, qB3⟩ := B4.out
    have t1 : ((0 : Int) != 0) = false := by simp
    go_wp2_with fail
    refine (simpleFrom_any 58 #[.pointer (some ⟨w1.heap.size, 0, none⟩)] (fun x => E.getD x 0) n1 h8 _ enter_followC (fun x W hW hx => followC_any E n1 a1 c1 w1.heap.size x W ((hW.cell (p := ⟨w1.heap.size, 0, none⟩) qB1).trans qB2) (RE.out.below hW) hx HEB.out h8)).mono ?_
    rw [HFP.out]
    rintro e w2 ⟨rfl, hb⟩
    clear qA1 qA2 qA3 qA4 qA5 qB1 qB2 qB3 B4 RE
    replace A := Lib.hid (A.out.below hb)
    replace BB := Lib.hid (below_go BB.out hb BB.out.size)
    clear hb
    have RP := Lib.hid (Row8.place w2 .u8 p 61 w2.heap.size rfl SS.out.len)
    replace A := Lib.hid (A.out.alloc (.cells #[.int .u8 (at8 p 0), .int .u8 (at8 p 1), .int .u8 (at8 p 2), .int .u8 (at8 p 3), .int .u8 (at8 p 4), .int .u8 (at8 p 5), .int .u8 (at8 p 6), .int .u8 (at8 p 7)] 61))
    replace BB := Lib.hid (BB.out.alloc BB.out.size (.cells #[.int .u8 (at8 p 0), .int .u8 (at8 p 1), .int .u8 (at8 p 2), .int .u8 (at8 p 3), .int .u8 (at8 p 4), .int .u8 (at8 p 5), .int .u8 (at8 p 6), .int .u8 (at8 p 7)] 61))
    obtain ⟨qA1, qA2, qA3, qA4, qA5⟩ := A.out
    obtain ⟨⟨c0, c1', c2, c3⟩, c4, c5, c6, c7⟩ := RP.out.all
    go_wp2_with fail
    refine (pBlocks_any n1 p SS.out _).mono ?_
    rintro e w3 ⟨a3, c3', rs, rfl, hrs, hG, hb⟩
    clear qA1 qA2 qA3 qA4 qA5 c0 c1' c2 c3 c4 c5 c6 c7 RP
    have zb := BB.out.size
    have HG0 := Lib.hid (hG.low zb)
    replace BB := Lib.hid (below_go BB.out hb BB.out.size)
    have HRS := Lib.hid hrs
    have HRL : Hid (rs.length = (cycL n1 p n1).length) := Lib.hid (by rw [← hrs, List.length_map])
    have hm8 : rs.length ≤ 8 := by have := cycL_len n1 p n1; have := HRL.out; omega
    obtain ⟨m, hm⟩ : ∃ m, m = rs.length := ⟨_, rfl⟩
    rw [← hm] at HG0 HRL hm8 ⊢
    clear hb hG hrs zb hm A
    go_wp2
    go_loopw [28] (fun i wr => ∃ k : Nat, k ≤ m ∧ i = .int .i64 k ∧ (∃ rs : List RowV, Hid (rs.map RowV.xs = (cmpL n1 p).take k ++ (cycL n1 p n1).drop k) ∧ GrowSS w.heap.size wr (.slice a3 m c3') m rs) ∧ Below w.heap.size w wr) (fun i _ => m - (intOf i).toNat)
    case atStart => exact ⟨0, Nat.zero_le _, rfl, ⟨rs, Lib.hid (by rw [HRS.out]; simp), HG0.out⟩, BB.out⟩
    case round =>
      clear HG0 HRS BB
      obtain ⟨k, hk, rfl, ⟨rs, HRS, hG⟩, hbl⟩ := hrel
      have HG := Lib.hid hG; have BB := Lib.hid hbl
      clear hG hbl
      have HLR := Lib.hid HG.out.len
      by_cases hlt : k < m
      · have kr : k < rs.length := by rw [HLR.out]; exact hlt
        obtain ⟨z, hz, hlz, hcz, h2, hmz⟩ := cmp_row (n := n1) (p := p) k (by rw [← HRL.out]; exact hlt)
        obtain ⟨p1, p2⟩ := per_bd SS.out hz
        obtain ⟨g1, o1, ha, hc1⟩ := HG.out.ownSS.reads.2.1.resolve_left (by omega)
        have c1' := hc1 k kr
        obtain ⟨x1, x2, x3, x4⟩ := HG.out.row rs[k] (List.getElem_mem kr)
        have hxk : rs[k].xs = blkN p z (perN p z) := by
          have e1 : (rs.map RowV.xs)[k]'(by simpa using kr) = rs[k].xs := by rw [List.getElem_map]
          have e2 : (rs.map RowV.xs)[k]? = some (blkN p z (perN p z)) := by
            rw [HRS.out, List.getElem?_append_right (by rw [List.length_take]; omega), List.length_take, show k - min k (cmpL n1 p).length = 0 by omega, List.getElem?_drop, Nat.add_zero, List.getElem?_eq_getElem (by rw [← HRL.out]; exact hlt), hcz]
          rw [List.getElem?_eq_getElem (by simpa using kr), e1] at e2
          exact Option.some.inj e2
        obtain ⟨r1, hr1⟩ : ∃ x, x = rs[k] := ⟨_, rfl⟩
        rw [← hr1] at c1' x1 x2 x3 x4 hxk
        have hrn : r1.n = perN p z := by rw [← x1.1.len, hxk, blkN_len]
        obtain ⟨g2, hg2, hg3, hg4⟩ := x1.1.block (by omega)
        have hg5 : g2 = r1.b := by have := x1.2 _ hg2; simp only at this; omega
        have hown := x1.1
        rw [hg2] at c1' hown
        have HOW := Lib.hid hown
        have HX := Lib.hid hxk
        have HR1 := Lib.hid hr1
        have HG2 := Lib.hid hg2
        have HG5 := Lib.hid hg5
        subst ha
        have d1 : 1 ≤ r1.n := by omega
        have d2 : r1.n ≤ 8 := by omega
        have HLZ := Lib.hid hlz; have HMZ := Lib.hid hmz
        clear hc1 hown hxk hr1 x1 hg2 hg5 hg3 hrn hcz hlz hmz p1 p2
        go_wp2_with fail
        refine (sortI_any r1.n d1 d2 r1.b g2 r1.cap r1.xs _ HOW.out).mono ?_
        rintro e w4 ⟨rfl, m2, hpm, hasc, hown, hwr⟩
        have hm2 : m2 = srtN n1 p z := by
          refine blk_srt SS.out hz HLZ.out (by rw [← HX.out]; exact hpm) ?_
          rw [hown.len]; exact hasc
        rw [HG5.out] at hwr
        obtain ⟨hg1, hw1⟩ := HG.out.setRowW k kr m2 (by rw [← HR1.out, HG2.out]; exact hown) (by rw [← HR1.out]; exact hwr)
        have HG' := Lib.hid hg1
        have BB' := Lib.hid (below_write BB.out hw1 (Nat.le_refl _) BB.out.size)
        have HRS' : Hid ((rs.set k { rs[k] with xs := m2 }).map RowV.xs = (cmpL n1 p).take (k + 1) ++ (cycL n1 p n1).drop (k + 1)) := Lib.hid (by
          rw [List.map_set, HRS.out, hm2, ← HMZ.out]
          exact set_mix _ _ k h2 (by rw [← HRL.out]; exact hlt))
        clear hg1 hw1 hwr hown hpm hasc
        go_wp2
        go_roundw
        case rel => exact ⟨k + 1, by omega, by go_num, ⟨_, HRS', HG'.out⟩, BB'.out⟩
        case measure => simp [intOf]; omega
      · have hkm : k = m := by omega
        subst hkm
        have HFIN : Hid (rs.map RowV.xs = cmpL n1 p) := Lib.hid (by
          rw [HRS.out, List.take_of_length_le (by rw [cmp_len, HRL.out]; exact Nat.le_refl _), List.drop_eq_nil_of_le (by rw [HRL.out]; exact Nat.le_refl _), List.append_nil])
        go_wp2
        go_ret2
        exact ⟨a3, c3', rs, by rw [HLR.out]; rfl, HFIN.out, by rw [HLR.out]; exact HG.out, BB.out⟩
  · simp only [mCmp, if_neg hbr, Prod.mk.injEq] at hM
    obtain ⟨rfl, rfl⟩ := hM
    have HME : Hid (mEnds s xs = ([], 1)) := Lib.hid (by rw [mEnds, if_neg hbr])
    obtain ⟨qA1, qA2, qA3, qA4, qA5⟩ := A.out
    clear hbr
    go_enter Try.func19, Try.ntmps19
    go_wp2_with fail
    refine (implEnds_any R.out HF.out hn HME.out).mono ?_
    rintro e w1 ⟨a1, n1, c1, rfl, hl1, ho, hb⟩
    clear qA1 qA2 qA3 qA4 qA5
    replace BB := Lib.hid (below_go BB.out hb BB.out.size)
    replace BB := Lib.hid (BB.out.alloc BB.out.size (.cells #[.slice a1 n1 c1] 22))
    clear hb ho
    have t1 : ((1 : Int) != 0) = true := by decide
    go_wp2
    go_ret2
    exact ⟨none, 0, [], rfl, rfl, GrowSS.nil _ _, BB.out⟩

end Go.Proofs.Ytehcbamfendbaaa
