/- Expansions: the model's walk. -/
import Derived.Test.YtehcbamfendbaaaSeMg10
import Derived.Deep.RegionHeld3
namespace Go.Proofs.Ytehcbamfendbaaa
open Go.RowKit Go.ChangeShapes

set_option maxRecDepth 100000 in
set_option maxHeartbeats 4000000 in
theorem l10Expansion_any (j : Nat) (h1 : 1 ≤ j) (h7 : j ≤ 7) (a : Option Addr) (n cap : Nat) (ls : List Int) (w : World) (hr : Reads w a n ls) (hls : ∀ x ∈ ls, Lett ((j : Int) + 1) x) (hn : n ≤ 400) :
  Calls Try.prog 92 #[.slice a n cap, .int .i64 j] w (RetSS w (matX j (xpW j ls).G)) := by
 obtain ⟨i0, hi, hz0, hz1, hz2⟩ := info_parts infoInt
 obtain ⟨i1, hj, hs0, hs1, hs2⟩ := info_parts infoSlice
 have HL := Lib.hid hr.len
 have HR := Lib.hid hr; clear hr
 have HLS := Lib.hid hls; clear hls
 go_enter Try.func92, Try.ntmps92
 go_wp2_with (at_make; refine wpList_make_full w rfl _ _ 22 rfl w.heap.size 2 i0 (.int .i64 0) 1 Try.underlying22 hi hz0 hz1 .i64 .i64 _ _ j rfl rfl (by omega) (by omega) (by rw [hz2]; omega) (by unfold maxLen; omega) (by simp) ?_)
 intro w1 hown hgrow
 have hown1 := own_made hown
 have hb1 := Below.ofGrown hgrow
 have zo := (hown1.lo _ rfl).2
 have HO := Lib.hid (hown1.alloc (.cells #[] 22))
 have BB := Lib.hid (hb1.alloc hb1.size (.cells #[] 22))
 have GE := Lib.hid (GrowSS.emptyX w1 w1.heap.size rfl)
 have zw : w.heap.size + 1 ≤ w1.heap.size := zo
 clear hown hgrow hown1 hb1
 obtain ⟨W, hW⟩ : ∃ W, W = w1.alloc (.cells #[] 22) := ⟨_, rfl⟩
 go_wp2
 rw [← hW] at HO BB GE ⊢
 clear hW
 replace GE := Lib.hid (GE.out.low (show w.heap.size + 1 ≤ w1.heap.size from zw))
 obtain ⟨p0, hp0⟩ : ∃ p0, p0 = w1.heap.size := ⟨_, rfl⟩
 rw [← hp0] at GE zo zw ⊢
 clear hp0
 go_loopw [6, 7] (fun lv i wr => ∃ x : Nat, x ≤ j ∧ i = .int .i64 x ∧ (∃ rs : List RowV, rs.map RowV.xs = List.replicate x (List.replicate j 0) ∧ GrowSS (w.heap.size + 1) wr lv rs.length rs) ∧ Own w.heap.size wr (some ⟨w.heap.size, 0, none⟩) j j (List.replicate j 0) ∧ Below w.heap.size w wr) (fun _ i _ => j - (intOf i).toNat)
 case atStart => exact ⟨0, Nat.zero_le _, rfl, ⟨[], rfl, GE.out⟩, HO.out, BB.out⟩
 case round =>
  obtain ⟨x, hx, rfl, ⟨rs, hrs, hG⟩, hO, hB⟩ := hrel
  clear HO BB GE
  have HRS := Lib.hid hrs; have GG := Lib.hid hG; have HO := Lib.hid hO; have BB := Lib.hid hB
  clear hrs hG hO hB
  have hrl : rs.length = x := by have := congrArg List.length HRS.out; simpa using this
  have z0 := (HO.out.lo _ rfl).2
  by_cases hlt : x < j
  ·go_wp2_with (at_make; refine wpList_make_full wr rfl _ _ 22 rfl wr.heap.size 2 i0 (.int .i64 0) 1 Try.underlying22 hi hz0 hz1 .i64 .i64 _ _ j rfl rfl (by omega) (by omega) (by rw [hz2]; omega) (by unfold maxLen; omega) (by simp) ?_)
   intro w2 hown hgrow
   have hown2 := own_made hown
   have hb2 := Below.ofGrown hgrow
   have zq := (hown2.lo _ rfl).2
   have G2 := Lib.hid (GG.out.below hb2)
   have GL := Lib.hid GG.out.lt
   have HO2 := Lib.hid (HO.out.below hb2)
   have BB2 := Lib.hid (below_go BB.out hb2 BB.out.size)
   have HOW := Lib.hid hown2
   have hlen8 : rs.length ≤ 8 := by omega
   have hzz : wr.heap.size ≤ w2.heap.size := hb2.size
   clear hown hgrow hown2 hb2 hrl
   go_wp2_with (at_builtin; refine wpList_append_own_at _ rfl _ _ 26 rfl (w.heap.size + 1) 22 i1 (.slice none 0 0) 1 24 Try.underlying26 hj hs0 hs1 hs2 rfl (by decide) _ _ _ rfl (World.ownsRow.alloc G2.out.own _) ⟨w2.heap.size, 0, none⟩ 1 1 [.slice (some ⟨wr.heap.size, 0, none⟩) j j] rfl rfl (cell_one_new w2 _ _) (fun u hu => by simp at hu; subst hu; rfl) (by unfold maxLen; omega) (by omega) (by simp; omega) ?_)
   intro v' w3 hown' hgrow _ hat
   have hgx := G2.out.append (HOW.out.mono (show w.heap.size + 1 ≤ wr.heap.size by omega)) (by omega) (fun y hy => by have := GL.out.1 y hy; omega) (fun k hk => by have := GL.out.2 k hk; omega) hown' hgrow hat
   have GX := Lib.hid hgx
   have hb := G2.out.appBelow (by omega) hgrow
   have HO3 := Lib.hid (HO2.out.heap' hb (by omega))
   have BB3 := Lib.hid (BB2.out.trans (hb.mono (by omega)))
   clear hgx hown' hgrow hat hb
   go_wp2
   go_roundw
   case rel =>
    refine ⟨x + 1, by omega, by go_num, ⟨rs ++ [⟨wr.heap.size, some ⟨wr.heap.size, 0, none⟩, j, j, List.replicate j 0⟩], ?_, by rw [List.length_append]; exact GX.out⟩, HO3.out, BB3.out⟩
    rw [List.map_append, HRS.out, List.replicate_succ']
    rfl
   case measure => simp [intOf]; omega
  ·have hxj : x = j := by omega
   subst hxj
   obtain ⟨ao, co, rfl⟩ := GG.out.form
   rw [hrl] at GG ⊢
   have HM0 : Hid (rs.map RowV.xs = matX x (xpW x (ls.take 0)).G) := Lib.hid (by rw [HRS.out]; exact mat_zero x)
   have HF0 : Hid (Own w.heap.size wr (some ⟨w.heap.size, 0, none⟩) x x (rowX x (xpW x (ls.take 0)).F)) := Lib.hid (by have := HO.out; rw [← rowX_zero x] at this; exact this)
   clear HRS HO hrl hlt
   go_wp2
   obtain ⟨B, hB⟩ : ∃ B, B = w.heap.size := ⟨_, rfl⟩
   go_loopw [8] (fun i wr => ∃ k : Nat, k ≤ n ∧ i = .int .i64 k ∧ (∃ rs : List RowV, rs.map RowV.xs = matX x (xpW x (ls.take k)).G ∧ GrowSS (w.heap.size + 1) wr (.slice ao x co) x rs) ∧ Own w.heap.size wr (some ⟨w.heap.size, 0, none⟩) x x (rowX x (xpW x (ls.take k)).F) ∧ Below w.heap.size w wr) (fun i _ => n - (intOf i).toNat)
   case atStart => exact ⟨0, Nat.zero_le _, rfl, ⟨rs, HM0.out, GG.out⟩, HF0.out, BB.out⟩
   case round =>
    clear GG HF0 HM0 BB
    obtain ⟨k, hk, rfl, ⟨rs, hrs, hG⟩, hO, hBl⟩ := hrel
    have HRS := Lib.hid hrs; have GG := Lib.hid hG; have HO := Lib.hid hO; have BB := Lib.hid hBl
    clear hrs hG hO hBl
    by_cases hlt : k < n
    ·have hkl : k < ls.length := by rw [HL.out]; exact hlt
     obtain ⟨gb, off, rfl, hgb, hgc⟩ := HR.out.cells (by omega)
     obtain ⟨l, hl⟩ : ∃ l, l = ls.getD k 0 := ⟨_, rfl⟩
     have h1c : wr.cell? ⟨gb, off + k, none⟩ = some (.int .i64 l) := by rw [hl]; exact (BB.out.cell (by exact hgb)).trans (hgc _ hlt)
     have hle : Lett ((x : Int) + 1) l := HLS.out l (by rw [hl]; exact getD_mem ls k hkl)
     obtain ⟨M1, M2, M3⟩ := idx_max hle (by omega)
     have hsm := hle.small (by omega)
     obtain ⟨u1, u2⟩ := hsm
     obtain ⟨q, hq⟩ : ∃ q : Nat, idx l = (q : Int) + 1 := ⟨(idx l - 1).toNat, by have := hle.1; omega⟩
     have hqx : q < x := by have := hle.2; omega
     have hqn : (idx l - 1).toNat = q := by omega
     have hst := xpW_step x ls k hkl
     rw [← hl, xpS, hqn] at hst
     have hbd := xpW_bd x (ls.take k)
     rw [List.length_take] at hbd
     have hkk : min k ls.length ≤ 400 := by omega
     have hkk2 : min k ls.length * min k ls.length ≤ 400 * 400 := Nat.mul_le_mul hkk hkk
     obtain ⟨X, hX⟩ : ∃ X, X = xpW x (ls.take k) := ⟨_, rfl⟩
     rw [← hX] at hst hbd HRS HO
     obtain ⟨t, ht⟩ : ∃ t, t = min k ls.length := ⟨_, rfl⟩
     rw [← ht] at hbd hkk hkk2
     have HFB : Hid (∀ b, -400 ≤ X.F b ∧ X.F b ≤ 400) := Lib.hid (fun b => by have := hbd.1 b; omega)
     have HGB : Hid (∀ a b, -160000 ≤ X.G a b ∧ X.G a b ≤ 160000) := Lib.hid (fun a b => by
      have h2 := hbd.2 a b
      have h3 : ((t * t : Nat) : Int) = (t : Int) * t := Int.natCast_mul t t
      omega)
     have HST := Lib.hid hst
     rw [hq] at M2 M3
     have wq : IntKind.i64.wrap ((q : Int) + 1 - 1) = (q : Int) := (IntWalk.i64_in _ (by omega)).trans (by omega)
     have q0 : (0 : Int) ≤ (q : Int) := by omega
     have qx : (q : Int) < (x : Int) := by omega
     clear hbd hkk hkk2 ht hst hX hqn hle hl hgc
     have HQQ := Lib.hid hq; clear hq
     by_cases hneg : l < 0
     ·skip
      have HC : Hid (cnt l = (-1)) := Lib.hid (by unfold cnt; rw [if_pos hneg])
      have HSTC : Hid (xpW x (ls.take (k + 1)) = ⟨xpF X q (-1), xpN X q (-1) x⟩) := Lib.hid (by rw [HST.out, HC.out])
      clear HST
      go_wp2
      go_quiet (fail)
      have GG1 := Lib.hid (GG.out.below (below_draws _ wr nq)); have HO1 := Lib.hid (HO.out.below (below_draws _ wr nq)); have BB1 := Lib.hid (BB.out.trans (below_draws _ wr nq))
      have h1d := h1c
      go_wp2
      rw [show -l - 1 = (q : Int) by have hq := HQQ.out; rcases idx_cases l with ⟨g, e, -⟩ | ⟨g, e, -⟩ <;> omega]
      go_loopw [11] (fun iv wr => ∃ y : Nat, y ≤ x ∧ iv = .int .i64 y ∧ (∃ rs : List RowV, rs.map RowV.xs = matX x (xpN X q (-1) y) ∧ GrowSS (w.heap.size + 1) wr (.slice ao x co) x rs) ∧ Own w.heap.size wr (some ⟨w.heap.size, 0, none⟩) x x (rowX x X.F) ∧ Below w.heap.size w wr) (fun iv _ => x - (intOf iv).toNat)
      case atStart => exact ⟨0, Nat.zero_le _, rfl, ⟨rs, by rw [xpN_zero]; exact HRS.out, GG1.out⟩, HO1.out, BB1.out⟩
      case round =>
       clear GG1 HO1 BB1 GG HO BB HRS h1c h1d
       obtain ⟨y, hy, rfl, ⟨rs, hrs, hG⟩, hO, hBl⟩ := hrel
       have HRS := Lib.hid hrs; have GG := Lib.hid hG; have HO := Lib.hid hO; have BB := Lib.hid hBl
       clear hrs hG hO hBl
       by_cases hly : y < x
       ·obtain ⟨hi', rb, hra, hrn, hB, hlt2, c1, f1, hupd⟩ := GG.out.cell HRS.out y q hly hqx rfl
        rw [xpN_here] at c1
        obtain ⟨g1, o1, hao, _, _, _, hc1⟩ := GG.out.ownSS.2.1.resolve_left (by omega)
        have c0 := hc1 y hi'
        rw [hra, hrn] at c0
        obtain ⟨rc, hrc⟩ : ∃ rc, rc = rs[y].cap := ⟨_, rfl⟩
        rw [← hrc] at c0
        have c2 := HO.out.cellAt y hly
        rw [rowX_at x _ y hly] at c2
        have b1 := HFB.out y
        have b2 := HGB.out y q
        have HNX := Lib.hid (xpN_next X q (-1) y)
        obtain ⟨fv, hfv⟩ : ∃ fv, fv = X.F y := ⟨_, rfl⟩
        obtain ⟨gv, hgv⟩ : ∃ gv, gv = X.G y q := ⟨_, rfl⟩
        rw [← hfv] at c2 b1 HNX
        rw [← hgv] at c1 b2 HNX
        have HU := Lib.hid hupd
        have HRA := Lib.hid hra
        subst hao
        have y0 : (0 : Int) ≤ (y : Int) := by omega
        have y1 : (y : Int) < (x : Int) := by omega
        clear hc1 hrc hfv hgv hupd hra hrn
        have w1' : IntKind.i64.wrap (-fv) = -fv := IntWalk.i64_in _ (by omega)
        have w2' : IntKind.i64.wrap (gv + -fv) = gv - fv := (IntWalk.i64_in _ (by omega)).trans (by omega)
        have w3' : IntKind.i64.wrap (gv - fv) = gv - fv := IntWalk.i64_in _ (by omega)
        have w4' : IntKind.i64.wrap (gv - fv + 1) = gv - fv + 1 := IntWalk.i64_in _ (by omega)
        have hBr : w.heap.size ≤ rb := by omega
        go_wp2
        go_region
        by_cases hyq : y = q
        ·have t1 : ((y : Int) == (q : Int)) = true := by simp [hyq]
         have HYQ := Lib.hid hyq; clear hyq
         obtain ⟨rs1, e1, e2, e3, e4⟩ := HU.out (gv - fv) (upX (xpN X q (-1) y) y q (gv - fv)) (by simp [upX]) (fun b hb => by simp [upX, hb]) (fun i b hi => by simp [upX, hi])
         have G1 := e2.below ((Below.refl _ _).drew)
         have HO1 := Lib.hid ((HO.out.keptW e4 (by omega)).below ((Below.refl _ _).drew))
         have BB1 := Lib.hid (below_write BB.out e4 (by omega) BB.out.size).drew
         obtain ⟨hi1, rb1, hra1, hrn1, hB1, hlt1, d1, f1', hupd1⟩ := G1.cell e1 y q hly hqx rfl
         have hrb : rb1 = rb := by
          have h3 : (rs1.map RowV.val)[y]? = (rs.map RowV.val)[y]? := by rw [e3]
          rw [List.getElem?_map, List.getElem?_map, List.getElem?_eq_getElem hi1, List.getElem?_eq_getElem hi', Option.map_some, Option.map_some] at h3
          have h4 := Option.some.inj h3
          unfold RowV.val at h4
          rw [hra1, HRA.out] at h4
          simp at h4
          exact h4.1
         subst hrb
         have d2 : upX (xpN X q (-1) y) y q (gv - fv) y q = gv - fv := by simp [upX]
         rw [d2] at d1
         have HU1 := Lib.hid hupd1
         clear e1 e2 e3 e4 G1 hra1 hrn1 hupd1 d2
         go_wp2
         obtain ⟨rs2, e1, e2, e3, e4⟩ := HU1.out (gv - fv + 1) (xpN X q (-1) (y + 1)) (by rw [HNX.out, if_pos ⟨HYQ.out, by omega⟩]; omega) (fun b hb => by rw [xpN_same X q (-1) y b hb]; simp [upX, hb]) (fun i b hi => by rw [xpN_far X q (-1) y i b hi]; simp [upX, hi])
         have HO2 := Lib.hid (HO1.out.keptW e4 (by omega))
         have BB2 := Lib.hid (below_write BB1.out e4 (by omega) BB1.out.size)
         have E2 := Lib.hid e2; have E1 := Lib.hid e1
         clear e1 e2 e3 e4
         go_roundw
         case rel => exact ⟨y + 1, by omega, by go_num, ⟨rs2, E1.out, E2.out⟩, HO2.out, BB2.out⟩
         case measure => simp [intOf]; omega
        ·have t1 : ((y : Int) == (q : Int)) = false := by rw [beq_eq_false_iff_ne]; omega
         have HYQ := Lib.hid hyq; clear hyq
         obtain ⟨rs', e1, e2, e3, e4⟩ := HU.out (gv - fv) (xpN X q (-1) (y + 1)) (by rw [HNX.out, if_neg (fun h => HYQ.out h.1)]; omega) (fun b hb => xpN_same X q (-1) y b hb) (fun i b hi => xpN_far X q (-1) y i b hi)
         have HO2 := Lib.hid (HO.out.keptW e4 (by omega))
         have BB2 := Lib.hid (below_write BB.out e4 (by omega) BB.out.size)
         have E2 := Lib.hid e2; have E1 := Lib.hid e1
         clear e1 e2 e3 e4
         go_wp2
         go_roundw
         case rel => exact ⟨y + 1, by omega, by go_num, ⟨rs', E1.out, E2.out.below ((Below.refl _ _).drew)⟩, HO2.out.below ((Below.refl _ _).drew), BB2.out.drew⟩
         case measure => simp [intOf]; omega
       ·have hyx : y = x := by omega
        have c3 := HO.out.cellAt q hqx
        rw [rowX_at x _ q hqx] at c3
        have f3 := HO.out.frozenAt q
        have z3 := (HO.out.lo _ rfl).2
        have b3 := HFB.out q
        obtain ⟨fq, hfq⟩ : ∃ fq, fq = X.F q := ⟨_, rfl⟩
        rw [← hfq] at c3 b3
        have hset : (rowX x X.F).set q (fq - 1) = rowX x (xpF X q (-1)) := rowX_set x _ _ q _ (by simp [xpF, ← hfq]; try omega) (fun b hb => by simp [xpF, hb])
        obtain ⟨o1, o2⟩ := HO.out.store q (fq - 1)
        rw [hset] at o1
        have O2 := Lib.hid o1
        have HW2 : Hid (Wrote w.heap.size (w.heap.size + 1) wr (wr.setCell ⟨w.heap.size, q, none⟩ (.int .i64 (fq - 1)))) := Lib.hid (wrote_setCell (wrote_refl _ _ _) (p := ⟨w.heap.size, q, none⟩) (Nat.le_refl _) (Nat.lt_succ_self _) _)
        have G2 := Lib.hid (GG.out.wrote HW2.out (.inl (Nat.le_refl _)))
        have BB2 := Lib.hid (below_write BB.out HW2.out (Nat.le_refl _) BB.out.size)
        have HYX := Lib.hid hyx
        clear hset o1 o2 hfq hyx
        have w1' : IntKind.i64.wrap (fq + -1) = fq - 1 := (IntWalk.i64_in _ (by omega)).trans (by omega)
        have w2' : IntKind.i64.wrap (fq - 1) = fq - 1 := IntWalk.i64_in _ (by omega)
        go_wp2
        go_roundw
        case rel => exact ⟨k + 1, by omega, by go_num, ⟨rs, by rw [HSTC.out]; show _ = matX x (xpN X q (-1) x); rw [HRS.out, HYX.out], G2.out⟩, by rw [HSTC.out]; exact O2.out, BB2.out⟩
        case measure => simp [intOf]; omega
     ·skip
      have HC : Hid (cnt l = 1) := Lib.hid (by unfold cnt; rw [if_neg hneg])
      have HSTC : Hid (xpW x (ls.take (k + 1)) = ⟨xpF X q 1, xpN X q 1 x⟩) := Lib.hid (by rw [HST.out, HC.out])
      clear HST
      go_wp2
      go_quiet (fail)
      have GG1 := Lib.hid (GG.out.below (below_draws _ wr nq)); have HO1 := Lib.hid (HO.out.below (below_draws _ wr nq)); have BB1 := Lib.hid (BB.out.trans (below_draws _ wr nq))
      have h1d := h1c
      go_wp2
      rw [show l - 1 = (q : Int) by have hq := HQQ.out; rcases idx_cases l with ⟨g, e, -⟩ | ⟨g, e, -⟩ <;> omega]
      go_loopw [11] (fun iv wr => ∃ y : Nat, y ≤ x ∧ iv = .int .i64 y ∧ (∃ rs : List RowV, rs.map RowV.xs = matX x (xpN X q 1 y) ∧ GrowSS (w.heap.size + 1) wr (.slice ao x co) x rs) ∧ Own w.heap.size wr (some ⟨w.heap.size, 0, none⟩) x x (rowX x X.F) ∧ Below w.heap.size w wr) (fun iv _ => x - (intOf iv).toNat)
      case atStart => exact ⟨0, Nat.zero_le _, rfl, ⟨rs, by rw [xpN_zero]; exact HRS.out, GG1.out⟩, HO1.out, BB1.out⟩
      case round =>
       clear GG1 HO1 BB1 GG HO BB HRS h1c h1d
       obtain ⟨y, hy, rfl, ⟨rs, hrs, hG⟩, hO, hBl⟩ := hrel
       have HRS := Lib.hid hrs; have GG := Lib.hid hG; have HO := Lib.hid hO; have BB := Lib.hid hBl
       clear hrs hG hO hBl
       by_cases hly : y < x
       ·obtain ⟨hi', rb, hra, hrn, hB, hlt2, c1, f1, hupd⟩ := GG.out.cell HRS.out y q hly hqx rfl
        rw [xpN_here] at c1
        obtain ⟨g1, o1, hao, _, _, _, hc1⟩ := GG.out.ownSS.2.1.resolve_left (by omega)
        have c0 := hc1 y hi'
        rw [hra, hrn] at c0
        obtain ⟨rc, hrc⟩ : ∃ rc, rc = rs[y].cap := ⟨_, rfl⟩
        rw [← hrc] at c0
        have c2 := HO.out.cellAt y hly
        rw [rowX_at x _ y hly] at c2
        have b1 := HFB.out y
        have b2 := HGB.out y q
        have HNX := Lib.hid (xpN_next X q 1 y)
        obtain ⟨fv, hfv⟩ : ∃ fv, fv = X.F y := ⟨_, rfl⟩
        obtain ⟨gv, hgv⟩ : ∃ gv, gv = X.G y q := ⟨_, rfl⟩
        rw [← hfv] at c2 b1 HNX
        rw [← hgv] at c1 b2 HNX
        have HU := Lib.hid hupd
        have HRA := Lib.hid hra
        subst hao
        have y0 : (0 : Int) ≤ (y : Int) := by omega
        have y1 : (y : Int) < (x : Int) := by omega
        clear hc1 hrc hfv hgv hupd hra hrn
        have w1' : IntKind.i64.wrap fv = fv := IntWalk.i64_in _ (by omega)
        have w2' : IntKind.i64.wrap (gv + fv) = gv + fv := IntWalk.i64_in _ (by omega)
        have hBr : w.heap.size ≤ rb := by omega
        go_wp2
        go_region
        by_cases hyq : y = q
        ·have t1 : ((y : Int) == (q : Int)) = true := by simp [hyq]
         have HYQ := Lib.hid hyq; clear hyq
         obtain ⟨rs', e1, e2, e3, e4⟩ := HU.out (gv + fv) (xpN X q 1 (y + 1)) (by rw [HNX.out, if_neg (fun h => absurd h.2 (by omega))]; omega) (fun b hb => xpN_same X q 1 y b hb) (fun i b hi => xpN_far X q 1 y i b hi)
         have HO2 := Lib.hid (HO.out.keptW e4 (by omega))
         have BB2 := Lib.hid (below_write BB.out e4 (by omega) BB.out.size)
         have E2 := Lib.hid e2; have E1 := Lib.hid e1
         clear e1 e2 e3 e4
         go_wp2
         go_roundw
         case rel => exact ⟨y + 1, by omega, by go_num, ⟨rs', E1.out, E2.out.below ((Below.refl _ _).drew)⟩, HO2.out.below ((Below.refl _ _).drew), BB2.out.drew⟩
         case measure => simp [intOf]; omega
        ·have t1 : ((y : Int) == (q : Int)) = false := by rw [beq_eq_false_iff_ne]; omega
         have HYQ := Lib.hid hyq; clear hyq
         obtain ⟨rs', e1, e2, e3, e4⟩ := HU.out (gv + fv) (xpN X q 1 (y + 1)) (by rw [HNX.out, if_neg (fun h => HYQ.out h.1)]; omega) (fun b hb => xpN_same X q 1 y b hb) (fun i b hi => xpN_far X q 1 y i b hi)
         have HO2 := Lib.hid (HO.out.keptW e4 (by omega))
         have BB2 := Lib.hid (below_write BB.out e4 (by omega) BB.out.size)
         have E2 := Lib.hid e2; have E1 := Lib.hid e1
         clear e1 e2 e3 e4
         go_wp2
         go_roundw
         case rel => exact ⟨y + 1, by omega, by go_num, ⟨rs', E1.out, E2.out.below ((Below.refl _ _).drew)⟩, HO2.out.below ((Below.refl _ _).drew), BB2.out.drew⟩
         case measure => simp [intOf]; omega
       ·have hyx : y = x := by omega
        have c3 := HO.out.cellAt q hqx
        rw [rowX_at x _ q hqx] at c3
        have f3 := HO.out.frozenAt q
        have z3 := (HO.out.lo _ rfl).2
        have b3 := HFB.out q
        obtain ⟨fq, hfq⟩ : ∃ fq, fq = X.F q := ⟨_, rfl⟩
        rw [← hfq] at c3 b3
        have hset : (rowX x X.F).set q (fq + 1) = rowX x (xpF X q 1) := rowX_set x _ _ q _ (by simp [xpF, ← hfq]; try omega) (fun b hb => by simp [xpF, hb])
        obtain ⟨o1, o2⟩ := HO.out.store q (fq + 1)
        rw [hset] at o1
        have O2 := Lib.hid o1
        have HW2 : Hid (Wrote w.heap.size (w.heap.size + 1) wr (wr.setCell ⟨w.heap.size, q, none⟩ (.int .i64 (fq + 1)))) := Lib.hid (wrote_setCell (wrote_refl _ _ _) (p := ⟨w.heap.size, q, none⟩) (Nat.le_refl _) (Nat.lt_succ_self _) _)
        have G2 := Lib.hid (GG.out.wrote HW2.out (.inl (Nat.le_refl _)))
        have BB2 := Lib.hid (below_write BB.out HW2.out (Nat.le_refl _) BB.out.size)
        have HYX := Lib.hid hyx
        clear hset o1 o2 hfq hyx
        have w1' : IntKind.i64.wrap (fq + 1) = fq + 1 := IntWalk.i64_in _ (by omega)
        go_wp2
        go_roundw
        case rel => exact ⟨k + 1, by omega, by go_num, ⟨rs, by rw [HSTC.out]; show _ = matX x (xpN X q 1 x); rw [HRS.out, HYX.out], G2.out⟩, by rw [HSTC.out]; exact O2.out, BB2.out⟩
        case measure => simp [intOf]; omega
    ·have hkn : k = n := by omega
     subst hkn
     have htk : Hid (ls.take k = ls) := Lib.hid (List.take_of_length_le (by rw [HL.out]; exact Nat.le_refl _))
     have hlr := GG.out.len
     go_wp2
     go_ret
     exact ⟨ao, co, rs, by rw [hlr]; rfl, by rw [HRS.out, htk.out], by rw [hlr]; exact GG.out.low (by omega), BB.out⟩

end Go.Proofs.Ytehcbamfendbaaa

