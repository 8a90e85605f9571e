/- Expansions: the program's walk. -/
import Derived.Test.YtehcbamfendbaaaSeMg10
import Derived.Deep.RegionHeld3
import Derived.Deep.DeepCutAuto
namespace Go.Proofs.Ytehcbamfendbaaa
open Go.RowKit Go.ChangeShapes

theorem fill_madeX {B : Nat} {w : World} {n : Nat} (h : w.ownsRow B 22 1 (.slice (some ⟨B, 0, none⟩) n n) n (madeCells #[Value.slice none 0 0] n).toList) : FillSS B w B n 0 [] := by
 rw [toList_madeCells_one] at h
 exact ⟨by simpa using h, rfl, Nat.zero_le _, fun x hx => (by cases hx), fun i j hi => (by cases hi)⟩

theorem cnt_pm' (x : Int) : cnt x = -1 ∨ cnt x = 1 := by unfold cnt; split <;> simp

theorem xpG_zero (x : Xp) (q : Nat) (c : Int) : xpG x q c 0 = x.G := by
 funext a b
 unfold xpG
 rw [if_neg (by omega)]

theorem xpG_far (x : Xp) (q : Nat) (c : Int) (y i b : Nat) (h : i ≠ y) : xpG x q c (y + 1) i b = xpG x q c y i b := by
 unfold xpG
 by_cases h1 : b = q ∧ i < y
 ·rw [if_pos h1, if_pos (show b = q ∧ i < y + 1 from ⟨h1.1, by omega⟩)]
 ·rw [if_neg h1, if_neg (fun h3 => h1 ⟨h3.1, by omega⟩)]

theorem xpG_here (x : Xp) (q : Nat) (c : Int) (y : Nat) : xpG x q c y y q = x.G y q := by
 unfold xpG
 rw [if_neg (by omega)]

theorem xpG_same (x : Xp) (q : Nat) (c : Int) (y b : Nat) (h : b ≠ q) : xpG x q c (y + 1) y b = xpG x q c y y b := by
 unfold xpG
 rw [if_neg (by omega), if_neg (by omega)]

theorem xpG_next (x : Xp) (q : Nat) (c : Int) (y : Nat) : xpG x q c (y + 1) y q = x.G y q + c * x.F y := by
 unfold xpG
 rw [if_pos ⟨rfl, by omega⟩]

theorem xpN_pos (x : Xp) (q : Nat) (c : Int) (y : Nat) (hc : ¬ c < 0) : xpN x q c y = xpG x q c y := by
 funext a b
 unfold xpN
 rw [if_neg (fun h => hc h.2.2.2), Int.add_zero]

theorem xpN_neg (x : Xp) (q : Nat) (c : Int) (y : Nat) (hc : c < 0) (hq : q < y) : xpN x q c y = upX (xpG x q c y) q q (xpG x q c y q q + 1) := by
 funext a b
 unfold xpN upX
 by_cases h : a = q ∧ b = q
 ·obtain ⟨rfl, rfl⟩ := h
  rw [if_pos ⟨rfl, rfl, hq, hc⟩, if_pos ⟨rfl, rfl⟩]
 ·rw [if_neg (fun h3 => h ⟨h3.1, h3.2.1⟩), if_neg h, Int.add_zero]

set_option maxRecDepth 100000 in
set_option maxHeartbeats 4000000 in
theorem expanded_any (j : Nat) (h1 : 1 ≤ j) (h7 : j ≤ 7) (a : Option Addr) (n cap : Nat) (ls : List Int) (w : World) (hr : Reads w a n ls) (hls : ∀ x ∈ ls, Lett ((j : Int) + 1) x) (hn : n ≤ 400) :
  Calls Try.prog 93 #[.slice a n cap, .int .i64 j] w (RetSS w (matX j (xpW j ls).G)) := by
 obtain ⟨i0, hi, hz0, hz1, hz2⟩ := info_parts infoInt
 obtain ⟨i1, hj, hs0, hs1, hs2⟩ := info_parts infoSlice
 have HL := Lib.hid hr.len
 have HR := Lib.hid hr; clear hr
 have HLS := Lib.hid hls; clear hls
 go_enter Try.func93, Try.ntmps93
 go_wp2_with (at_make; refine wpList_make_full w rfl _ _ 22 rfl w.heap.size 2 i0 (.int .i64 0) 1 Try.underlying22 hi hz0 hz1 .i64 .i64 _ _ j rfl rfl (by omega) (by omega) (by rw [hz2]; omega) (by unfold maxLen; omega) (by simp) ?_)
 intro w1 hown hgrow
 have hown1 := own_made hown
 have hb1 := Below.ofGrown hgrow
 have zo := (hown1.lo _ rfl).2
 have HO := Lib.hid hown1
 have BB := Lib.hid hb1
 have zw : w.heap.size + 1 ≤ w1.heap.size := zo
 clear hown hgrow hown1 hb1
 go_wp2_with (at_make; refine wpList_make_full w1 rfl _ _ 26 rfl w1.heap.size 22 i1 (.slice none 0 0) 1 Try.underlying26 hj hs0 hs1 .i64 .i64 _ _ j rfl rfl (by omega) (by omega) (by rw [hs2]; omega) (by unfold maxLen; omega) (by simp) ?_)
 intro w2 hown hgrow
 have F0 := Lib.hid (fill_madeX hown)
 have hb2 := Below.ofGrown hgrow
 replace HO := Lib.hid (HO.out.below hb2)
 replace BB := Lib.hid (below_go BB.out hb2 BB.out.size)
 obtain ⟨gs, hgs⟩ : ∃ g, g = w1.heap.size := ⟨_, rfl⟩
 rw [← hgs] at F0 zw zo ⊢
 clear hown hgrow hb2 hgs
 go_wp2
 go_loopw [20] (fun i wr => ∃ k : Nat, k ≤ j ∧ i = .int .i64 k ∧ (∃ rs : List RowV, rs.map RowV.xs = List.replicate k (List.replicate j 0) ∧ FillSS gs wr gs j k rs) ∧ Own w.heap.size wr (some ⟨w.heap.size, 0, none⟩) j j (List.replicate j 0) ∧ Below w.heap.size w wr) (fun i _ => j - (intOf i).toNat)
 case atStart => exact ⟨0, Nat.zero_le _, rfl, ⟨[], rfl, F0.out⟩, HO.out, BB.out⟩
 case round =>
  obtain ⟨k, hk, rfl, ⟨rs, hrs, hF⟩, hO, hBl⟩ := hrel
  clear F0 HO BB
  have F := Lib.hid hF; have HRS := Lib.hid hrs; have HO := Lib.hid hO; have BB := Lib.hid hBl
  clear hF hrs hO hBl
  have zg := F.out.lt.2
  by_cases hlt : k < j
  ·have k0 : 0 ≤ (k : Int) := by omega
   have k1 : (k : Int) < (j : Int) := by omega
   go_wp2_with (at_make; refine wpList_make_full wr rfl _ _ 22 rfl wr.heap.size 2 i0 (.int .i64 0) 1 Try.underlying22 hi hz0 hz1 .i64 .i64 _ _ j rfl rfl (by omega) (by omega) (by rw [hz2]; omega) (by unfold maxLen; omega) (by simp) ?_)
   intro w3 hown hgrow
   have hown3 := own_made hown
   have hb3 := Below.ofGrown hgrow
   have zq := (hown3.lo _ rfl).2
   obtain ⟨b, hb1, hb2, hoi⟩ := own_block hown3 zq
   have F3 := Lib.hid (F.out.below hb3)
   have hrow := F.out.row
   have hfs := F3.out.store hlt hoi (by omega) (by omega) hb2 (fun x hx => by have := (hrow x hx).2.2.2; omega)
   have FS := Lib.hid hfs
   have c1 : w3.cell? ⟨gs, k, none⟩ = some (.slice none 0 0) := by
    have hl := F3.out.len
    have h := World.ownsRow.cellAt F3.out.own k (by have := F3.out.own.1; omega)
    refine h.trans ?_
    rw [List.getElem?_append_right (by rw [List.length_map]; omega), List.length_map, hl, Nat.sub_self]
    exact List.getElem?_replicate_of_lt (by omega)
   have f1 := World.ownsRow.frozenAt F3.out.own k
   have z3 := F3.out.lt.2
   have HO3 := Lib.hid ((HO.out.below hb3).setCell_other' (p := ⟨gs, k, none⟩) (by simp; omega) (.slice (some ⟨wr.heap.size, 0, none⟩) j j))
   have BB3 := Lib.hid ((below_go BB.out hb3 BB.out.size).setCell (p := ⟨gs, k, none⟩) (by simp; omega) (.slice (some ⟨wr.heap.size, 0, none⟩) j j))
   clear hfs hown hgrow hown3 hb3 hoi hrow
   go_wp2
   go_roundw
   case rel => exact ⟨k + 1, by omega, by go_num, ⟨rs ++ [⟨b, some ⟨wr.heap.size, 0, none⟩, j, j, List.replicate j 0⟩], by rw [List.map_append, HRS.out, List.replicate_succ']; rfl, FS.out⟩, HO3.out, BB3.out⟩
   case measure => simp [intOf]; omega
  ·have hkj : k = j := by omega
   subst hkj
   have hlr := F.out.len
   have GG := Lib.hid (F.out.full.low (show w.heap.size + 1 ≤ gs by omega))
   have HM0 : Hid (rs.map RowV.xs = matX k (xpW k (ls.take 0)).G) := Lib.hid (by rw [HRS.out]; exact mat_zero k)
   have HF0 : Hid (Own w.heap.size wr (some ⟨w.heap.size, 0, none⟩) k k (rowX k (xpW k (ls.take 0)).F)) := Lib.hid (by have := HO.out; rw [← rowX_zero k] at this; exact this)
   clear HRS HO hlr F
   go_wp2
   have hw0 : ∀ z : Int, z = 0 → True := fun _ _ => trivial
   clear hw0
   go_loopw [31] (fun i wr => ∃ t : Nat, t ≤ n ∧ i = .int .i64 t ∧ (∃ rs : List RowV, rs.map RowV.xs = matX k (xpW k (ls.take t)).G ∧ GrowSS (w.heap.size + 1) wr (.slice (some ⟨gs, 0, none⟩) k k) k rs) ∧ Own w.heap.size wr (some ⟨w.heap.size, 0, none⟩) k k (rowX k (xpW k (ls.take t)).F) ∧ Below w.heap.size w wr) (fun i _ => n - (intOf i).toNat)
   case atStart => exact ⟨0, Nat.zero_le _, rfl, ⟨rs, HM0.out, GG.out⟩, HF0.out, BB.out⟩
   case round =>
    clear GG HF0 HM0 BB
    obtain ⟨t, ht, rfl, ⟨rs, hrs, hG⟩, hO, hBl⟩ := hrel
    have HRS := Lib.hid hrs; have GG := Lib.hid hG; have HO := Lib.hid hO; have BB := Lib.hid hBl
    clear hrs hG hO hBl
    by_cases hlt2 : t < n
    ·have hkl : t < ls.length := by rw [HL.out]; exact hlt2
     obtain ⟨gb, off, rfl, hgb, hgc⟩ := HR.out.cells (by omega)
     obtain ⟨l, hl⟩ : ∃ l, l = ls.getD t 0 := ⟨_, rfl⟩
     have h1c : wr.cell? ⟨gb, off + t, none⟩ = some (.int .i64 l) := by rw [hl]; exact (BB.out.cell (by exact hgb)).trans (hgc _ hlt2)
     have hle : Lett ((k : Int) + 1) l := HLS.out l (by rw [hl]; exact getD_mem ls t hkl)
     have hsm := hle.small (by omega)
     obtain ⟨u1, u2⟩ := hsm
     obtain ⟨q, hq⟩ : ∃ q : Nat, idx l = (q : Int) + 1 := ⟨(idx l - 1).toNat, by have := hle.1; omega⟩
     have hqx : q < k := by have := hle.2; omega
     have hqn : (idx l - 1).toNat = q := by omega
     have hst := xpW_step k ls t hkl
     rw [← hl, xpS, hqn] at hst
     have hbd := xpW_bd k (ls.take t)
     rw [List.length_take] at hbd
     have hkk : min t ls.length ≤ 400 := by omega
     have hkk2 : min t ls.length * min t ls.length ≤ 400 * 400 := Nat.mul_le_mul hkk hkk
     obtain ⟨X, hX⟩ : ∃ X, X = xpW k (ls.take t) := ⟨_, rfl⟩
     rw [← hX] at hst hbd HRS HO
     obtain ⟨d, hd⟩ : ∃ d, d = min t ls.length := ⟨_, rfl⟩
     rw [← hd] at hbd hkk hkk2
     have HFB : Hid (∀ b, -400 ≤ X.F b ∧ X.F b ≤ 400) := Lib.hid (fun b => by have := hbd.1 b; omega)
     have HGB : Hid (∀ a b, -160000 ≤ X.G a b ∧ X.G a b ≤ 160000) := Lib.hid (fun a b => by
      have h2 := hbd.2 a b
      have h3 : ((d * d : Nat) : Int) = (d : Int) * d := Int.natCast_mul d d
      omega)
     have HST := Lib.hid hst
     have wq : IntKind.i64.wrap ((q : Int) + 1 - 1) = (q : Int) := (IntWalk.i64_in _ (by omega)).trans (by omega)
     have q0 : (0 : Int) ≤ (q : Int) := by omega
     have qx : (q : Int) < (k : Int) := by omega
     have K1 := Lib.hid (fun W => index_any l W u1 u2)
     have K2 := Lib.hid (fun W => count_any l W)
     rw [idxv_cnt, hq] at K1
     have hcc := cnt_pm' l
     have hcn : cnt l < 0 ↔ l < 0 := by rcases idx_cases l with ⟨g, -, e⟩ | ⟨g, -, e⟩ <;> rw [e] <;> omega
     obtain ⟨c, hc⟩ : ∃ c, c = cnt l := ⟨_, rfl⟩
     rw [← hc] at hcc hcn K2 HST
     clear hbd hkk hkk2 hd hst hX hqn hle hl hgc hq hc
     go_wp2_with (go_at_call 111; refine (K1.out _).mono ?_; rintro e w' ⟨rfl, rfl⟩)
     go_loopw [41] (fun iv wr => ∃ y : Nat, y ≤ k ∧ iv = .int .i64 y ∧ (∃ rs : List RowV, rs.map RowV.xs = matX k (xpG X q c y) ∧ GrowSS (w.heap.size + 1) wr (.slice (some ⟨gs, 0, none⟩) k k) k rs) ∧ Own w.heap.size wr (some ⟨w.heap.size, 0, none⟩) k k (rowX k X.F) ∧ Below w.heap.size w wr) (fun iv _ => k - (intOf iv).toNat)
     case atStart => exact ⟨0, Nat.zero_le _, rfl, ⟨rs, by rw [xpG_zero]; exact HRS.out, GG.out⟩, HO.out, BB.out⟩
     case round =>
      clear GG HO BB HRS h1c
      obtain ⟨y, hy, rfl, ⟨rs, hrs, hG⟩, hO, hBl⟩ := hrel
      have HRS := Lib.hid hrs; have GG := Lib.hid hG; have HO := Lib.hid hO; have BB := Lib.hid hBl
      clear hrs hG hO hBl
      by_cases hly : y < k
      ·obtain ⟨hi', rb, hra, hrn, hB, hlt3, c1, f1, hupd⟩ := GG.out.cell HRS.out y q hly hqx rfl
       rw [xpG_here] at c1
       obtain ⟨g1, o1, hao, _, _, _, hc1⟩ := GG.out.ownSS.2.1.resolve_left (by omega)
       simp only [Option.some.injEq, Addr.mk.injEq, and_true] at hao
       have c0 := hc1 y hi'
       rw [hra, hrn, ← hao.1, ← hao.2, Nat.zero_add] at c0
       obtain ⟨rc, hrc⟩ : ∃ rc, rc = rs[y].cap := ⟨_, rfl⟩
       rw [← hrc] at c0
       have c2 := HO.out.cellAt y hly
       rw [rowX_at k _ y hly] at c2
       have b1 := HFB.out y
       have b2 := HGB.out y q
       have HNX := Lib.hid (xpG_next X q c y)
       obtain ⟨fv, hfv⟩ : ∃ fv, fv = X.F y := ⟨_, rfl⟩
       obtain ⟨gv, hgv⟩ : ∃ gv, gv = X.G y q := ⟨_, rfl⟩
       rw [← hfv] at c2 b1 HNX
       rw [← hgv] at c1 b2 HNX
       have hp : -400 ≤ fv * c ∧ fv * c ≤ 400 := by rcases hcc with e | e <;> rw [e] <;> omega
       have hpc : fv * c = c * fv := Int.mul_comm _ _
       have w1' : IntKind.i64.wrap (fv * c) = fv * c := IntWalk.i64_in _ (by omega)
       have w2' : IntKind.i64.wrap (gv + fv * c) = gv + fv * c := IntWalk.i64_in _ (by omega)
       have HPC := Lib.hid hpc
       have HU := Lib.hid hupd
       have y0 : (0 : Int) ≤ (y : Int) := by omega
       have y1 : (y : Int) < (k : Int) := by omega
       clear hc1 hrc hfv hgv hupd hra hrn hp hpc hao
       go_upto_region 16 with fail
       obtain ⟨rs', e1, e2, e3, e4⟩ := HU.out (gv + fv * c) (xpG X q c (y + 1)) (by rw [HNX.out, HPC.out]) (fun b hb => xpG_same X q c y b hb) (fun i b hi => xpG_far X q c y i b hi)
       have HO2 := Lib.hid (HO.out.keptW e4 (by omega))
       have BB2 := Lib.hid (below_write BB.out e4 (by omega) BB.out.size)
       have E1 := Lib.hid e1; have E2 := Lib.hid e2
       clear e1 e2 e3 e4
       go_region_with (go_at_call 103; refine (K2.out _).mono ?_; rintro e w' ⟨rfl, rfl⟩)
       all_goals
        go_wp2
        go_roundw
        case rel => exact ⟨y + 1, by omega, by go_num, ⟨rs', E1.out, E2.out.below ((Below.refl _ _).drew)⟩, HO2.out.below ((Below.refl _ _).drew), BB2.out.drew⟩
        case measure => simp [intOf]; omega
      ·have hyk : y = k := by omega
       subst hyk
       have c3 := HO.out.cellAt q hqx
       rw [rowX_at y _ q hqx] at c3
       have f3 := HO.out.frozenAt q
       have z3 := (HO.out.lo _ rfl).2
       have b3 := HFB.out q
       have b4 := HGB.out q q
       obtain ⟨fq, hfq⟩ : ∃ fq, fq = X.F q := ⟨_, rfl⟩
       have HFQ := Lib.hid hfq
       rw [← hfq] at c3 b3
       have hset : (rowX y X.F).set q (fq + c) = rowX y (xpF X q c) := rowX_set y _ _ q _ (by simp [xpF, ← hfq]) (fun b hb => by simp [xpF, hb])
       obtain ⟨o1, o2⟩ := HO.out.store q (fq + c)
       rw [hset] at o1
       have O2 := Lib.hid o1
       have HW2 : Hid (Wrote w.heap.size (w.heap.size + 1) wr (wr.setCell ⟨w.heap.size, q, none⟩ (.int .i64 (fq + c)))) := Lib.hid (wrote_setCell (wrote_refl _ _ _) (p := ⟨w.heap.size, q, none⟩) (Nat.le_refl _) (Nat.lt_succ_self _) _)
       have G2 := Lib.hid (GG.out.wrote HW2.out (.inl (Nat.le_refl _)))
       have BB2 := Lib.hid (below_write BB.out HW2.out (Nat.le_refl _) BB.out.size)
       have w1' : IntKind.i64.wrap (fq + c) = fq + c := IntWalk.i64_in _ (by rcases hcc with e | e <;> rw [e] <;> omega)
       have hgq : -160400 ≤ xpG X q c y q q ∧ xpG X q c y q q ≤ 160400 := by
        unfold xpG
        rw [if_pos ⟨rfl, hqx⟩, ← hfq]
        rcases hcc with e | e
        ·rw [e, show (-1 : Int) * fq = -fq by omega]; omega
        ·rw [e, Int.one_mul]; omega
       have HGQ := Lib.hid hgq
       clear hset o1 o2 hfq hgq
       go_upto_region 18 with fail
       go_cut [] from 60 to 67 (fun wx => (∃ rs : List RowV, rs.map RowV.xs = matX y (xpG X q c y) ∧ GrowSS (w.heap.size + 1) wx (.slice (some ⟨gs, 0, none⟩) y y) y rs) ∧ Own w.heap.size wx (some ⟨w.heap.size, 0, none⟩) y y (rowX y (xpF X q c)) ∧ Below w.heap.size w wx)
       case first =>
        go_region_with (go_at_call 103; refine (K2.out _).mono ?_; rintro e w' ⟨rfl, rfl⟩)
        all_goals
         go_wp2_with fail
         go_meet
         exact ⟨⟨rs, HRS.out, G2.out.below ((Below.refl _ _).drew)⟩, O2.out.below ((Below.refl _ _).drew), BB2.out.drew⟩
       case rest =>
        obtain ⟨⟨rs', t1, t2⟩, t3, t4⟩ := hcut
        obtain ⟨wp, hwp⟩ : ∃ x, x = wc := ⟨_, rfl⟩; subst hwp
        have E1 := Lib.hid t1; have E2 := Lib.hid t2; have E3 := Lib.hid t3; have E4 := Lib.hid t4
        clear t1 t2 t3 t4
        by_cases hneg : l < 0
        ·have hcneg : c < 0 := hcn.2 hneg
         obtain ⟨hi', rb, hra, hrn, hB, hlt3, c1, f1, hupd⟩ := E2.out.cell E1.out q q hqx hqx rfl
         obtain ⟨g1, o1, hao, _, _, _, hc1⟩ := E2.out.ownSS.2.1.resolve_left (by omega)
         simp only [Option.some.injEq, Addr.mk.injEq, and_true] at hao
         have c0 := hc1 q hi'
         rw [hra, hrn, ← hao.1, ← hao.2, Nat.zero_add] at c0
         obtain ⟨rc, hrc⟩ : ∃ rc, rc = rs'[q].cap := ⟨_, rfl⟩
         rw [← hrc] at c0
         obtain ⟨gq, hgq⟩ : ∃ gq, gq = xpG X q c y q q := ⟨_, rfl⟩
         have hbq := HGQ.out
         rw [← hgq] at c1 hbq
         have w5' : IntKind.i64.wrap (gq + 1) = gq + 1 := IntWalk.i64_in _ (by omega)
         obtain ⟨rs2, e1, e2, e3, e4⟩ := hupd (gq + 1) (xpN X q c y) (by rw [xpN_neg X q c y hcneg hqx, ← hgq]; simp [upX]) (fun b hb => by rw [xpN_neg X q c y hcneg hqx]; simp [upX, hb]) (fun i b hi => by rw [xpN_neg X q c y hcneg hqx]; simp [upX, hi])
         have HO2 := Lib.hid (E3.out.keptW e4 (by omega))
         have BB3 := Lib.hid (below_write E4.out e4 (by omega) E4.out.size)
         have D1 := Lib.hid e1; have D2 := Lib.hid e2
         clear e1 e2 e3 e4 hupd hgq hrc hc1 hao hra hrn hcneg hcn
         go_wp2
         go_roundw
         case rel => exact ⟨t + 1, by omega, by go_num, ⟨rs2, by rw [HST.out]; exact D1.out, D2.out⟩, by rw [HST.out]; exact HO2.out, BB3.out⟩
         case measure => simp [intOf]; omega
        ·have hcpos : ¬ c < 0 := fun h => hneg (hcn.1 h)
         have HNP := Lib.hid (xpN_pos X q c y hcpos)
         clear hcpos hcn
         go_wp2
         go_roundw
         case rel => exact ⟨t + 1, by omega, by go_num, ⟨rs', by rw [HST.out]; show _ = matX y (xpN X q c y); rw [HNP.out]; exact E1.out, E2.out⟩, by rw [HST.out]; exact E3.out, E4.out⟩
         case measure => simp [intOf]; omega
    ·have hkn : t = n := by omega
     subst hkn
     have htk : Hid (ls.take t = ls) := Lib.hid (List.take_of_length_le (by rw [HL.out]; exact Nat.le_refl _))
     have hlr := GG.out.len
     go_wp2
     go_ret
     exact ⟨_, k, rs, by rw [hlr]; rfl, by rw [HRS.out, htk.out], by rw [hlr]; exact GG.out.low (by omega), BB.out⟩

end Go.Proofs.Ytehcbamfendbaaa

