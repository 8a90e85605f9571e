/- The program: the part with some blocks. -/
import Derived.Test.YthelncibpoijoaaPIAre
import Derived.Test.YthelncibpoijoaaIRows
namespace Go.Proofs.Ythelncibpoijoaa
open Go.RowKit Go.ChangeShapes

set_option maxRecDepth 100000 in
set_option maxHeartbeats 1000000 in
theorem fineP_any (n : Nat) (h8 : n ≤ 8) (w : World) :
    Calls Try.prog 87 #[.int .i64 n] w (RetArr .u8 w (sameR n)) := by
  go_enter Try.func87, Try.ntmps87
  have RZ := Lib.hid (Row8.zeros w .u8 24 w.heap.size rfl)
  have BB := Lib.hid (below1 w (.cells #[.int .u8 0, .int .u8 0, .int .u8 0, .int .u8 0, .int .u8 0, .int .u8 0, .int .u8 0, .int .u8 0] 24))
  go_wp2_with fail
  refine (nothing_any n h8 _).mono ?_
  rintro e w2 ⟨rfl, hb⟩
  replace RZ := Lib.hid (RZ.out.below hb)
  replace BB := Lib.hid (below_go BB.out hb BB.out.size)
  clear hb
  obtain ⟨⟨d0, d1, d2, d3⟩, d4, d5, d6, d7⟩ := RZ.out.all
  obtain ⟨⟨f0, f1, f2, f3⟩, f4, f5, f6, f7⟩ := RZ.out.frees
  have zq := RZ.out.lt
  go_wp2
  obtain ⟨⟨e0, e1, e2, e3⟩, e4, e5, e6, e7⟩ := (RZ.out.fill (sameR n) (mapR_len _ _ h8)).all
  refine bodyPost_ret (v := arr8 .u8 (sameR n)) (by simp [results, Try.results87, go_sem, e0, e1, e2, e3, e4, e5, e6, e7]) rfl ⟨rfl, ?_⟩
  exact below_fill8 BB.out _ (by omega) _ _ _ _ _ _ _ _

set_option maxRecDepth 100000 in
set_option maxHeartbeats 4000000 in
theorem partOfBlocks_any (n : Nat) (h1 : 1 ≤ n) (h8 : n ≤ 8) (ad : Option Addr) (m cap : Nat) (rs : List RowV) (w : World) (hr : ReadsSS w ad m rs) (hm : m ≤ 1048576) (X : List (List Int)) (hX : X = rs.map RowV.xs) (hgd : Good (n : Int) X) :
    Calls Try.prog 74 #[.slice ad m cap, .int .i64 n] w (RetArr .u8 w (madeR n (leastOf X))) := by
  have HL := Lib.hid hr.1
  have HXL : Hid (X.length = m) := Lib.hid (by rw [hX, List.length_map]; exact hr.1)
  have HX := Lib.hid hX
  have HR := Lib.hid hr
  have HGD := Lib.hid hgd
  clear hr hX hgd
  go_enter Try.func74, Try.ntmps74
  have RZ := Lib.hid (Row8.zeros w .u8 24 w.heap.size rfl)
  have BB := Lib.hid (below1 w (.cells #[.int .u8 0, .int .u8 0, .int .u8 0, .int .u8 0, .int .u8 0, .int .u8 0, .int .u8 0, .int .u8 0] 24))
  go_wp2_with fail
  refine (fineP_any n h8 _).mono ?_
  rintro e w2 ⟨rfl, hb⟩
  replace RZ := Lib.hid (RZ.out.below hb)
  replace BB := Lib.hid (below_go BB.out hb BB.out.size)
  clear hb
  have zh := RZ.out.lt
  have RP := Lib.hid (Row8.place w2 .u8 (sameR n) 24 w2.heap.size rfl (mapR_len _ _ h8))
  replace RZ := Lib.hid (RZ.out.alloc (.cells #[.int .u8 (at8 (sameR n) 0), .int .u8 (at8 (sameR n) 1), .int .u8 (at8 (sameR n) 2), .int .u8 (at8 (sameR n) 3), .int .u8 (at8 (sameR n) 4), .int .u8 (at8 (sameR n) 5), .int .u8 (at8 (sameR n) 6), .int .u8 (at8 (sameR n) 7)] 24))
  replace BB := Lib.hid (BB.out.alloc BB.out.size (.cells #[.int .u8 (at8 (sameR n) 0), .int .u8 (at8 (sameR n) 1), .int .u8 (at8 (sameR n) 2), .int .u8 (at8 (sameR n) 3), .int .u8 (at8 (sameR n) 4), .int .u8 (at8 (sameR n) 5), .int .u8 (at8 (sameR n) 6), .int .u8 (at8 (sameR n) 7)] 24))
  obtain ⟨W, hW⟩ : ∃ W, W = w2.alloc (.cells #[.int .u8 (at8 (sameR n) 0), .int .u8 (at8 (sameR n) 1), .int .u8 (at8 (sameR n) 2), .int .u8 (at8 (sameR n) 3), .int .u8 (at8 (sameR n) 4), .int .u8 (at8 (sameR n) 5), .int .u8 (at8 (sameR n) 6), .int .u8 (at8 (sameR n) 7)] 24) := ⟨_, rfl⟩
  go_wp2
  rw [← hW] at RZ RP BB ⊢
  clear hW
  obtain ⟨gh, hgh⟩ : ∃ gh, gh = w2.heap.size := ⟨_, rfl⟩
  rw [← hgh] at RP zh ⊢
  clear hgh
  go_loopw [14] (fun iv wr => ∃ i : Nat, i ≤ m ∧ iv = .int .i64 i ∧ (∃ P, Row8 wr gh .u8 P ∧ PartP n X i 0 P) ∧ Row8 wr w.heap.size .u8 [0, 0, 0, 0, 0, 0, 0, 0] ∧ Below w.heap.size w wr) (fun iv _ => m - (intOf iv).toNat)
  case atStart => exact ⟨0, Nat.zero_le _, rfl, ⟨_, RP.out, PartP.start n h8 X⟩, RZ.out, BB.out⟩
  case round =>
    obtain ⟨i, hi, rfl, ⟨P, hRP, hP⟩, hRZ, hBB⟩ := hrel
    clear RP RZ BB
    have RP := Lib.hid hRP
    have RZ := Lib.hid hRZ
    have BB := Lib.hid hBB
    have HP := Lib.hid hP
    clear hRP hRZ hBB hP
    by_cases hlt : i < m
    · have hil : i < rs.length := by rw [HL.out]; exact hlt
      have hilX : Hid (i < X.length) := Lib.hid (by rw [HXL.out]; exact hlt)
      obtain ⟨b, off, rfl, hc⟩ := HR.out.2.1.resolve_left (by omega)
      have HH : Hid (∀ W, Below w.heap.size w W → W.cell? ⟨b, off + i, none⟩ = some (.slice rs[i].a rs[i].n rs[i].cap)) := Lib.hid fun W h => (h.cell (World.block_lt_of_cell? _ _ (hc i hil))).trans (hc i hil)
      have hrow := (HR.out.2.2 _ (List.getElem_mem hil)).1
      have hn := (HR.out.2.2 _ (List.getElem_mem hil)).2
      have HEL : Hid (∀ k, el X i k = rs[i].xs.getD k 0) := Lib.hid fun k => by rw [HX.out]; exact el_mapI rs i k hil
      have HLN : Hid (ln X i = rs[i].n) := Lib.hid (by rw [HX.out, ln_mapI rs i hil]; exact hrow.len)
      obtain ⟨x, hx⟩ : ∃ x, x = rs[i] := ⟨_, rfl⟩
      rw [← hx] at HH hrow hn HEL HLN
      have HROW : Hid (∀ W, Below w.heap.size w W → Reads W x.a x.n x.xs) := Lib.hid fun W h => hrow.below h
      clear hc hrow hx
      obtain ⟨xb, xa, xn, xc, xs⟩ := x
      simp only at HH hn HEL HLN HROW
      have c0 := HH.out _ BB.out
      go_wp2
      go_loopw [20] (fun kv wr => ∃ k : Nat, k ≤ xn ∧ kv = .int .i64 k ∧ (∃ P, Row8 wr gh .u8 P ∧ PartP n X i k P) ∧ Row8 wr w.heap.size .u8 [0, 0, 0, 0, 0, 0, 0, 0] ∧ Below w.heap.size w wr) (fun kv _ => xn - (intOf kv).toNat)
      case atStart => exact ⟨0, Nat.zero_le _, rfl, ⟨P, RP.out, HP.out⟩, RZ.out, BB.out⟩
      case round =>
        obtain ⟨k, hk, rfl, ⟨P, hRP, hP⟩, hRZ, hBB⟩ := hrel
        clear RP RZ BB HP c0
        have RP := Lib.hid hRP
        have RZ := Lib.hid hRZ
        have BB := Lib.hid hBB
        have HP := Lib.hid hP
        clear hRP hRZ hBB hP
        by_cases hlk : k < xn
        · have hki : (k : Int) < (xn : Int) := by omega
          obtain ⟨rb, ro, rfl, hrb, hrc⟩ := (HROW.out _ BB.out).cells (by omega)
          have c1 := hrc k hlk
          have hkl : k < ln X i := by rw [HLN.out]; exact hlk
          have hge := (HGD.out i hilX.out).2 k hkl
          obtain ⟨r, hr⟩ : ∃ r, r = (k + 1) % xn := ⟨_, rfl⟩
          have hrl : r < xn := by rw [hr]; exact Nat.mod_lt _ (by omega)
          have hge2 := (HGD.out i hilX.out).2 r (by rw [HLN.out]; exact hrl)
          have c2 := hrc r hrl
          have HG3 := Lib.hid (HGD.out.to hilX.out (by omega : k + 1 ≤ ln X i))
          obtain ⟨v, hv⟩ : ∃ v, v = xs.getD k 0 := ⟨_, rfl⟩
          rw [← hv] at c1
          have HV : Hid (el X i k = v) := Lib.hid (by rw [HEL.out k, hv])
          obtain ⟨y, hy⟩ : ∃ y, y = xs.getD r 0 := ⟨_, rfl⟩
          rw [← hy] at c2
          have HY : Hid (el X i r = y) := Lib.hid (by rw [HEL.out r, hy])
          have hv0 := hge.1
          have hv1 := hge.2.1
          have hy0 := hge2.1
          have hy1 := hge2.2.1
          rw [HV.out] at hv0 hv1
          rw [HY.out] at hy0 hy1
          obtain ⟨u, rfl⟩ : ∃ u : Nat, v = u := ⟨v.toNat, by omega⟩
          have hu8 : u < 8 := by omega
          have HS := Lib.hid (HP.out.step HG3.out u HV.out hu8)
          rw [HLN.out, ← hr, HY.out] at HS
          have HT : ((k : Int) + 1).tmod (xn : Int) = (r : Int) := by
            rw [show (k : Int) + 1 = ((k + 1 : Nat) : Int) from by omega, hr]
            rfl
          have hwr : IntKind.i64.wrap ((k : Int) + 1) = (k : Int) + 1 := IntWalk.i64_in _ (by omega)
          have hwq : IntKind.i64.wrap (r : Int) = (r : Int) := IntWalk.i64_in _ (by omega)
          have hwu : IntKind.u8.wrap y = y := IntWalk.u8_in _ (by omega)
          have hxz : ¬ ((xn : Int) = 0) := by omega
          have hri : (r : Int) < (xn : Int) := by omega
          have hui : (u : Int) < 8 := by omega
          clear hrc hv hy hkl hge hge2 hv0 hr
          have cp := RP.out.cell u hu8
          have fp := RP.out.free u hu8
          have zp := RP.out.lt
          go_wp2
          go_roundw
          case rel =>
            exact ⟨k + 1, by omega, by go_num, ⟨_, RP.out.store u hu8 y, HS.out⟩, RZ.out.setCell (by first | (simp; done) | (simp; omega)) _, BB.out.setCell (by first | (simp; done) | (simp; omega)) _⟩
          case measure => first | (simp [intOf]; done) | (simp [intOf]; omega)
        · have hkn : k = xn := by omega
          subst hkn
          have HP2 := HP.out
          rw [← HLN.out] at HP2
          have P3 := Lib.hid HP2.next
          clear HP2
          go_wp2
          go_roundw
          case rel => exact ⟨i + 1, by omega, by go_num, ⟨P, RP.out, P3.out⟩, RZ.out, BB.out⟩
          case measure => first | (simp [intOf]; done) | (simp [intOf]; omega)
    · have him : i = m := by omega
      subst him
      have E : Hid (P = madeR n (leastOf X)) := Lib.hid (by have h := HP.out; rw [← HXL.out] at h; exact h.is h8 HGD.out)
      rw [E.out] at RP
      have hlm : Hid ((madeR n (leastOf X)).length = 8) := Lib.hid (mapR_len _ _ h8)
      obtain ⟨⟨c0, c1, c2, c3⟩, c4, c5, c6, c7⟩ := RP.out.all
      obtain ⟨⟨d0, d1, d2, d3⟩, d4, d5, d6, d7⟩ := RZ.out.all
      obtain ⟨⟨f0, f1, f2, f3⟩, f4, f5, f6, f7⟩ := RZ.out.frees
      have zq := RZ.out.lt
      go_wp2
      obtain ⟨⟨e0, e1, e2, e3⟩, e4, e5, e6, e7⟩ := (RZ.out.fill (madeR n (leastOf X)) hlm.out).all
      refine bodyPost_ret (v := arr8 .u8 (madeR n (leastOf X))) (by simp [results, Try.results74, go_sem, e0, e1, e2, e3, e4, e5, e6, e7]) rfl ⟨rfl, ?_⟩
      exact below_fill8 BB.out _ (by omega) _ _ _ _ _ _ _ _

end Go.Proofs.Ythelncibpoijoaa
