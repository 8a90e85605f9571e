/- The model: the part with some blocks. -/
import Derived.Test.YthelncibpoijoaaPtS
import Derived.Test.YthelncibpoijoaaPSCrs
import Derived.Test.YthelncibpoijoaaLawSS
import Derived.Deep.DeepCutAuto
namespace Go.Proofs.Ythelncibpoijoaa
open Go.RowKit Go.ChangeShapes

theorem ln_map (rs : List RowV) (i : Nat) (h : i < rs.length) : ln (rs.map RowV.xs) i = rs[i].xs.length := by simp [ln, List.getD, h]
theorem el_map (rs : List RowV) (i k : Nat) (h : i < rs.length) : el (rs.map RowV.xs) i k = rs[i].xs.getD k 0 := by simp [el, List.getD, h]

theorem mParts_no {n : Int} {X : List (List Int)} (h : ¬ ((1 ≤ n ∧ n ≤ 8) ∧ Good n X)) : mPartsOf n X = ([0, 0, 0, 0, 0, 0, 0, 0], 2) := by
  unfold mPartsOf
  rw [if_neg h]

theorem mParts_cross {n : Nat} {X : List (List Int)} (h1 : 1 ≤ n) (h8 : n ≤ 8) (hg : Good n X) (hc : crN (nx (leastOf X)) n = true) : mPartsOf n X = ([0, 0, 0, 0, 0, 0, 0, 0], 1) := by
  unfold mPartsOf
  rw [if_pos ⟨by omega, hg⟩, Int.toNat_natCast, if_pos hc]

theorem mParts_yes {n : Nat} {X : List (List Int)} (h1 : 1 ≤ n) (h8 : n ≤ 8) (hg : Good n X) (hc : crN (nx (leastOf X)) n = false) : mPartsOf n X = (madeR n (leastOf X), 0) := by
  unfold mPartsOf
  rw [if_pos ⟨by omega, hg⟩, Int.toNat_natCast, if_neg (by rw [hc]; simp)]

set_option maxRecDepth 100000 in
set_option maxHeartbeats 1000000 in
theorem specPartOfBlocks_no (n : Int) (h : ¬ (1 ≤ n ∧ n ≤ 8)) (ad : Option Addr) (m cap : Nat) (X : List (List Int)) (w : World) :
    Calls Try.prog 35 #[.slice ad m cap, .int .i64 n] w fun e w' => e = .returned (.tuple #[arr8 .u8 (mPartsOf n X).1, .int .i64 (mPartsOf n X).2]) ∧ Below w.heap.size w w' := by
  have HNO := Lib.hid (mParts_no (X := X) fun h2 => h h2.1)
  have HIN := Lib.hid ((inB_not n 1 8).2 (by omega))
  clear h
  go_enter Try.func35, Try.ntmps35
  have RZ := Lib.hid (Row8.zeros w .u8 24 w.heap.size rfl)
  have BB := Lib.hid (below1 w (.cells #[.int .u8 0, .int .u8 0, .int .u8 0, .int .u8 0, .int .u8 0, .int .u8 0, .int .u8 0, .int .u8 0] 24))
  go_wp2_with fail
  refine (l01In_any _ _ _ _).mono ?_
  rw [HIN.out]
  rintro e w' ⟨rfl, rfl⟩
  obtain ⟨W, hW⟩ : ∃ W, W = w.alloc (.cells #[.int .u8 0, .int .u8 0, .int .u8 0, .int .u8 0, .int .u8 0, .int .u8 0, .int .u8 0, .int .u8 0] 24) := ⟨_, rfl⟩
  rw [← hW] at RZ BB ⊢
  clear hW
  obtain ⟨⟨d0, d1, d2, d3⟩, d4, d5, d6, d7⟩ := RZ.out.all
  obtain ⟨⟨f0, f1, f2, f3⟩, f4, f5, f6, f7⟩ := RZ.out.frees
  have zq := RZ.out.lt
  go_wp2
  obtain ⟨⟨e0, e1, e2, e3⟩, e4, e5, e6, e7⟩ := RZ.out.fillz
  refine bodyPost_ret (v := .tuple #[arr8 .u8 zeros8, .int .i64 2]) (by simp [results, Try.results35, go_sem, e0, e1, e2, e3, e4, e5, e6, e7, zeros8, at8]) rfl ⟨by rw [HNO.out]; rfl, ?_⟩
  exact below_fill8 BB.out _ (by omega) _ _ _ _ _ _ _ _

set_option maxRecDepth 100000 in
set_option maxHeartbeats 4000000 in
theorem specPartOfBlocks_yes (n : Nat) (h1 : 1 ≤ n) (h8 : n ≤ 8) (ad : Option Addr) (m cap : Nat) (rs : List RowV) (w : World) (hr : ReadsSS w ad m rs) (hm : m ≤ 1048576) (X : List (List Int)) (hX : X = rs.map RowV.xs) :
    Calls Try.prog 35 #[.slice ad m cap, .int .i64 n] w fun e w' => e = .returned (.tuple #[arr8 .u8 (mPartsOf n X).1, .int .i64 (mPartsOf n X).2]) ∧ Below w.heap.size w w' := by
  have HL := Lib.hid hr.1
  have HXL : Hid (X.length = m) := Lib.hid (by rw [hX, List.length_map]; exact hr.1)
  have HX := Lib.hid hX
  have HR := Lib.hid hr
  clear hr hX
  have HIN := Lib.hid ((inB_iff (n : Int) 1 8).2 ⟨by omega, by omega⟩)
  have hwn : IntKind.i64.wrap ((n : Int) - 1) = (n : Int) - 1 := IntWalk.i64_in _ (by omega)
  go_enter Try.func35, Try.ntmps35
  have RZ := Lib.hid (((Row8.zeros w .u8 24 w.heap.size rfl).alloc (.cells #[.int .i64 0, .int .i64 1, .int .i64 2, .int .i64 3, .int .i64 4, .int .i64 5, .int .i64 6, .int .i64 7] 67)).alloc (.cells #[.bool false, .bool false, .bool false, .bool false, .bool false, .bool false, .bool false, .bool false] 68))
  have RL : Hid (Row8 (((w.alloc (.cells #[.int .u8 0, .int .u8 0, .int .u8 0, .int .u8 0, .int .u8 0, .int .u8 0, .int .u8 0, .int .u8 0] 24)).alloc (.cells #[.int .i64 0, .int .i64 1, .int .i64 2, .int .i64 3, .int .i64 4, .int .i64 5, .int .i64 6, .int .i64 7] 67)).alloc (.cells #[.bool false, .bool false, .bool false, .bool false, .bool false, .bool false, .bool false, .bool false] 68)) (w.heap.size + 1) .i64 [0, 1, 2, 3, 4, 5, 6, 7]) := Lib.hid ((Row8.place (w.alloc (.cells #[.int .u8 0, .int .u8 0, .int .u8 0, .int .u8 0, .int .u8 0, .int .u8 0, .int .u8 0, .int .u8 0] 24)) .i64 [0, 1, 2, 3, 4, 5, 6, 7] 67 (w.heap.size + 1) (by simp) rfl).alloc (.cells #[.bool false, .bool false, .bool false, .bool false, .bool false, .bool false, .bool false, .bool false] 68))
  have RM := Lib.hid (Bool8.place ((w.alloc (.cells #[.int .u8 0, .int .u8 0, .int .u8 0, .int .u8 0, .int .u8 0, .int .u8 0, .int .u8 0, .int .u8 0] 24)).alloc (.cells #[.int .i64 0, .int .i64 1, .int .i64 2, .int .i64 3, .int .i64 4, .int .i64 5, .int .i64 6, .int .i64 7] 67)) 68 (w.heap.size + 1 + 1) (by simp))
  have BB := Lib.hid (below3 w (.cells #[.int .u8 0, .int .u8 0, .int .u8 0, .int .u8 0, .int .u8 0, .int .u8 0, .int .u8 0, .int .u8 0] 24) (.cells #[.int .i64 0, .int .i64 1, .int .i64 2, .int .i64 3, .int .i64 4, .int .i64 5, .int .i64 6, .int .i64 7] 67) (.cells #[.bool false, .bool false, .bool false, .bool false, .bool false, .bool false, .bool false, .bool false] 68))
  go_wp2_with fail
  refine (l01In_any _ _ _ _).mono ?_
  rw [HIN.out]
  rintro e w' ⟨rfl, rfl⟩
  obtain ⟨W, hW⟩ : ∃ W, W = (((w.alloc (.cells #[.int .u8 0, .int .u8 0, .int .u8 0, .int .u8 0, .int .u8 0, .int .u8 0, .int .u8 0, .int .u8 0] 24)).alloc (.cells #[.int .i64 0, .int .i64 1, .int .i64 2, .int .i64 3, .int .i64 4, .int .i64 5, .int .i64 6, .int .i64 7] 67)).alloc (.cells #[.bool false, .bool false, .bool false, .bool false, .bool false, .bool false, .bool false, .bool false] 68)) := ⟨_, rfl⟩
  go_wp2
  rw [← hW] at RZ RL RM BB ⊢
  clear hW
  go_loopw [8] (fun iv wr => ∃ i : Nat, i ≤ m ∧ iv = .int .i64 i ∧ GoodTo (n : Int) X i 0 ∧ (∃ L, Row8 wr (w.heap.size + 1) .i64 L ∧ LeastP X i 0 L) ∧ (∃ f, Bool8 wr (w.heap.size + 1 + 1) f ∧ ∀ z, z < 8 → (f z = true ↔ Met X i 0 z)) ∧ Row8 wr w.heap.size .u8 [0, 0, 0, 0, 0, 0, 0, 0] ∧ Below w.heap.size w wr) (fun iv _ => m - (intOf iv).toNat)
  case atStart => exact ⟨0, Nat.zero_le _, rfl, GoodTo.start _ _, ⟨_, RL.out, LeastP.start X⟩, ⟨_, RM.out, fun z _ => ⟨fun h => by simp at h, fun h => by
    rcases h with ⟨j, hj, _⟩ | ⟨l, hl, _⟩
    · omega
    · omega⟩⟩, RZ.out, BB.out⟩
  case round =>
    obtain ⟨i, hi, rfl, hG, ⟨L, hRL, hL⟩, ⟨f, hRM, hF⟩, hRZ, hBB⟩ := hrel
    clear RZ RL RM BB
    have RZ := Lib.hid hRZ
    have RL := Lib.hid hRL
    have RM := Lib.hid hRM
    have BB := Lib.hid hBB
    have HG := Lib.hid hG
    have HLP := Lib.hid hL
    have HF := Lib.hid hF
    clear hRZ hRL hRM hBB hG hL hF
    by_cases hlt : i < m
    · have hil : i < rs.length := by rw [HL.out]; exact hlt
      have RR := HR.out.below BB.out
      obtain ⟨b, off, rfl, hc⟩ := HR.out.2.1.resolve_left (by omega)
      have HH : Hid (∀ W, Below w.heap.size w W → W.cell? ⟨b, off + i, none⟩ = some (.slice rs[i].a rs[i].n rs[i].cap)) := Lib.hid fun W h => (h.cell (World.block_lt_of_cell? _ _ (hc i hil))).trans (hc i hil)
      have hrow := (HR.out.2.2 _ (List.getElem_mem hil)).1
      have hn := (HR.out.2.2 _ (List.getElem_mem hil)).2
      have HEL : Hid (∀ k, el X i k = rs[i].xs.getD k 0) := Lib.hid fun k => by rw [HX.out]; exact el_map rs i k hil
      have HLN : Hid (ln X i = rs[i].n) := Lib.hid (by rw [HX.out, ln_map rs i hil]; exact hrow.len)
      obtain ⟨x, hx⟩ : ∃ x, x = rs[i] := ⟨_, rfl⟩
      rw [← hx] at HH hrow hn HEL HLN
      have HROW : Hid (∀ W, Below w.heap.size w W → Reads W x.a x.n x.xs) := Lib.hid fun W h => hrow.below h
      clear hc hrow hx RR
      obtain ⟨xb, xa, xn, xc, xs⟩ := x
      simp only at HH hn HEL HLN HROW
      go_wp2
      go_loopw [9] (fun kv wr => ∃ k : Nat, k ≤ xn ∧ kv = .int .i64 k ∧ GoodTo (n : Int) X i k ∧ (∃ L, Row8 wr (w.heap.size + 1) .i64 L ∧ LeastP X i k L) ∧ (∃ f, Bool8 wr (w.heap.size + 1 + 1) f ∧ ∀ z, z < 8 → (f z = true ↔ Met X i k z)) ∧ Row8 wr w.heap.size .u8 [0, 0, 0, 0, 0, 0, 0, 0] ∧ Below w.heap.size w wr) (fun kv _ => xn - (intOf kv).toNat)
      case atStart => exact ⟨0, Nat.zero_le _, rfl, HG.out, ⟨L, RL.out, HLP.out⟩, ⟨f, RM.out, HF.out⟩, RZ.out, BB.out⟩
      case round =>
        obtain ⟨k, hk, rfl, hG, ⟨L, hRL, hL⟩, ⟨f, hRM, hF⟩, hRZ, hBB⟩ := hrel
        clear RZ RL RM BB HG HLP HF
        have RZ := Lib.hid hRZ
        have RL := Lib.hid hRL
        have RM := Lib.hid hRM
        have BB := Lib.hid hBB
        have HG := Lib.hid hG
        have HLP := Lib.hid hL
        have HF := Lib.hid hF
        clear hRZ hRL hRM hBB hG hL hF
        have c0 := HH.out _ BB.out
        by_cases hlk : k < xn
        · have hki : (k : Int) < (xn : Int) := by omega
          obtain ⟨rb, ro, rfl, hrb, hrw⟩ := (HROW.out w (Below.refl _ _)).cells (by omega)
          have HQ : Hid (∀ W, Below w.heap.size w W → ∀ j, j < xn → W.cell? ⟨rb, ro + j, none⟩ = some (.int .i64 (xs.getD j 0))) := Lib.hid fun W h j hj => (h.cell hrb).trans (hrw j hj)
          clear hrw
          have hrc := HQ.out _ BB.out
          have c1 := hrc k hlk
          have c2 := hrc 0 (by omega)
          have HC3 : Hid (0 < k → wr.cell? ⟨rb, ro + (k - 1), none⟩ = some (.int .i64 (xs.getD (k - 1) 0))) := Lib.hid fun _ => hrc (k - 1) (by omega)
          rw [Nat.add_zero] at c2
          obtain ⟨v, hv⟩ : ∃ v, v = xs.getD k 0 := ⟨_, rfl⟩
          rw [← hv] at c1
          have HV : Hid (el X i k = v) := Lib.hid (by rw [HEL.out k, hv])
          have H0 : Hid (el X i 0 = xs.getD 0 0) := Lib.hid (HEL.out 0)
          have HP : Hid (el X i (k - 1) = xs.getD (k - 1) 0) := Lib.hid (HEL.out (k - 1))
          have hkl : k < ln X i := by rw [HLN.out]; exact hlk
          have hilX : i < X.length := by rw [HXL.out]; exact hlt
          have HKL := Lib.hid hkl
          have HBAD : Hid (¬ GoodE (n : Int) X i k → mPartsOf n X = ([0, 0, 0, 0, 0, 0, 0, 0], 2)) := Lib.hid fun h => mParts_no fun h2 => h ((h2.2 i hilX).2 k hkl)
          clear hrc hv hkl hilX
          by_cases hrange : 0 ≤ v ∧ v < n
          · obtain ⟨hv0, hvn⟩ := hrange
            have t1 : inB v 0 ((n : Int) - 1) = true := (inB_iff _ _ _).2 ⟨hv0, by omega⟩
            obtain ⟨u, rfl⟩ : ∃ u : Nat, v = u := ⟨v.toNat, by omega⟩
            have hu8 : u < 8 := by omega
            have cm := RM.out.cell u hu8
            have fm := RM.out.free u hu8
            have cl := RL.out.cell u hu8
            have fl := RL.out.free u hu8
            have zm := RM.out.lt
            have zl := RL.out.lt
            cases hfu : f u with
            | true =>
              rw [hfu] at cm
              have HNO : Hid (mPartsOf n X = ([0, 0, 0, 0, 0, 0, 0, 0], 2)) := Lib.hid (HBAD.out fun h => (goodE_iff HG.out u HV.out h.2.2.1 hvn).1 h ((HF.out u hu8).1 hfu))
              clear hfu
              go_wp2_with fail
              refine (l01In_any _ _ _ _).mono ?_
              rw [t1]
              rintro e w' ⟨rfl, rfl⟩
              obtain ⟨⟨d0, d1, d2, d3⟩, d4, d5, d6, d7⟩ := RZ.out.all
              obtain ⟨⟨f0, f1, f2, f3⟩, f4, f5, f6, f7⟩ := RZ.out.frees
              have zq := RZ.out.lt
              go_wp2
              obtain ⟨⟨e0, e1, e2, e3⟩, e4, e5, e6, e7⟩ := RZ.out.fillz
              refine bodyPost_ret (v := .tuple #[arr8 .u8 zeros8, .int .i64 2]) (by simp [results, Try.results35, go_sem, e0, e1, e2, e3, e4, e5, e6, e7, zeros8, at8]) rfl ⟨by rw [HNO.out]; rfl, ?_⟩
              exact below_fill8 BB.out _ (by omega) _ _ _ _ _ _ _ _
            | false =>
              rw [hfu] at cm
              have HNM : Hid (¬ Met X i k u) := Lib.hid fun h => by rw [(HF.out u hu8).2 h] at hfu; cases hfu
              clear hfu
              rcases Nat.eq_zero_or_pos k with rfl | hkp
              · have HGE : Hid (GoodE (n : Int) X i 0) := Lib.hid ((goodE_iff HG.out u HV.out (fun h => by omega) hvn).2 HNM.out)
                have HG3 := Lib.hid (HG.out.step HGE.out)
                have HL3 := Lib.hid (HLP.out.step HG3.out u HV.out hu8)
                rw [H0.out] at HL3
                have HF3 : Hid (∀ z, z < 8 → ((if u = z then true else f z) = true ↔ Met X i (0 + 1) z)) := Lib.hid fun z hz => by
                  rw [Met.step X i _ z, HV.out]
                  by_cases e : u = z
                  · rw [if_pos e]; simp [e]
                  · rw [if_neg e, HF.out z hz]
                    constructor
                    · exact fun h => .inr h
                    · rintro (h | h)
                      · exact absurd (by omega) e
                      · exact h
                rw [show xs.getD 0 0 = (u : Int) from H0.out.symm.trans HV.out] at c2 HL3
                clear c1
                have hnz : (0 : Int) < (xn : Int) := by omega
                have hBm := BB.out.setCell (p := ⟨w.heap.size + 1 + 1, u, none⟩) (by first | (simp; done) | (simp; omega)) (.bool true)
                have c0s := HH.out _ hBm
                have c2s := HQ.out _ hBm 0 (by omega)
                rw [Nat.add_zero, show xs.getD 0 0 = (u : Int) from H0.out.symm.trans HV.out] at c2s
                clear hBm
                go_wp2_with fail
                refine (l01In_any _ _ _ _).mono ?_
                rw [t1]
                rintro e w' ⟨rfl, rfl⟩
                go_wp2
                go_roundw
                case rel =>
                  exact ⟨(0 + 1), by omega, by go_num, HG3.out, ⟨_, (RL.out.setCell (by first | (simp; done) | (simp; omega)) _).store u hu8 (u : Int), HL3.out⟩, ⟨_, (RM.out.store u hu8 true).setCell (by first | (simp; done) | (simp; omega)) _, HF3.out⟩, (RZ.out.setCell (by first | (simp; done) | (simp; omega)) _).setCell (by first | (simp; done) | (simp; omega)) _, (BB.out.setCell (by first | (simp; done) | (simp; omega)) _).setCell (by first | (simp; done) | (simp; omega)) _⟩
                case measure => first | (simp [intOf]; done) | (simp [intOf]; omega)
              · obtain ⟨k, rfl⟩ : ∃ k', k = k' + 1 := ⟨k - 1, by omega⟩
                have c3 := HC3.out (by omega)
                rw [Nat.add_sub_cancel] at c3 HP
                obtain ⟨q, hq⟩ : ∃ q, q = xs.getD k 0 := ⟨_, rfl⟩
                rw [← hq] at c3 HP
                clear hq
                have hwk : IntKind.i64.wrap (((k + 1 : Nat) : Int) - 1) = (k : Int) := by rw [IntWalk.i64_in _ (by omega)]; omega
                have hkpi : (0 : Int) < ((k + 1 : Nat) : Int) := by omega
                by_cases hle : (u : Int) ≤ q
                · have HNO : Hid (mPartsOf n X = ([0, 0, 0, 0, 0, 0, 0, 0], 2)) := Lib.hid (HBAD.out fun h => by
                    have h2 := h.2.2.1 (by omega)
                    rw [Nat.add_sub_cancel, HP.out, HV.out] at h2
                    omega)
                  go_wp2_with fail
                  refine (l01In_any _ _ _ _).mono ?_
                  rw [t1]
                  rintro e w' ⟨rfl, rfl⟩
                  obtain ⟨⟨d0, d1, d2, d3⟩, d4, d5, d6, d7⟩ := RZ.out.all
                  obtain ⟨⟨f0, f1, f2, f3⟩, f4, f5, f6, f7⟩ := RZ.out.frees
                  have zq := RZ.out.lt
                  go_wp2
                  obtain ⟨⟨e0, e1, e2, e3⟩, e4, e5, e6, e7⟩ := RZ.out.fillz
                  refine bodyPost_ret (v := .tuple #[arr8 .u8 zeros8, .int .i64 2]) (by simp [results, Try.results35, go_sem, e0, e1, e2, e3, e4, e5, e6, e7, zeros8, at8]) rfl ⟨by rw [HNO.out]; rfl, ?_⟩
                  exact below_fill8 BB.out _ (by omega) _ _ _ _ _ _ _ _
                · have HGE : Hid (GoodE (n : Int) X i (k + 1)) := Lib.hid ((goodE_iff HG.out u HV.out (fun _ => by rw [Nat.add_sub_cancel, HP.out, HV.out]; omega) hvn).2 HNM.out)
                  have HG3 := Lib.hid (HG.out.step HGE.out)
                  have HL3 := Lib.hid (HLP.out.step HG3.out u HV.out hu8)
                  rw [H0.out] at HL3
                  have HF3 : Hid (∀ z, z < 8 → ((if u = z then true else f z) = true ↔ Met X i (k + 1 + 1) z)) := Lib.hid fun z hz => by
                    rw [Met.step X i _ z, HV.out]
                    by_cases e : u = z
                    · rw [if_pos e]; simp [e]
                    · rw [if_neg e, HF.out z hz]
                      constructor
                      · exact fun h => .inr h
                      · rintro (h | h)
                        · exact absurd (by omega) e
                        · exact h
                  have hBm := BB.out.setCell (p := ⟨w.heap.size + 1 + 1, u, none⟩) (by first | (simp; done) | (simp; omega)) (.bool true)
                  have c0s := HH.out _ hBm
                  have c2s := HQ.out _ hBm 0 (by omega)
                  rw [Nat.add_zero] at c2s
                  clear hBm
                  obtain ⟨y, hy⟩ : ∃ y, y = xs.getD 0 0 := ⟨_, rfl⟩
                  rw [← hy] at c2 c2s HL3
                  clear hy
                  have hnz : (0 : Int) < (xn : Int) := by omega
                  go_wp2_with fail
                  refine (l01In_any _ _ _ _).mono ?_
                  rw [t1]
                  rintro e w' ⟨rfl, rfl⟩
                  go_wp2
                  go_roundw
                  case rel =>
                    exact ⟨(k + 1 + 1), by omega, by go_num, HG3.out, ⟨_, (RL.out.setCell (by first | (simp; done) | (simp; omega)) _).store u hu8 y, HL3.out⟩, ⟨_, (RM.out.store u hu8 true).setCell (by first | (simp; done) | (simp; omega)) _, HF3.out⟩, (RZ.out.setCell (by first | (simp; done) | (simp; omega)) _).setCell (by first | (simp; done) | (simp; omega)) _, (BB.out.setCell (by first | (simp; done) | (simp; omega)) _).setCell (by first | (simp; done) | (simp; omega)) _⟩
                  case measure => first | (simp [intOf]; done) | (simp [intOf]; omega)
          · have t1 : inB v 0 ((n : Int) - 1) = false := (inB_not _ _ _).2 (by omega)
            have HNO : Hid (mPartsOf n X = ([0, 0, 0, 0, 0, 0, 0, 0], 2)) := Lib.hid (HBAD.out fun h => hrange (by have h1 := h.1; have h2 := h.2.1; rw [HV.out] at h1 h2; exact ⟨h1, h2⟩))
            clear hrange
            go_wp2_with fail
            refine (l01In_any _ _ _ _).mono ?_
            rw [t1]
            rintro e w' ⟨rfl, rfl⟩
            obtain ⟨⟨d0, d1, d2, d3⟩, d4, d5, d6, d7⟩ := RZ.out.all
            obtain ⟨⟨f0, f1, f2, f3⟩, f4, f5, f6, f7⟩ := RZ.out.frees
            have zq := RZ.out.lt
            go_wp2
            obtain ⟨⟨e0, e1, e2, e3⟩, e4, e5, e6, e7⟩ := RZ.out.fillz
            refine bodyPost_ret (v := .tuple #[arr8 .u8 zeros8, .int .i64 2]) (by simp [results, Try.results35, go_sem, e0, e1, e2, e3, e4, e5, e6, e7, zeros8, at8]) rfl ⟨by rw [HNO.out]; rfl, ?_⟩
            exact below_fill8 BB.out _ (by omega) _ _ _ _ _ _ _ _
        · have hkn : k = xn := by omega
          subst hkn
          rcases Nat.eq_zero_or_pos k with rfl | hkp
          · have HNO : Hid (mPartsOf n X = ([0, 0, 0, 0, 0, 0, 0, 0], 2)) := Lib.hid (mParts_no fun h2 => by
              have h3 := (h2.2 i (by rw [HXL.out]; exact hlt)).1
              rw [HLN.out] at h3
              omega)
            obtain ⟨⟨d0, d1, d2, d3⟩, d4, d5, d6, d7⟩ := RZ.out.all
            obtain ⟨⟨f0, f1, f2, f3⟩, f4, f5, f6, f7⟩ := RZ.out.frees
            have zq := RZ.out.lt
            go_wp2
            obtain ⟨⟨e0, e1, e2, e3⟩, e4, e5, e6, e7⟩ := RZ.out.fillz
            refine bodyPost_ret (v := .tuple #[arr8 .u8 zeros8, .int .i64 2]) (by simp [results, Try.results35, go_sem, e0, e1, e2, e3, e4, e5, e6, e7, zeros8, at8]) rfl ⟨by rw [HNO.out]; rfl, ?_⟩
            exact below_fill8 BB.out _ (by omega) _ _ _ _ _ _ _ _
          · have hne : ((k : Int) == 0) = false := by rw [beq_eq_false_iff_ne]; omega
            have HG2 := HG.out
            have HLP2 := HLP.out
            have HF2 := HF.out
            rw [← HLN.out] at HG2 HLP2 HF2
            have G3 := Lib.hid (HG2.next (by rw [HLN.out]; exact hkp))
            have L3 := Lib.hid HLP2.next
            have F3 : Hid (∀ z, z < 8 → (f z = true ↔ Met X (i + 1) 0 z)) := Lib.hid fun z hz => (HF2 z hz).trans (Met.next X i z).symm
            clear HG2 HLP2 HF2
            go_wp2
            go_roundw
            case rel => exact ⟨i + 1, by omega, by go_num, G3.out, ⟨L, RL.out, L3.out⟩, ⟨f, RM.out, F3.out⟩, RZ.out, BB.out⟩
            case measure => first | (simp [intOf]; done) | (simp [intOf]; omega)
    · have him : i = m := by omega
      subst him
      have HGD : Hid (Good (n : Int) X) := Lib.hid (by have h := HG.out; rw [← HXL.out] at h; exact h.all)
      have HLE : Hid (L = leastOf X) := Lib.hid (LeastP.is (by have h := HLP.out; rw [← HXL.out] at h; exact h) HGD.out)
      have HBD : Hid (∀ j, j < n → 0 ≤ at8 L j ∧ at8 L j < 8) := Lib.hid (by rw [HLE.out]; exact leastOf_bd h8 HGD.out)
      obtain ⟨r, hr⟩ : ∃ r, r = crN (nx L) n := ⟨_, rfl⟩
      have HRR := Lib.hid hr.symm
      clear hr
      obtain ⟨⟨q0, q1, q2, q3⟩, q4, q5, q6, q7⟩ := RL.out.all
      go_wp2_with fail
      refine (l07Crossing_any n h8 L RL.out.len (fun j hj => (HBD.out j hj).1) _).mono ?_
      rw [HRR.out]
      rintro e w5 ⟨rfl, hb⟩
      clear q0 q1 q2 q3 q4 q5 q6 q7
      replace RZ := Lib.hid (RZ.out.below hb)
      replace RL := Lib.hid (RL.out.below hb)
      replace BB := Lib.hid (below_go BB.out hb BB.out.size)
      clear hb
      cases r with
      | true =>
        have HNO : Hid (mPartsOf n X = ([0, 0, 0, 0, 0, 0, 0, 0], 1)) := Lib.hid (mParts_cross h1 h8 HGD.out (by rw [← HLE.out]; exact HRR.out))
        obtain ⟨⟨d0, d1, d2, d3⟩, d4, d5, d6, d7⟩ := RZ.out.all
        obtain ⟨⟨f0, f1, f2, f3⟩, f4, f5, f6, f7⟩ := RZ.out.frees
        have zq := RZ.out.lt
        go_wp2
        obtain ⟨⟨e0, e1, e2, e3⟩, e4, e5, e6, e7⟩ := RZ.out.fillz
        refine bodyPost_ret (v := .tuple #[arr8 .u8 zeros8, .int .i64 1]) (by simp [results, Try.results35, go_sem, e0, e1, e2, e3, e4, e5, e6, e7, zeros8, at8]) rfl ⟨by rw [HNO.out]; rfl, ?_⟩
        exact below_fill8 BB.out _ (by omega) _ _ _ _ _ _ _ _
      | false =>
        have HYES : Hid (mPartsOf n X = (madeR n L, 0)) := Lib.hid (by rw [mParts_yes h1 h8 HGD.out (by rw [← HLE.out]; exact HRR.out), ← HLE.out])
        obtain ⟨⟨q0, q1, q2, q3⟩, q4, q5, q6, q7⟩ := RL.out.all
        go_wp2_with fail
        refine (l07Made_any n h8 L RL.out.len HBD.out _).mono ?_
        rintro e w6 ⟨rfl, hb⟩
        clear q0 q1 q2 q3 q4 q5 q6 q7
        replace RZ := Lib.hid (RZ.out.below hb)
        replace BB := Lib.hid (below_go BB.out hb BB.out.size)
        clear hb
        obtain ⟨⟨d0, d1, d2, d3⟩, d4, d5, d6, d7⟩ := RZ.out.all
        obtain ⟨⟨f0, f1, f2, f3⟩, f4, f5, f6, f7⟩ := RZ.out.frees
        have zq := RZ.out.lt
        go_wp2
        obtain ⟨⟨e0, e1, e2, e3⟩, e4, e5, e6, e7⟩ := (RZ.out.fill (madeR n L) (mapR_len _ _ h8)).all
        refine bodyPost_ret (v := .tuple #[arr8 .u8 (madeR n L), .int .i64 0]) (by simp [results, Try.results35, go_sem, e0, e1, e2, e3, e4, e5, e6, e7]) rfl ⟨by rw [HYES.out], ?_⟩
        exact below_fill8 BB.out _ (by omega) _ _ _ _ _ _ _ _

end Go.Proofs.Ythelncibpoijoaa
