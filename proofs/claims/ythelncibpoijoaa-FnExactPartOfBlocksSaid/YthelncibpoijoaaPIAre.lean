/- The program: are the lists blocks of a division. -/
import Derived.Test.YthelncibpoijoaaPtS
import Derived.Test.YthelncibpoijoaaPSLst
import Derived.Test.YthelncibpoijoaaPIBlk
import Derived.Test.YthelncibpoijoaaLawSS
import Derived.Deep.DeepCutAuto
namespace Go.Proofs.Ythelncibpoijoaa
open Go.RowKit Go.ChangeShapes

noncomputable def goodB (n : Int) (X : List (List Int)) : Bool := open Classical in decide (Good n X)
theorem goodB_yes {n : Int} {X : List (List Int)} (h : Good n X) : goodB n X = true := by unfold goodB; simpa using h
theorem goodB_no {n : Int} {X : List (List Int)} (h : ¬ Good n X) : goodB n X = false := by unfold goodB; simpa using h
theorem ln_mapI (rs : List RowV) (i : Nat) (h : i < rs.length) : ln (rs.map RowV.xs) i = rs[i].xs.length := by simp [ln, List.getD, h]
theorem el_mapI (rs : List RowV) (i k : Nat) (h : i < rs.length) : el (rs.map RowV.xs) i k = rs[i].xs.getD k 0 := by simp [el, List.getD, h]

set_option maxRecDepth 100000 in
set_option maxHeartbeats 4000000 in
theorem areBlocks_any (n : Nat) (h1 : 1 ≤ n) (h8 : n ≤ 8) (ad : Option Addr) (m cap : Nat) (rs : List RowV) (w : World) (hr : ReadsSS w ad m rs) (hm : m ≤ 1048576) (X : List (List Int)) (hX : X = rs.map RowV.xs) :
    Calls Try.prog 73 #[.slice ad m cap, .int .i64 n] w fun e w' => e = .returned (.bool (goodB n X)) ∧ Below w.heap.size w w' := by
  have HL := Lib.hid hr.1
  have HXL : Hid (X.length = m) := Lib.hid (by rw [hX, List.length_map]; exact hr.1)
  have HX := Lib.hid hX
  have HR := Lib.hid hr
  clear hr hX
  go_enter Try.func73, Try.ntmps73
  have RM := Lib.hid (Bool8.place w 68 w.heap.size (by simp))
  have BB := Lib.hid (below1 w (.cells #[.bool false, .bool false, .bool false, .bool false, .bool false, .bool false, .bool false, .bool false] 68))
  obtain ⟨W, hW⟩ : ∃ W, W = w.alloc (.cells #[.bool false, .bool false, .bool false, .bool false, .bool false, .bool false, .bool false, .bool false] 68) := ⟨_, rfl⟩
  go_wp2
  rw [← hW] at RM BB ⊢
  clear hW
  go_loopw [13] (fun iv wr => ∃ i : Nat, i ≤ m ∧ iv = .int .i64 i ∧ GoodTo (n : Int) X i 0 ∧ (∃ f, Bool8 wr w.heap.size f ∧ ∀ z, z < 8 → (f z = true ↔ Met X i 0 z)) ∧ Below w.heap.size w wr) (fun iv _ => m - (intOf iv).toNat)
  case atStart => exact ⟨0, Nat.zero_le _, rfl, GoodTo.start _ _, ⟨_, RM.out, fun z _ => ⟨fun h => by simp at h, fun h => by
    rcases h with ⟨j, hj, _⟩ | ⟨l, hl, _⟩
    · omega
    · omega⟩⟩, BB.out⟩
  case round =>
    obtain ⟨i, hi, rfl, hG, ⟨f, hRM, hF⟩, hBB⟩ := hrel
    clear RM BB
    have RM := Lib.hid hRM
    have BB := Lib.hid hBB
    have HG := Lib.hid hG
    have HF := Lib.hid hF
    clear hRM hBB hG hF
    by_cases hlt : i < m
    · have hil : i < rs.length := by rw [HL.out]; exact hlt
      obtain ⟨b, off, rfl, hc⟩ := HR.out.2.1.resolve_left (by omega)
      have HH : Hid (∀ W, Below w.heap.size w W → W.cell? ⟨b, off + i, none⟩ = some (.slice rs[i].a rs[i].n rs[i].cap)) := Lib.hid fun W h => (h.cell (World.block_lt_of_cell? _ _ (hc i hil))).trans (hc i hil)
      have hrow := (HR.out.2.2 _ (List.getElem_mem hil)).1
      have hn := (HR.out.2.2 _ (List.getElem_mem hil)).2
      have HEL : Hid (∀ k, el X i k = rs[i].xs.getD k 0) := Lib.hid fun k => by rw [HX.out]; exact el_mapI rs i k hil
      have HLN : Hid (ln X i = rs[i].n) := Lib.hid (by rw [HX.out, ln_mapI rs i hil]; exact hrow.len)
      obtain ⟨x, hx⟩ : ∃ x, x = rs[i] := ⟨_, rfl⟩
      rw [← hx] at HH hrow hn HEL HLN
      have HROW : Hid (∀ W, Below w.heap.size w W → Reads W x.a x.n x.xs) := Lib.hid fun W h => hrow.below h
      clear hc hrow hx
      obtain ⟨xb, xa, xn, xc, xs⟩ := x
      simp only at HH hn HEL HLN HROW
      have c0 := HH.out _ BB.out
      rcases Nat.eq_zero_or_pos xn with rfl | hxp
      · have E : Hid (goodB (n : Int) X = false) := Lib.hid (goodB_no fun h2 => by
          have h3 := (h2 i (by rw [HXL.out]; exact hlt)).1
          rw [HLN.out] at h3
          omega)
        go_wp2
        exact bodyPost_ret (v := .bool false) (by simp [results, Try.results73, go_sem]) rfl ⟨ret_bool E.out.symm, BB.out⟩
      · have hne : ((xn : Int) == 0) = false := by rw [beq_eq_false_iff_ne]; omega
        go_wp2
        go_loopw [8, 22] (fun qv kv wr => ∃ k : Nat, k ≤ xn ∧ kv = .int .i64 k ∧ (∃ q : Int, qv = .int .i64 q ∧ -1 ≤ q ∧ (k = 0 → q = -1) ∧ (0 < k → q = el X i (k - 1))) ∧ GoodTo (n : Int) X i k ∧ (∃ f, Bool8 wr w.heap.size f ∧ ∀ z, z < 8 → (f z = true ↔ Met X i k z)) ∧ Below w.heap.size w wr) (fun _ kv _ => xn - (intOf kv).toNat)
        case atStart => exact ⟨0, Nat.zero_le _, rfl, ⟨-1, rfl, Int.le_refl _, fun _ => rfl, fun h => by omega⟩, HG.out, ⟨f, RM.out, HF.out⟩, BB.out⟩
        case round =>
          obtain ⟨k, hk, rfl, ⟨q, rfl, hq0, hq1, hq2⟩, hG, ⟨f, hRM, hF⟩, hBB⟩ := hrel
          clear RM BB HG HF c0
          have RM := Lib.hid hRM
          have BB := Lib.hid hBB
          have HG := Lib.hid hG
          have HF := Lib.hid hF
          have HQ1 := Lib.hid hq1
          have HQ2 := Lib.hid hq2
          clear hRM hBB hG hF hq1 hq2
          by_cases hlk : k < xn
          · have hki : (k : Int) < (xn : Int) := by omega
            obtain ⟨rb, ro, rfl, hrb, hrc⟩ := (HROW.out _ BB.out).cells (by omega)
            have c1 := hrc k hlk
            obtain ⟨v, hv⟩ : ∃ v, v = xs.getD k 0 := ⟨_, rfl⟩
            rw [← hv] at c1
            have HV : Hid (el X i k = v) := Lib.hid (by rw [HEL.out k, hv])
            have hkl : k < ln X i := by rw [HLN.out]; exact hlk
            have hilX : i < X.length := by rw [HXL.out]; exact hlt
            have HBAD : Hid (¬ GoodE (n : Int) X i k → goodB (n : Int) X = false) := Lib.hid fun h => goodB_no fun h2 => h ((h2 i hilX).2 k hkl)
            clear hrc hv hkl hilX
            by_cases hle : v ≤ q
            · have E := Lib.hid (HBAD.out fun h => by
                rcases Nat.eq_zero_or_pos k with e0 | e0
                · have h3 := h.1
                  have h4 := HQ1.out e0
                  have h5 := HV.out
                  omega
                · have h3 := h.2.2.1 e0
                  have h4 := HQ2.out e0
                  have h5 := HV.out
                  omega)
              go_wp2
              exact bodyPost_ret (v := .bool false) (by simp [results, Try.results73, go_sem]) rfl ⟨ret_bool E.out.symm, BB.out⟩
            · by_cases hge : (n : Int) ≤ v
              · have E := Lib.hid (HBAD.out fun h => by
                  have h3 := h.2.1
                  have h5 := HV.out
                  omega)
                have hlq : q < v := by omega
                go_wp2
                exact bodyPost_ret (v := .bool false) (by simp [results, Try.results73, go_sem]) rfl ⟨ret_bool E.out.symm, BB.out⟩
              · obtain ⟨u, rfl⟩ : ∃ u : Nat, v = u := ⟨v.toNat, by omega⟩
                have hun : (u : Int) < n := by omega
                have hu8 : u < 8 := by omega
                have HP : Hid (0 < k → el X i (k - 1) < el X i k) := Lib.hid fun e0 => by
                  have h4 := HQ2.out e0
                  have h5 := HV.out
                  omega
                have HGI := Lib.hid (goodE_iff HG.out u HV.out HP.out hun)
                have cm := RM.out.cell u hu8
                have fm := RM.out.free u hu8
                have zm := RM.out.lt
                cases hfu : f u with
                | true =>
                  rw [hfu] at cm
                  have E := Lib.hid (HBAD.out fun h => HGI.out.1 h ((HF.out u hu8).1 hfu))
                  clear hfu
                  go_wp2
                  exact bodyPost_ret (v := .bool false) (by simp [results, Try.results73, go_sem]) rfl ⟨ret_bool E.out.symm, BB.out⟩
                | false =>
                  rw [hfu] at cm
                  have HGE : Hid (GoodE (n : Int) X i k) := Lib.hid (HGI.out.2 fun h => by rw [(HF.out u hu8).2 h] at hfu; cases hfu)
                  clear hfu
                  have HG3 := Lib.hid (HG.out.step HGE.out)
                  have HF3 : Hid (∀ z, z < 8 → ((if u = z then true else f z) = true ↔ Met X i (k + 1) z)) := Lib.hid fun z hz => by
                    rw [Met.step X i _ z, HV.out]
                    by_cases e : u = z
                    · rw [if_pos e]; simp [e]
                    · rw [if_neg e, HF.out z hz]
                      constructor
                      · exact fun h => .inr h
                      · rintro (h | h)
                        · exact absurd (by omega) e
                        · exact h
                  go_wp2
                  go_roundw
                  case rel =>
                    exact ⟨k + 1, by omega, by go_num, ⟨u, rfl, by omega, fun h => by omega, fun _ => by rw [Nat.add_sub_cancel]; exact HV.out.symm⟩, HG3.out, ⟨_, RM.out.store u hu8 true, HF3.out⟩, BB.out.setCell (by first | (simp; done) | (simp; omega)) _⟩
                  case measure => first | (simp [intOf]; done) | (simp [intOf]; omega)
          · have hkn : k = xn := by omega
            subst hkn
            have HG2 := HG.out
            have HF2 := HF.out
            rw [← HLN.out] at HG2 HF2
            have G3 := Lib.hid (HG2.next (by rw [HLN.out]; exact hxp))
            have F3 : Hid (∀ z, z < 8 → (f z = true ↔ Met X (i + 1) 0 z)) := Lib.hid fun z hz => (HF2 z hz).trans (Met.next X i z).symm
            clear HG2 HF2
            go_wp2
            go_roundw
            case rel => exact ⟨i + 1, by omega, by go_num, G3.out, ⟨f, RM.out, F3.out⟩, BB.out⟩
            case measure => first | (simp [intOf]; done) | (simp [intOf]; omega)
    · have him : i = m := by omega
      subst him
      have E : Hid (goodB (n : Int) X = true) := Lib.hid (goodB_yes (by have h := HG.out; rw [← HXL.out] at h; exact h.all))
      go_wp2
      exact bodyPost_ret (v := .bool true) (by simp [results, Try.results73, go_sem]) rfl ⟨ret_bool E.out.symm, BB.out⟩

end Go.Proofs.Ythelncibpoijoaa
