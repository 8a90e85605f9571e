/- A handle is reduced: the model. -/
import Derived.Test.YtckdhnpnkgmikaaDoorSIdx
import Derived.Test.YtckdhnpnkgmikaaDoorProduct
import Derived.Test.YtckdhnpnkgmikaaDoorFree0
import Derived.Deep.RegionHeld3
import Derived.Deep.DeepCutAuto
namespace Go.Proofs.YtckdhnpnkgmikaaDoor
open Go.RowKit Go.ChangeShapes

theorem Reads.take {w : World} {b off n : Nat} {xs : List Int} (h : Reads w (some ⟨b, off, none⟩) n xs) (p : Nat) (hp : p ≤ n) : Reads w (some ⟨b, off, none⟩) p (xs.take p) := by
  have hl := h.len
  refine ⟨by simp; omega, ?_⟩
  rcases h.2 with h0 | ⟨b', off', ha, hc⟩
  · exact .inl (by omega)
  · cases ha
    refine .inr ⟨b, off, rfl, fun j hj => ?_⟩
    rw [hc j (by omega)]
    simp [List.getD, hj]

/-- Lists of one number and of three that the call makes, read. -/
theorem reads_lit1 (w : World) (x : Int) : Reads (w.alloc (.cells #[.int .i64 x] 2)) (some ⟨w.heap.size, 0, none⟩) 1 [x] := by
  have h : Own w.heap.size (w.alloc (.cells #[.int .i64 x] 2)) (some ⟨w.heap.size, 0, none⟩) 1 1 [x] := World.ownsRow_lit (base := w.heap.size) (size := 1) (e := 2) w #[.int .i64 x] 1 (Nat.le_refl _) (by decide) rfl
  exact h.reads

theorem reads_lit3 (w : World) (x y z : Int) : Reads (w.alloc (.cells #[.int .i64 x, .int .i64 y, .int .i64 z] 2)) (some ⟨w.heap.size, 0, none⟩) 3 [x, y, z] := by
  have h : Own w.heap.size (w.alloc (.cells #[.int .i64 x, .int .i64 y, .int .i64 z] 2)) (some ⟨w.heap.size, 0, none⟩) 3 3 [x, y, z] := World.ownsRow_lit (base := w.heap.size) (size := 1) (e := 2) w #[.int .i64 x, .int .i64 y, .int .i64 z] 3 (Nat.le_refl _) (by decide) rfl
  exact h.reads

theorem OwnV.alloc {B : Nat} {w : World} {v : Value} {n : Nat} {xs : List Int} (h : OwnV B w v n xs) (o : Obj) : OwnV B (w.alloc o) v n xs := World.ownsRow.alloc h o

set_option maxRecDepth 100000 in
set_option maxHeartbeats 1000000 in
theorem l06Step_any (a : Option Addr) (n cap : Nat) (xs : List Int) (p q : Nat) (w : World) (hr : Reads w a n xs) (hx : Lt8 xs) (hn : n ≤ 300000) (hcap : n ≤ cap) (hpq : p < q) (hqn : q < n) (hpx : xs.getD p 0 = -(xs.getD q 0)) :
    Calls Tryd.prog 51 #[.slice a n cap, .int .i64 p, .int .i64 q] w (MadeInts w (stepL xs p q).length (stepL xs p q)) := by
  obtain ⟨i0, hi, hz0, hz1, hz2⟩ := info_parts infoInt
  have HL := Lib.hid hr.len
  have HX := Lib.hid hx; clear hx
  obtain ⟨b, off, rfl, hb, hc⟩ := hr.cells (by omega)
  have HR := Lib.hid hr; clear hr
  have HC := Lib.hid hc; clear hc
  have HPX := Lib.hid hpx; clear hpx
  obtain ⟨x0, x1, x2⟩ := HX.out.at p (by rw [HL.out]; omega)
  have C1 := Lib.hid (HC.out p (by omega))
  obtain ⟨x, hx⟩ : ∃ x, x = xs.getD p 0 := ⟨_, rfl⟩
  rw [← hx] at C1 x0 x1 x2
  have HXE := Lib.hid hx; clear hx
  have BB : Hid (Below w.heap.size w w) := Lib.hid (Below.refl _ _)
  go_enter Tryd.func51, Tryd.ntmps51
  have hpn : p < n := by omega
  have hpc : p ≤ cap := by omega
  go_upto_region 1 with fail
  go_cut [7, 8, 9] from 13 to 22 (fun v i g wx => ∃ oa oc, v = .slice oa p oc ∧ i = .int .i64 (idx x) ∧ g = .int .i64 1 ∧ Own w.heap.size wx oa p oc (xs.take p) ∧ Below w.heap.size w wx)
  case first =>
   replace C1 : Hid (w.drew.cell? ⟨b, off + p, none⟩ = some (.int .i64 x)) := Lib.hid C1.out
   replace BB := Lib.hid BB.out.drew
   go_region_held3 (fun w' => w'.cell? ⟨b, off + p, none⟩ = some (.int .i64 x)) (with_reducible exact C1.out)
    (first
      | (go_at_call 36; refine (l01Own_any _ _ _ (xs.take p) _ ((HR.out.take p (by omega)).below BB.out) (by omega)).mono ?_; rintro e w1 ⟨oa, oc, rfl, ho, g1⟩; have HO := Lib.hid (ho.mono BB.out.size); replace C1 := Lib.hid ((g1.cell (by have := BB.out.size; simp; omega)).trans C1.out); replace BB := Lib.hid (below_go BB.out g1 BB.out.size); clear ho g1)
      | (go_at_call 64; refine (l06Index_any _ _ (by omega) (by omega)).mono ?_; rintro e w' ⟨rfl, rfl⟩))
   all_goals
    go_wp2_with fail
    go_meet
    exact ⟨oa, oc, rfl, rfl, rfl, HO.out, BB.out⟩
  case rest =>
    obtain ⟨w1, hwc⟩ : ∃ x, x = wc := ⟨_, rfl⟩
    subst hwc
    obtain ⟨oa, oc, rfl, rfl, rfl, ho, bb⟩ := hcut
    have HO := Lib.hid ho; clear ho
    clear BB
    have BB := Lib.hid bb; clear bb
    obtain ⟨y0, y1, y2⟩ := HX.out.at q (by rw [HL.out]; exact hqn)
    have hix : idx x = idx (xs.getD q 0) := by rw [HXE.out, HPX.out, idx_neg]
    have ib := idx_bd ⟨x0, x1, x2⟩
    have HCA : Hid (∀ W, Below w.heap.size w W → ∀ j, j < n → W.cell? ⟨b, off + j, none⟩ = some (.int .i64 (xs.getD j 0))) := Lib.hid fun W h j hj => (h.cell hb).trans (HC.out j hj)
    have h2 := HCA.out _ BB.out q hqn
    obtain ⟨y, hy⟩ : ∃ y, y = xs.getD q 0 := ⟨_, rfl⟩
    rw [← hy] at h2 y0 y1 y2 hix
    have HYE := Lib.hid hy; clear hy
    obtain ⟨i, hi2⟩ : ∃ i, i = idx x := ⟨_, rfl⟩
    rw [← hi2] at hix ib ⊢
    have HIX := Lib.hid hix
    obtain ⟨ib1, ib2⟩ := ib
    clear C1 hi2 hix
    have HV0 : Hid (OwnV w.heap.size w1 (.slice oa p oc) p (xs.take p)) := Lib.hid HO.out
    clear HO
    by_cases hneg : y < 0
    all_goals
      have HSG : Hid (sg y = if y < 0 then -1 else 1) := Lib.hid rfl
      first | rw [if_pos hneg] at HSG | rw [if_neg hneg] at HSG
      go_wp2
      go_loopw [7, 10] (fun v i wr => ∃ j : Nat, j ≤ q - p - 1 ∧ i = .int .i64 ((p + 1 + j : Nat) : Int) ∧ (∃ m, OwnV w.heap.size wr v m (xs.take p ++ midL xs p y j)) ∧ Below w.heap.size w wr) (fun _ i _ => q - (intOf i).toNat)
      case atStart => exact ⟨0, Nat.zero_le _, by go_num, ⟨p, by rw [midL_zero, List.append_nil]; exact HV0.out⟩, BB.out⟩
      case round =>
        obtain ⟨j, hj, rfl, ⟨m, ho⟩, bb⟩ := hrel
        clear HV0 BB
        have BB := Lib.hid bb; clear bb
        obtain ⟨av, cv, rfl, _⟩ := ho.form
        have HO := Lib.hid ho; clear ho
        have hml : m ≤ p + 3 * j := by have h1 := HO.out.len; have h2 := midL_len xs p y j; simp at h1; have := HL.out; omega
        have hzs : w.heap.size ≤ wr.heap.size := BB.out.size
        by_cases hlt : p + 1 + j < q
        · have h1 := HCA.out _ BB.out (p + 1 + j) (by omega)
          obtain ⟨z0, z1, z2⟩ := HX.out.at (p + 1 + j) (by rw [HL.out]; omega)
          have hst := midL_succ xs p y j (by rw [HL.out]; omega)
          obtain ⟨z, hz⟩ : ∃ z, z = xs.getD (p + 1 + j) 0 := ⟨_, rfl⟩
          rw [← hz] at h1 z0 z1 z2 hst
          clear hz
          have ST := Lib.hid hst; clear hst
          have hjn : p + 1 + j < n := by omega
          by_cases hzi : idx z = i + 1
          · by_cases hzn : z < 0
            all_goals
             have HSZ : Hid (sg z = if z < 0 then -1 else 1) := Lib.hid rfl
             first | rw [if_pos hzn] at HSZ | rw [if_neg hzn] at HSZ
             have e1 : (idx z != i + 1) = false := by simp [hzi]
             go_wp2_with (first | (go_at_call 64; refine (l06Index_any _ _ (by omega) (by omega)).mono ?_; rintro e w' ⟨rfl, rfl⟩) | (at_builtin; refine wpList_append_ints rfl _ _ 22 rfl w.heap.size i0 Tryd.underlying22 hi hz0 hz1 hz2 _ _ _ rfl (HO.out.alloc _) _ _ _ _ rfl (reads_lit3 _ _ _ _) (by omega) (by simp; omega) ?_))
             intro v' w2 ho' hg
             have HB' := Lib.hid (below_appended BB.out hzs HO.out hg)
             have HO' := Lib.hid ho'; clear ho' hg
             go_wp2
             go_roundw
             case rel =>
               refine ⟨j + 1, by omega, by go_num, ⟨m + 3, ?_⟩, HB'.out⟩
               have e3 : midf y z = [(i + 1) * sg y, i * sg z, -((i + 1) * sg y)] := by unfold midf; rw [← HIX.out, if_pos hzi]
               rw [ST.out, e3, HSG.out, HSZ.out, ← List.append_assoc]
               have := HO'.out
               simpa using this
             case measure => simp [intOf]; omega
          · have e1 : (idx z != i + 1) = true := by simp [hzi]
            go_wp2_with (first | (go_at_call 64; refine (l06Index_any _ _ (by omega) (by omega)).mono ?_; rintro e w' ⟨rfl, rfl⟩) | (at_builtin; refine wpList_append_ints rfl _ _ 22 rfl w.heap.size i0 Tryd.underlying22 hi hz0 hz1 hz2 _ _ _ rfl (HO.out.alloc _) _ _ _ _ rfl (reads_lit1 _ _) (by omega) (by simp; omega) ?_))
            intro v' w2 ho' hg
            have HB' := Lib.hid (below_appended BB.out hzs HO.out hg)
            have HO' := Lib.hid ho'; clear ho' hg
            go_wp2
            go_roundw
            case rel =>
              refine ⟨j + 1, by omega, by go_num, ⟨m + 1, ?_⟩, HB'.out⟩
              have e3 : midf y z = [z] := by unfold midf; rw [← HIX.out, if_neg hzi]
              rw [ST.out, e3, ← List.append_assoc]
              have := HO'.out
              simpa using this
            case measure => simp [intOf]; omega
        · have hjq : j = q - p - 1 := by omega
          have HJ := Lib.hid hjq; clear hjq
          have hlt2 : ¬ (p : Int) + 1 + (j : Int) < (q : Int) := by omega
          have FIN : Hid (stepL xs p q = xs.take p ++ midL xs p y j ++ xs.drop (q + 1)) := Lib.hid (by unfold stepL; rw [← HYE.out, HJ.out])
          have hlen : (stepL xs p q).length = m + (n - (q + 1)) := by
            have h1 := HO.out.len
            rw [FIN.out, List.length_append, h1, List.length_drop, HL.out]
          have HLEN := Lib.hid hlen; clear hlen
          by_cases hce : cap = q + 1
          · have hnq : n = q + 1 := by omega
            subst hce
            have RD : Hid (Reads wr (some ⟨b, off, none⟩) 0 []) := Lib.hid (Reads.zero rfl)
            have FIN2 : Hid (stepL xs p q = xs.take p ++ midL xs p y j) := Lib.hid (by rw [FIN.out, List.drop_eq_nil_of_le (by rw [HL.out]; omega), List.append_nil])
            have HLEN2 : Hid ((stepL xs p q).length = m) := Lib.hid (by rw [HLEN.out]; omega)
            clear hnq
            go_wp2_with (at_builtin; refine wpList_append_ints rfl _ _ 22 rfl w.heap.size i0 Tryd.underlying22 hi hz0 hz1 hz2 _ _ _ rfl HO.out _ _ _ [] rfl RD.out (by omega) hzs ?_)
            intro v' w2 ho' hg
            have HB' := Lib.hid (below_appended5 BB.out hzs HO.out hg)
            obtain ⟨av', cv', rfl, ho2⟩ := ho'.form
            have HO' := Lib.hid ho2; clear ho' hg ho2
            go_wp2
            go_ret
            rw [HLEN2.out, FIN2.out]
            exact ⟨_, _, rfl, by simpa using HO'.out, HB'.out⟩
          · have hce2 : q + 1 < cap := by omega
            have RD : Hid (Reads wr (some ⟨b, off + (q + 1), none⟩) (n - (q + 1)) (xs.drop (q + 1))) := Lib.hid ⟨by simp [HL.out], .inr ⟨b, off + (q + 1), rfl, fun t ht => by
              have := HCA.out _ BB.out (q + 1 + t) (by omega)
              rw [show off + (q + 1) + t = off + (q + 1 + t) by omega, this]
              simp [List.getD, List.getElem?_drop]⟩⟩
            go_wp2_with (at_builtin; refine wpList_append_ints rfl _ _ 22 rfl w.heap.size i0 Tryd.underlying22 hi hz0 hz1 hz2 _ _ _ rfl HO.out _ _ _ (xs.drop (q + 1)) rfl RD.out (by omega) hzs ?_)
            intro v' w2 ho' hg
            have HB' := Lib.hid (below_appended5 BB.out hzs HO.out hg)
            obtain ⟨av', cv', rfl, ho2⟩ := ho'.form
            have HO' := Lib.hid ho2; clear ho' hg ho2
            go_wp2
            go_ret
            rw [HLEN.out, FIN.out, List.append_assoc]
            exact ⟨_, _, rfl, by simpa using HO'.out, HB'.out⟩

end Go.Proofs.YtckdhnpnkgmikaaDoor
