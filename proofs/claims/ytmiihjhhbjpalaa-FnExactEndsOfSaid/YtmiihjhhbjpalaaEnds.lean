/- Where the strands end: the model's answer. -/
import Derived.Test.YtmiihjhhbjpalaaPerm
import Derived.Maps.AppendAt
namespace Go.Proofs.Ytmiihjhhbjpalaa
open Go.RowKit Go.ChangeShapes

/-- A braid's number of strands as a natural number, and its letters' bounds. -/
theorem braid_nat {s : Int} {xs : List Int} (h : isBraid s xs = true) : ∃ k : Nat, s = k ∧ 1 ≤ k ∧ k ≤ 8 ∧ Letts k xs := by
  obtain ⟨h1, h2, _, h3⟩ := (isBraid_iff s xs).1 h
  obtain ⟨k, rfl⟩ : ∃ k : Nat, s = k := ⟨s.toNat, by omega⟩
  exact ⟨k, rfl, by omega, by omega, h3⟩

/-- The model's starting order and the program's lead to the same ends. -/
theorem ends_same (k : Nat) (xs : List Int) (h8 : k ≤ 8) (hx : Letts k xs) : (ends 8 (run8 (startM k) xs) k).take k = ends k (run8 order8 xs) k := by
  rw [ends_take k _ k h8]
  refine ends_congr k _ _ k k (Nat.le_refl _) ?_
  exact run8_agree k _ _ xs (start_agree k h8) (by rw [startM_len k h8]; exact h8) (by exact h8) hx

theorem Row8.grown {w w' : World} {g : Nat} {k : IntKind} {l : List Int} {row : Option Nat} (h : Row8 w g k l) (hg : w.grownBy w' row) (hr : row ≠ some g) : Row8 w' g k l := h.heap hg.size (hg.block g h.lt (Ne.symm hr))

set_option maxHeartbeats 4000000 in
theorem specEnds_any {s : Int} {a : Option Addr} {n cap : Nat} {xs : List Int} {w : World} {fxs : List Int} {fc : Int} (hr : Reads w a n xs) (hf : Fits xs) (hn : n ≤ 1048576) (hM : mEnds s xs = (fxs, fc)) :
    Calls Try.prog 38 #[.agg #[.int .i64 s, .slice a n cap]] w (RetInts w fxs fc) := by
  obtain ⟨i0, hi, hz0, hz1, hz2⟩ := info_parts infoInt
  have R := Lib.hid hr; clear hr
  have HF := Lib.hid hf; clear hf
  by_cases hbr : isBraid s xs = true
  · simp only [mEnds, if_pos hbr, Prod.mk.injEq] at hM
    obtain ⟨rfl, rfl⟩ := hM
    obtain ⟨k, rfl, k1, k8, hx⟩ := braid_nat hbr
    rw [Int.toNat_natCast, ← ends_same k xs k8 hx]
    have elen : (ends 8 (run8 (startM k) xs) k).length = 8 := ends_len _ _ _
    have ebd := ends_bd 8 (run8 (startM k) xs) k k8
    have C1 := fun W (hR : Reads W a n xs) => l01Perm_any k k8 a n cap xs W hR hx hn
    have HX := Lib.hid hx
    clear hx
    obtain ⟨E, hE⟩ : ∃ E, E = ends 8 (run8 (startM k) xs) k := ⟨_, rfl⟩
    rw [← hE] at C1 elen ebd ⊢
    have K1 := Lib.hid C1
    have EL := Lib.hid elen
    have EB := Lib.hid ebd
    clear C1 elen ebd hE
    go_enter Try.func38, Try.ntmps38
    go_wp2_with fail
    refine (l01Is_any _ _ _ _ xs _ (R.out.alloc _) HF.out hn).mono ?_
    rintro e w1 ⟨rfl, hb⟩
    have A1 := Lib.hid ((At2.new w (.int .i64 k) (.slice a n cap) 27).below hb)
    obtain ⟨q1, q2, q3, q4, q5⟩ := A1.out
    have R1 := Lib.hid ((R.out.alloc (.cells #[.int .i64 k, .slice a n cap] 27)).below hb)
    have BB := Lib.hid (below_go (below1 w _) hb (by simp)); clear hb
    go_wp2_with (go_at_call 68; refine (K1.out _ R1.out).mono ?_; rintro e w2 ⟨rfl, hb⟩)
    replace BB := Lib.hid (below_go BB.out hb (by omega))
    replace A1 := Lib.hid (A1.out.below hb)
    clear hb
    clear q1 q2 q3 q4 q5
    obtain ⟨q1, q2, q3, q4, q5⟩ := A1.out
    go_wp2
    have z2 := BB.out.size
    have E0 := Lib.hid ((Row8.place (w2.alloc (.cells #[] 2)) .u8 E 62 (w2.heap.size + 1) (by simp) EL.out))
    have B0 := Lib.hid (below2 w2 (.cells #[] 2) (.cells #[.int .u8 (at8 E 0), .int .u8 (at8 E 1), .int .u8 (at8 E 2), .int .u8 (at8 E 3), .int .u8 (at8 E 4), .int .u8 (at8 E 5), .int .u8 (at8 E 6), .int .u8 (at8 E 7)] 62))
    clear q1 q2 q3 q4 q5
    go_loopw [5, 6] (fun v i wr => ∃ j : Nat, j ≤ k ∧ i = .int .i64 j ∧ OwnV w2.heap.size wr v j (E.take j) ∧ v.ownBlock ≠ some (w2.heap.size + 1) ∧ Row8 wr (w2.heap.size + 1) .u8 E ∧ Below w2.heap.size w2 wr) (fun _ i _ => k - (intOf i).toNat)
    case atStart => exact ⟨0, Nat.zero_le _, rfl, World.ownsRow.alloc (OwnV.empty w2) _, by simp [Value.ownBlock], E0.out, B0.out⟩
    case round =>
      obtain ⟨j, hj, rfl, ho, hne, hrow, hbl⟩ := hrel
      clear E0 B0
      have HA := Lib.hid (A1.out.heap hbl.size (hbl.block _ (by have := A1.out.1; omega)))
      obtain ⟨q1, q2, q3, q4, q5⟩ := HA.out
      have HO := Lib.hid ho; clear ho
      have HROW := Lib.hid hrow; clear hrow
      have HNE := Lib.hid hne; clear hne
      have HB := Lib.hid hbl; clear hbl
      by_cases hlt : j < k
      · have hz : w2.heap.size ≤ wr.heap.size := HB.out.size
        have c1 := HROW.out.cell j (by omega)
        obtain ⟨b1, b2⟩ := EB.out j
        have st := take_snoc E j (by rw [EL.out]; omega)
        obtain ⟨x, hx⟩ : ∃ x, x = at8 E j := ⟨_, rfl⟩
        have st2 : E.take (j + 1) = E.take j ++ [x] := by rw [hx]; exact st
        rw [← hx] at c1 b1 b2
        have ST := Lib.hid st2
        clear hx st st2
        go_wp2_with (at_builtin; go_loud (refine wpList_append_own_at _ rfl _ _ 22 rfl w2.heap.size 2 i0 (.int .i64 0) 1 8 Try.underlying22 hi hz0 hz1 hz2 rfl (by decide) _ _ _ rfl (World.ownsRow.alloc HO.out _) ⟨wr.heap.size, 0, none⟩ 1 1 [.int .i64 x] rfl rfl (one_new wr x _) (one_cell _) (by unfold maxLen; omega) (by omega) (by simp; omega) ?_))
        intro v' w3 hown' hgrow _ hlies
        have HO' := Lib.hid (OwnV.appended hown')
        have HROW' := Lib.hid ((HROW.out.alloc _).grown hgrow HNE.out)
        have HB' := Lib.hid (below_appended HB.out hz HO.out hgrow)
        have hne' : v'.ownBlock ≠ some (w2.heap.size + 1) := by
          rcases hlies with e | e
          · rw [e]; exact HNE.out
          · rw [e]
            have := HROW.out.lt
            simp
            omega
        have HNE' := Lib.hid hne'
        clear hown' hgrow hlies hne'
        go_wp2
        go_roundw
        case rel => exact ⟨j + 1, by omega, by go_num, by rw [ST.out]; exact HO'.out, HNE'.out, HROW'.out, HB'.out⟩
        case measure => simp [intOf]; omega
      · have hkn : j = k := by omega
        subst hkn
        obtain ⟨a', c', rfl, ho'⟩ := HO.out.form
        have HO2 := Lib.hid ho'
        clear ho'
        go_wp2
        go_ret2
        exact ⟨a', j, c', rfl, by omega, HO2.out.mono z2, below_go BB.out HB.out z2⟩
  · have hb0 : isBraid s xs = false := by simpa using hbr
    simp only [mEnds, if_neg hbr, Prod.mk.injEq] at hM
    obtain ⟨rfl, rfl⟩ := hM
    clear hbr
    go_enter Try.func38, Try.ntmps38
    go_wp2_with (go_at_call 51; refine (l01Is_any _ _ _ _ xs _ (R.out.alloc _) HF.out hn).mono ?_; rintro e w1 ⟨rfl, hb⟩)
    go_ret2
    exact ⟨none, 0, 0, rfl, by omega, Own.nil _ _, below_go (below1 w _) hb (by simp)⟩

end Go.Proofs.Ytmiihjhhbjpalaa
