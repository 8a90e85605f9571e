/- Burau's matrices over the field: the exported functions of the model and of the program. -/
import Derived.Test.YtelmdfkcclhhjaaBuM
import Derived.Test.YtelmdfkcclhhjaaNum
import Derived.Test.YtelmdfkcclhhjaaIsF
namespace Go.Proofs.Ytelmdfkcclhhjaa
open Go.RowKit Go.ChangeShapes

theorem ret_noneB (w w' : World) (c : Int) (hb : Below w.heap.size w w') : RetSSN w [] c (.returned (.tuple #[.slice none 0 0, .int .i64 c])) w' := ⟨none, 0, [], rfl, rfl, GrowSS.nil _ _, hb⟩

set_option maxRecDepth 100000 in
set_option maxHeartbeats 2000000 in
theorem specBurauModulo_any {s : Int} {a : Option Addr} {n cap : Nat} {ls : List Int} {t : Int} {w : World} {r : List (List Int)} {fc : Int} (hr : Reads w a n ls) (hf : Fits ls) (hn : n ≤ 1048576) (_hs : (Lit.int .i64 s).wf = true) (_hp : (Lit.int .i64 t).wf = true) (hM : mBuM s ls t = (r, fc)) :
    Calls Try.prog 41 #[.agg #[.int .i64 s, .slice a n cap], .int .i64 t] w (RetSSN w r fc) := by
  have HL := Lib.hid hr.len
  have R := Lib.hid (hr.alloc (.cells #[.int .i64 s, .slice a n cap] 28)); clear hr
  have HF := Lib.hid hf; clear hf
  have HM := Lib.hid hM; clear hM
  have A := Lib.hid (At2.new w (.int .i64 s) (.slice a n cap) 28)
  have BB := Lib.hid (below1 w (.cells #[.int .i64 s, .slice a n cap] 28))
  obtain ⟨qA1, qA2, qA3, qA4, qA5⟩ := A.out
  have HC : Hid (∀ W ad c2, Reads W a n ls → Reads W ad 1 [t] → Calls Try.prog 68 #[.agg #[.int .i64 s, .slice a n cap], .int .i64 1, .slice ad 1 c2] W fun e w' => e = .returned (.int .i64 (cdN s ls 1 [t])) ∧ Below W.heap.size W w') := Lib.hid fun W ad c2 h1 h2 => l09Numbers_any s a n cap ls 1 ad 1 c2 [t] W h1 HF.out hn h2 (by omega)
  obtain ⟨cd, hcd⟩ : ∃ cd, cd = cdN s ls 1 [t] := ⟨_, rfl⟩
  rw [← hcd] at HC
  have HCD := Lib.hid hcd; clear hcd
  go_enter Try.func41, Try.ntmps41
  go_wp2_with fail
  have R1 := Lib.hid (R.out.alloc (.cells #[.int .i64 t] 2))
  have A1 := Lib.hid (A.out.alloc (.cells #[.int .i64 t] 2))
  have B1 := Lib.hid (BB.out.alloc (by simp) (.cells #[.int .i64 t] 2))
  have RT : Reads ((w.alloc (.cells #[.int .i64 s, .slice a n cap] 28)).alloc (.cells #[.int .i64 t] 2)) (some ⟨w.heap.size + 1, 0, none⟩) 1 [t] := ⟨rfl, .inr ⟨w.heap.size + 1, 0, rfl, fun j hj => by
    obtain rfl : j = 0 := by omega
    simp⟩⟩
  refine (HC.out _ _ _ R1.out ?_).mono ?_
  · exact RT
  rintro e w2 ⟨rfl, hb⟩
  clear qA1 qA2 qA3 qA4 qA5
  replace R := Lib.hid (R1.out.below hb); replace A := Lib.hid (A1.out.below hb)
  replace BB := Lib.hid (below_go B1.out hb (by simp; omega)); clear hb R1 A1 B1 RT HC
  obtain ⟨qA1, qA2, qA3, qA4, qA5⟩ := A.out
  by_cases h0 : cd = 0
  · subst h0
    have hM := HM.out
    unfold mBuM at hM
    rw [← HCD.out, if_pos rfl] at hM
    obtain ⟨rfl, rfl⟩ := Prod.mk.injEq .. ▸ hM
    have hcd := HCD.out
    unfold cdN at hcd
    split at hcd
    · rename_i hbr
      split at hcd
      · rename_i hun
        obtain ⟨h1, h2, h3, h4⟩ := (isBraid_iff s ls).1 hbr
        obtain ⟨q, rfl⟩ : ∃ q : Nat, s = (q : Int) := ⟨s.toNat, by omega⟩
        have ht : 0 < t ∧ t < 10007 := by
          have := hun.1
          simp [unitsOk, inB] at this
          omega
        have HLN : Hid (LetN q ls) := Lib.hid fun i hi => by
          have := h4 _ (getD_mem ls i hi)
          obtain ⟨e1, e2, e3⟩ := this
          exact ⟨e1, by omega, by omega⟩
        have hn2 : n ≤ 200 := by rw [← HL.out]; omega
        have hq8 : q ≤ 8 := by omega
        have hq1 : 1 ≤ q := by omega
        have zb := BB.out.size
        have HT := Lib.hid ht
        clear hM hcd hbr hun h1 h2 h3 h4 ht HM HCD
        go_wp2_with fail
        refine (l09Burau_any q a n cap ls t w2 hq1 hq8 R.out HLN.out hn2 HT.out).mono ?_
        rintro e w3 ⟨a3, c3, os, rfl, hos, hG, hb⟩
        have BX := Lib.hid (below_go BB.out hb zb)
        have GX := Lib.hid (hG.low zb)
        have OX : Hid (os.map RowV.xs = mkM q q (bprF q t ls ls.length)) := Lib.hid (by rw [hos, HL.out])
        have OL := Lib.hid GX.out.len
        clear hos hG hb
        go_wp2
        go_ret2
        rw [Int.toNat_natCast]
        exact ⟨a3, c3, os, by rw [OL.out]; rfl, OX.out, by rw [OL.out]; exact GX.out, BX.out⟩
      · omega
    · omega
  · have hM := HM.out
    unfold mBuM at hM
    rw [← HCD.out, if_neg h0] at hM
    obtain ⟨rfl, rfl⟩ := Prod.mk.injEq .. ▸ hM
    have t1 : (cd != 0) = true := by simp [h0]
    clear hM HM HCD
    go_wp2
    go_ret2
    exact ret_noneB _ _ _ BB.out

theorem isUnit_any (x : Int) (w : World) : Calls Try.prog 73 #[.int .i64 x] w fun e w' => e = .returned (.bool (inB x 1 10006)) ∧ w = w' := by
  cases hb : inB x 0 10006 with
  | false =>
    have HC : Hid (inB x 1 10006 = false) := Lib.hid (by unfold inB at hb ⊢; simp at hb ⊢; omega)
    have HB := Lib.hid hb; clear hb
    go_enter Try.func73, Try.ntmps73
    go_wp2_with fail
    refine (isResidue_any x _).mono ?_
    rw [HB.out]
    rintro e w1 ⟨rfl, rfl⟩
    go_wp2
    go_ret
    exact ⟨by rw [HC.out]; rfl, rfl⟩
  | true =>
    have HB := Lib.hid hb
    by_cases h0 : x = 0
    · have HC : Hid (inB x 1 10006 = false) := Lib.hid (by rw [h0]; decide)
      have t0 : (x != 0) = false := by simp [h0]
      clear hb h0
      go_enter Try.func73, Try.ntmps73
      go_wp2_with fail
      refine (isResidue_any x _).mono ?_
      rw [HB.out]
      rintro e w1 ⟨rfl, rfl⟩
      go_wp2
      go_ret
      exact ⟨by rw [HC.out]; rfl, rfl⟩
    · have HC : Hid (inB x 1 10006 = true) := Lib.hid (by unfold inB at hb ⊢; simp at hb ⊢; omega)
      have t0 : (x != 0) = true := by simp [h0]
      clear hb h0
      go_enter Try.func73, Try.ntmps73
      go_wp2_with fail
      refine (isResidue_any x _).mono ?_
      rw [HB.out]
      rintro e w1 ⟨rfl, rfl⟩
      go_wp2
      go_ret
      exact ⟨by rw [HC.out]; rfl, rfl⟩

theorem enter_bur1 (args : Array Value) (W : World) : Sem.run Try.prog (callFunc 75 args) W = .ok (.enter 75 args) W := by kernel_rfl

theorem bur1_any (d n : Nat) (t : Int) (g : Nat) (a : Option Addr) (m cap : Nat) (w : World) (hA : At2 w g (.int .i64 n) (.slice a m cap)) (hT : w.cell? ⟨g + 1, 0, none⟩ = some (.int .i64 t)) (hd : d + 1 < n) (hn : n ≤ 8) (ht : 0 < t ∧ t < 10007) :
    Calls Try.prog 75 (#[.int .i64 ((d : Int) + 1)] ++ #[.pointer (some ⟨g, 0, none⟩), .pointer (some ⟨g + 1, 0, none⟩)]) w (RetMxC w n n (burF t d)) := by
  obtain ⟨qA1, qA2, qA3, qA4, qA5⟩ := hA
  show Calls Try.prog 75 #[.int .i64 ((d : Int) + 1), .pointer (some ⟨g, 0, none⟩), .pointer (some ⟨g + 1, 0, none⟩)] w (RetMxC w n n (burF t d))
  have HT := Lib.hid ht
  clear ht
  go_enter Try.func75, Try.ntmps75
  go_wp2_with fail
  refine (burauLetter_any d n t w hd hn HT.out).mono ?_
  rintro e w1 ⟨g1, b, s, c, cp, rfl, hcp, hO, hb⟩
  have OO := Lib.hid hO; have BB := Lib.hid hb
  clear hO hb
  go_wp2
  go_ret
  exact ⟨g1, b, s, c, cp, rfl, hcp, OO.out, BB.out⟩

set_option maxRecDepth 100000 in
set_option maxHeartbeats 2000000 in
theorem implBurauModulo_any {s : Int} {a : Option Addr} {n cap : Nat} {ls : List Int} {t : Int} {w : World} {r : List (List Int)} {fc : Int} (hr : Reads w a n ls) (_hf : Fits ls) (hn : n ≤ 1048576) (_hs : (Lit.int .i64 s).wf = true) (_hp : (Lit.int .i64 t).wf = true) (hM : mBuM s ls t = (r, fc)) :
    Calls Try.prog 42 #[.agg #[.int .i64 s, .slice a n cap], .int .i64 t] w (RetSSN w r fc) := by
  have HL := Lib.hid hr.len
  have R := Lib.hid ((hr.alloc (.cells #[.int .i64 s, .slice a n cap] 28)).alloc (.cells #[.int .i64 t] 2)); clear hr
  have HM := Lib.hid hM; clear hM
  have A := Lib.hid ((At2.new w (.int .i64 s) (.slice a n cap) 28).alloc (.cells #[.int .i64 t] 2))
  have BB := Lib.hid ((below1 w (.cells #[.int .i64 s, .slice a n cap] 28)).alloc (by simp) (.cells #[.int .i64 t] 2))
  go_enter Try.func42, Try.ntmps42
  go_wp2_with fail
  refine (implIsBraid_any s a n cap ls _ R.out hn).mono ?_
  rintro e w1 ⟨rfl, hb⟩
  have T0 : ((w.alloc (.cells #[.int .i64 s, .slice a n cap] 28)).alloc (.cells #[.int .i64 t] 2)).cell? ⟨w.heap.size + 1, 0, none⟩ = some (.int .i64 t) := by simp
  have T := (hb.cell (p := ⟨w.heap.size + 1, 0, none⟩) (by simp)).trans T0
  replace R := Lib.hid (R.out.below hb); replace A := Lib.hid (A.out.below hb)
  replace BB := Lib.hid (below_go BB.out hb (by simp; omega)); clear hb T0
  obtain ⟨qA1, qA2, qA3, qA4, qA5⟩ := A.out
  cases hbr : isBraid s ls with
  | false =>
    have hM := HM.out
    have hcd : cdN s ls 1 [t] = 1 := by unfold cdN; rw [hbr]; rfl
    unfold mBuM at hM
    rw [hcd, if_neg (by decide)] at hM
    obtain ⟨rfl, rfl⟩ := Prod.mk.injEq .. ▸ hM
    clear hM hcd HM hbr
    go_wp2
    go_ret2
    exact ret_noneB _ _ _ BB.out
  | true =>
    go_wp2_with fail
    refine (isUnit_any t _).mono ?_
    rintro e w2 ⟨rfl, rfl⟩
    cases hun : inB t 1 10006 with
    | false =>
      have hM := HM.out
      have hcd : cdN s ls 1 [t] = 2 := by unfold cdN unitsOk; rw [hbr]; simp [hun]
      unfold mBuM at hM
      rw [hcd, if_neg (by decide)] at hM
      obtain ⟨rfl, rfl⟩ := Prod.mk.injEq .. ▸ hM
      clear hM hcd HM hbr hun
      go_wp2
      go_ret2
      exact ret_noneB _ _ _ BB.out
    | true =>
      obtain ⟨h1, h2, h3, h4⟩ := (isBraid_iff s ls).1 hbr
      have hM := HM.out
      have hcd : cdN s ls 1 [t] = 0 := by unfold cdN unitsOk; rw [hbr]; simp [hun]; omega
      unfold mBuM at hM
      rw [hcd, if_pos rfl] at hM
      obtain ⟨rfl, rfl⟩ := Prod.mk.injEq .. ▸ hM
      obtain ⟨q, rfl⟩ : ∃ q : Nat, s = (q : Int) := ⟨s.toNat, by omega⟩
      have ht : 0 < t ∧ t < 10007 := by
        unfold inB at hun
        simp at hun
        omega
      have HLN : Hid (LetN q ls) := Lib.hid fun i hi => by
        obtain ⟨e1, e2, e3⟩ := h4 _ (getD_mem ls i hi)
        exact ⟨e1, by omega, by omega⟩
      have hn2 : n ≤ 200 := by rw [← HL.out]; omega
      have hq8 : q ≤ 8 := by omega
      have hq1 : 1 ≤ q := by omega
      have zb := BB.out.size
      have HT := Lib.hid ht
      have HF := Lib.hid (fun (d : Nat) (V : World) (hd : d + 1 < q) (hV : Below w1.heap.size w1 V) => bur1_any d q t w.heap.size a n cap V (A.out.below hV) ((hV.cell (p := ⟨w.heap.size + 1, 0, none⟩) (World.block_lt_of_cell? _ _ T)).trans T) hd hq8 HT.out)
      clear hM hcd HM hbr hun h1 h2 h3 h4 ht
      go_wp2_with fail
      refine (matrixOfLetters_any 75 _ (burF t) q q n cap a ls w1 R.out HLN.out hn2 hq1 (by omega) (by omega) (fun d => burF_rem HT.out) (fun d hd => bur_ends hd HT.out) enter_bur1 HF.out).mono ?_
      rintro e w3 ⟨v, rfl, hV, hb⟩
      obtain ⟨g3, b3, s3, c3, k3, rfl, h3⟩ := hV
      have BX := Lib.hid (below_go BB.out hb zb)
      have zx := BX.out.size
      have HR := Lib.hid (show RMx w3 g3 q (fun _ => q) b3 s3 c3 (bprF q t ls n) by rw [prF_bpr] at h3; exact h3)
      clear h3 hb
      go_wp2_with fail
      refine (numbers_any g3 q q k3 b3 s3 c3 (bprF q t ls n) w3 HR.out (by omega) (by omega) (bprF_rem q t ls n)).mono ?_
      rintro e w5 ⟨ax, cd, os, rfl, hos, hG, hb⟩
      have BY := Lib.hid (below_go BX.out hb zx)
      have GX := Lib.hid (hG.low zx)
      have OX : Hid (os.map RowV.xs = mkM q q (bprF q t ls ls.length)) := Lib.hid (by rw [hos, HL.out])
      have OL := Lib.hid GX.out.len
      clear hos hG hb
      go_wp2
      go_ret2
      rw [Int.toNat_natCast]
      exact ⟨ax, cd, os, by rw [OL.out]; rfl, OX.out, by rw [OL.out]; exact GX.out, BY.out⟩

end Go.Proofs.Ytelmdfkcclhhjaa
