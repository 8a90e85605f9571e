/- Burau's matrices over the field: which braids and numbers have one. -/
import Derived.Test.YtelmdfkcclhhjaaSBur
import Derived.Test.YtelmdfkcclhhjaaBMg
import Derived.Test.YtelmdfkcclhhjaaIs2
namespace Go.Proofs.Ytelmdfkcclhhjaa
open Go.RowKit Go.ChangeShapes

/-- Whether all numbers are units of the field. -/
def unitsOk (ns : List Int) : Bool := ns.all fun x => inB x 1 10006

/-- The code of a braid with numbers. -/
def cdN (s : Int) (ls : List Int) (k : Int) (ns : List Int) : Int := if isBraid s ls = true then (if unitsOk ns = true ∧ ¬ (s < k) then 0 else 2) else 1

theorem unitsOk_no {ns : List Int} {i : Nat} (hi : i < ns.length) (h : inB (ns.getD i 0) 1 10006 = false) : unitsOk ns = false := by
  unfold unitsOk
  rw [List.all_eq_false]
  exact ⟨ns.getD i 0, getD_mem ns i hi, by rw [h]; decide⟩

theorem unitsOk_yes {ns : List Int} (h : ∀ i, i < ns.length → inB (ns.getD i 0) 1 10006 = true) : unitsOk ns = true := by
  unfold unitsOk
  rw [List.all_eq_true]
  intro x hx
  obtain ⟨i, hi, rfl⟩ := List.mem_iff_getElem.1 hx
  have := h i hi
  rwa [List.getD_eq_getElem?_getD, List.getElem?_eq_getElem hi] at this

set_option maxRecDepth 100000 in
set_option maxHeartbeats 2000000 in
theorem l09Numbers_any (s : Int) (a : Option Addr) (n cap : Nat) (ls : List Int) (k : Int) (ad : Option Addr) (m c2 : Nat) (ns : List Int) (w : World) (hr : Reads w a n ls) (hf : Fits ls) (hn : n ≤ 1048576) (hr2 : Reads w ad m ns) (hm : m ≤ 1000) :
    Calls Try.prog 68 #[.agg #[.int .i64 s, .slice a n cap], .int .i64 k, .slice ad m c2] w fun e w' => e = .returned (.int .i64 (cdN s ls k ns)) ∧ Below w.heap.size w w' := by
  have HL := Lib.hid hr2.len
  have R := Lib.hid (hr.alloc (.cells #[.int .i64 s, .slice a n cap] 28)); have HF := Lib.hid hf
  have N := Lib.hid (hr2.alloc (.cells #[.int .i64 s, .slice a n cap] 28))
  clear hr hf hr2
  have A := Lib.hid (At2.new w (.int .i64 s) (.slice a n cap) 28)
  have BB := Lib.hid (below1 w (.cells #[.int .i64 s, .slice a n cap] 28))
  obtain ⟨qA1, qA2, qA3, qA4, qA5⟩ := A.out
  go_enter Try.func68, Try.ntmps68
  go_wp2_with fail
  refine (l01Is_any s a n cap ls _ R.out HF.out hn).mono ?_
  rintro e w1 ⟨rfl, hb⟩
  clear qA1 qA2 qA3 qA4 qA5
  replace N := Lib.hid (N.out.below hb); replace A := Lib.hid (A.out.below hb)
  replace BB := Lib.hid (below_go BB.out hb (by simp)); clear hb R
  cases hbr : isBraid s ls with
  | false =>
    have HC : Hid (cdN s ls k ns = 1) := Lib.hid (by unfold cdN; rw [hbr]; rfl)
    clear hbr
    go_wp2
    go_ret
    exact ⟨by rw [HC.out]; rfl, BB.out⟩
  | true =>
    have HC : Hid (cdN s ls k ns = if unitsOk ns = true ∧ ¬ (s < k) then 0 else 2) := Lib.hid (by unfold cdN; rw [hbr]; rfl)
    clear hbr
    go_wp2
    go_loop [7] (fun iv => ∃ i : Nat, i ≤ m ∧ iv = .int .i64 i ∧ ∀ x, x < i → inB (ns.getD x 0) 1 10006 = true) (fun iv => m - (intOf iv).toNat)
    case atStart => exact ⟨0, Nat.zero_le _, rfl, fun x hx => absurd hx (Nat.not_lt_zero x)⟩
    case round =>
      obtain ⟨i, hi, rfl, hall⟩ := hrel
      have HA := Lib.hid hall; clear hall
      by_cases hlt : i < m
      · obtain ⟨lb, off, rfl, hlb, hc⟩ := N.out.cells (by omega)
        have k0 := hc i hlt
        have i1 : (i : Int) < (m : Int) := by omega
        have i0 : 0 ≤ (i : Int) := by omega
        obtain ⟨x, hx⟩ : ∃ x, x = ns.getD i 0 := ⟨_, rfl⟩
        rw [← hx] at k0
        have HX := Lib.hid hx
        clear hx hc
        cases hin : inB x 1 10006 with
        | false =>
          have HC2 : Hid (cdN s ls k ns = 2) := Lib.hid (by rw [HC.out, unitsOk_no (i := i) (by rw [HL.out]; exact hlt) (by rw [← HX.out]; exact hin)]; simp)
          have HI := Lib.hid hin; clear hin
          go_wp2_with fail
          refine (l01In_any x 1 10006 _).mono ?_
          rw [HI.out]
          rintro e w2 ⟨rfl, rfl⟩
          go_wp2
          go_ret
          exact ⟨by rw [HC2.out]; rfl, BB.out⟩
        | true =>
          have HI := Lib.hid hin
          have HA2 : Hid (∀ y, y < i + 1 → inB (ns.getD y 0) 1 10006 = true) := Lib.hid fun y hy => by
            by_cases e : y = i
            · rw [e, ← HX.out]; exact hin
            · exact HA.out y (by omega)
          clear hin
          go_wp2_with fail
          refine (l01In_any x 1 10006 _).mono ?_
          rw [HI.out]
          rintro e w2 ⟨rfl, rfl⟩
          go_wp2
          go_round
          case rel => exact ⟨i + 1, by omega, by go_num, HA2.out⟩
          case measure => simp [intOf]; omega
      · have him : i = m := by omega
        subst him
        have hu : unitsOk ns = true := unitsOk_yes fun y hy => HA.out y (by rw [← HL.out]; exact hy)
        obtain ⟨qA1, qA2, qA3, qA4, qA5⟩ := A.out
        by_cases hsk : s < k
        · have HC2 : Hid (cdN s ls k ns = 2) := Lib.hid (by rw [HC.out, if_neg (by intro h; have := h.2; omega)])
          clear hu
          go_wp2
          go_ret
          exact ⟨by rw [HC2.out]; rfl, BB.out⟩
        · have HC2 : Hid (cdN s ls k ns = 0) := Lib.hid (by rw [HC.out, if_pos ⟨hu, by omega⟩])
          clear hu
          go_wp2
          go_ret
          exact ⟨by rw [HC2.out]; rfl, BB.out⟩

/-- Burau's matrix, and a code. -/
noncomputable def mBuM (s : Int) (ls : List Int) (t : Int) : List (List Int) × Int :=
  if cdN s ls 1 [t] = 0 then (mkM s.toNat s.toNat (bprF s.toNat t ls ls.length), 0) else ([], cdN s ls 1 [t])

theorem mBuM_len (s : Int) (ls : List Int) (t : Int) : (mBuM s ls t).1.length ≤ 8 := by
  unfold mBuM
  split
  · rename_i h
    rw [mkM_len]
    unfold cdN at h
    split at h
    · rename_i hb
      have := (isBraid_iff s ls).1 hb
      omega
    · omega
  · simp

theorem prF_bpr (n : Nat) (t : Int) (xs : List Int) : ∀ j, prF n (diaF 1) (facF n (burF t) xs) j = bprF n t xs j
  | 0 => rfl
  | j + 1 => by
    show mulF n (prF n (diaF 1) (facF n (burF t) xs) j) (letG n (burF t) (xs.getD j 0)) = mulF n (bprF n t xs j) (letF n t (xs.getD j 0))
    rw [prF_bpr n t xs j]
    rfl

end Go.Proofs.Ytelmdfkcclhhjaa
