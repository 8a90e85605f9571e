/- Traces: the model and the program. -/
import Derived.Test.YtelmdfkcclhhjaaFOf
namespace Go.Proofs.Ytelmdfkcclhhjaa
open Go.RowKit Go.ChangeShapes

theorem mkM_rows {rs : List RowV} {w : World} {ad : Option Addr} {m k : Nat} {f : Nat → Nat → Int} (hr : ReadsSS w ad m rs) (hX : rs.map RowV.xs = mkM m k f) {i : Nat} (hi : i < rs.length) : rs[i].n = k ∧ ∀ j, j < k → rs[i].xs.getD j 0 = f i j := by
  have h1 := congrArg (fun l => l.getD i []) hX
  rw [rowL_map rs i hi, mkM_row (by rw [← hr.1]; exact hi)] at h1
  have h2 := (hr.2.2 _ (List.getElem_mem hi)).1.len
  refine ⟨?_, fun j hj => ?_⟩
  · rw [← h2, h1]; simp
  · rw [h1]; simp [List.getD, hj]

set_option maxRecDepth 100000 in
set_option maxHeartbeats 1000000 in
theorem l09Trace_any (ad : Option Addr) (m cap : Nat) (rs : List RowV) (f : Nat → Nat → Int) (w : World) (hr : ReadsSS w ad m rs) (hX : rs.map RowV.xs = mkM m m f) (hm : m ≤ 28) (hF : Rem m m f) :
    Calls Try.prog 63 #[.slice ad m cap] w fun e w' => e = .returned (.int .i64 (trF m f)) ∧ w = w' := by
  have HL := Lib.hid hr.1
  have HF := Lib.hid hF
  have HX := Lib.hid hX
  have HR := Lib.hid hr; clear hr hX hF
  have HB : Hid (∀ i, i ≤ m → 0 ≤ sumT (fun i => f i i) i ∧ sumT (fun i => f i i) i ≤ 280168) := Lib.hid fun i hi => by
    have h := sumT_bd (f := fun i => f i i) (n := i) (b := 10006) fun k hk => by have := HF.out k k (by omega) (by omega); omega
    omega
  go_enter Try.func63, Try.ntmps63
  go_wp2
  go_loop [3, 4] (fun sv iv => ∃ i : Nat, i ≤ m ∧ iv = .int .i64 i ∧ sv = .int .i64 (sumT (fun i => f i i) i)) (fun _ iv => m - (intOf iv).toNat)
  case atStart => exact ⟨0, Nat.zero_le _, rfl, rfl⟩
  case round =>
    obtain ⟨i, hi, rfl, rfl⟩ := hrel
    by_cases hlt : i < m
    · have hil : i < rs.length := by rw [HL.out]; exact hlt
      obtain ⟨ab, off, rfl, hc⟩ := HR.out.2.1.resolve_left (by omega)
      have c0 := hc i hil
      have hrow := (HR.out.2.2 _ (List.getElem_mem hil)).1
      obtain ⟨hn, hx⟩ := mkM_rows HR.out HX.out hil
      rw [hn] at c0 hrow
      obtain ⟨rb, ro, hra, hrb, hrc⟩ := hrow.cells (by omega)
      rw [hra] at c0
      have c1 := hrc i hlt
      rw [hx i hlt] at c1
      have bs := HB.out i hi
      have bs2 := HB.out (i + 1) (by omega)
      have hs : sumT (fun i => f i i) (i + 1) = sumT (fun i => f i i) i + f i i := rfl
      obtain ⟨cc, hcc⟩ : ∃ cc, cc = rs[i].cap := ⟨_, rfl⟩
      rw [← hcc] at c0
      obtain ⟨s, hsd⟩ : ∃ s, s = sumT (fun i => f i i) i := ⟨_, rfl⟩
      obtain ⟨v, hvd⟩ : ∃ v, v = f i i := ⟨_, rfl⟩
      rw [← hsd] at bs hs ⊢
      rw [← hvd] at c1 hs
      rw [hs] at bs2
      have HS := Lib.hid hs
      clear hc hrow hn hx hra hrb hrc hcc hsd hvd hs
      have w1 : IntKind.i64.wrap (s + v) = s + v := IntWalk.i64_in _ (by omega)
      have i1' : (i : Int) < (m : Int) := by omega
      go_wp2
      go_round
      case rel => exact ⟨i + 1, by omega, by go_num, by rw [HS.out]⟩
      case measure => simp [intOf]; omega
    · have him : i = m := by omega
      subst him
      have bs := HB.out i hi
      obtain ⟨s, hsd⟩ : ∃ s, s = sumT (fun i => f i i) i := ⟨_, rfl⟩
      rw [← hsd] at bs ⊢
      have HS : Hid (trF i f = s % 10007) := Lib.hid (by rw [hsd]; rfl)
      have e1 : s.tmod 10007 = s % 10007 := Int.tmod_eq_emod_of_nonneg (by omega)
      have w2 : IntKind.i64.wrap (s % 10007) = s % 10007 := IntWalk.i64_in _ (by have := mod_rem s; omega)
      clear hsd
      go_wp2
      go_ret
      exact ⟨ret_int HS.out.symm, rfl⟩

set_option maxRecDepth 100000 in
set_option maxHeartbeats 1000000 in
theorem mxTrace_any (g m cap : Nat) (b s c : Nat → Nat) (f : Nat → Nat → Int) (w : World) (hr : RMx w g m (fun _ => m) b s c f) (hm : m ≤ 28) (hF : Rem m m f) :
    Calls Try.prog 64 #[.slice (some ⟨g, 0, none⟩) m cap] w fun e w' => e = .returned (.int .i64 (trF m f)) ∧ w = w' := by
  have HF := Lib.hid hF
  have HR := Lib.hid hr; clear hr hF
  go_enter Try.func64, Try.ntmps64
  go_wp2
  go_loop [3, 8] (fun sv iv => ∃ i : Nat, i ≤ m ∧ iv = .int .i64 i ∧ sv = .int .i64 (trF i f)) (fun _ iv => m - (intOf iv).toNat)
  case atStart => exact ⟨0, Nat.zero_le _, rfl, rfl⟩
  case round =>
    obtain ⟨i, hi, rfl, rfl⟩ := hrel
    by_cases hlt : i < m
    · have c0 : w.cell? ⟨g, i, none⟩ = some (.slice (some ⟨b i, s i, none⟩) m (c i)) := HR.out.hd i hlt
      have c1 := HR.out.el i i hlt hlt
      have bv := HF.out i i hlt hlt
      have bt : 0 ≤ trF i f ∧ trF i f < 10007 := mod_rem _
      have HS : Hid (trF (i + 1) f = (trF i f + f i i) % 10007) := Lib.hid (by unfold trF; rw [step_mod]; rfl)
      obtain ⟨t, ht⟩ : ∃ t, t = trF i f := ⟨_, rfl⟩
      obtain ⟨v, hvd⟩ : ∃ v, v = f i i := ⟨_, rfl⟩
      obtain ⟨bi, hbi⟩ : ∃ x, x = b i := ⟨_, rfl⟩
      obtain ⟨si, hsi⟩ : ∃ x, x = s i := ⟨_, rfl⟩
      rw [← ht] at bt HS ⊢
      rw [← hvd] at c1 bv HS
      rw [← hbi, ← hsi] at c0 c1
      clear ht hvd hbi hsi
      have i1' : (i : Int) < (m : Int) := by omega
      go_wp2_with fail
      refine (plus_any t v _ (by omega) (by omega)).mono ?_
      rintro e w1 ⟨rfl, rfl⟩
      go_wp2
      go_round
      case rel => exact ⟨i + 1, by omega, by go_num, by rw [HS.out]⟩
      case measure => simp [intOf]; omega
    · have him : i = m := by omega
      subst him
      go_wp2
      go_ret
      exact ⟨rfl, rfl⟩

theorem mTrace_no {X : List (List Int)} (h : isFm X = false) : mTrace X = (0, 1) := by unfold mTrace; rw [h]; rfl
theorem mTrace_yes {X : List (List Int)} (h : isFm X = true) : mTrace X = (trF X.length (eL X), 0) := by unfold mTrace; rw [if_pos h]

set_option maxRecDepth 100000 in
set_option maxHeartbeats 1000000 in
theorem specTrace_law {ad : Option Addr} {m cap : Nat} {rs : List RowV} {w : World} {X : List (List Int)} (hr : ReadsSS w ad m rs) (hm : m ≤ 1048576) (hX : X = rs.map RowV.xs) {v c : Int} (hM : mTrace X = (v, c)) :
    Calls Try.prog 31 #[.slice ad m cap] w fun e w' => e = .returned (.tuple #[.int .i64 v, .int .i64 c]) ∧ Below w.heap.size w w' := by
  have HXL : Hid (X.length = m) := Lib.hid (by rw [hX, List.length_map]; exact hr.1)
  have HM := Lib.hid hM; have HX := Lib.hid hX; have HR := Lib.hid hr; clear hr hX hM
  cases hf : isFm X with
  | false =>
    have hM := HM.out
    rw [mTrace_no hf] at hM
    injection hM with h1 h2
    subst h1; subst h2
    have HF := Lib.hid hf; clear hf
    go_enter Try.func31, Try.ntmps31
    go_wp2_with fail
    refine (l09Is_any ad m cap rs w HR.out hm X HX.out).mono ?_
    rw [HF.out]
    rintro e w1 ⟨rfl, rfl⟩
    go_wp2
    go_ret2
    exact ⟨rfl, Below.refl _ _⟩
  | true =>
    have hM := HM.out
    rw [mTrace_yes hf, HXL.out] at hM
    injection hM with h1 h2
    subst h2
    have H1 := Lib.hid h1
    have HI := Lib.hid (isFm_iff.1 hf)
    have hm2 : m ≤ 28 := by have := HI.out.1.2; rw [HXL.out] at this; exact this
    have HF := Lib.hid hf; clear hf h1
    have HMX : Hid (rs.map RowV.xs = mkM m m (eL X)) := Lib.hid (by have := mkM_of HI.out; rw [HXL.out] at this; rw [this, ← HX.out])
    have HRM : Hid (Rem m m (eL X)) := Lib.hid (by have := HI.out.rem; rw [HXL.out] at this; exact this)
    go_enter Try.func31, Try.ntmps31
    go_wp2_with fail
    refine (l09Is_any ad m cap rs w HR.out hm X HX.out).mono ?_
    rw [HF.out]
    rintro e w1 ⟨rfl, rfl⟩
    go_wp2_with fail
    refine (l09Trace_any ad m cap rs (eL X) w HR.out HMX.out hm2 HRM.out).mono ?_
    rw [H1.out]
    rintro e w1 ⟨rfl, rfl⟩
    go_wp2
    go_ret2
    exact ⟨rfl, Below.refl _ _⟩

set_option maxRecDepth 100000 in
set_option maxHeartbeats 1000000 in
theorem implTrace_law {ad : Option Addr} {m cap : Nat} {rs : List RowV} {w : World} {X : List (List Int)} (hr : ReadsSS w ad m rs) (hm : m ≤ 1048576) (hX : X = rs.map RowV.xs) {v c : Int} (hM : mTrace X = (v, c)) :
    Calls Try.prog 32 #[.slice ad m cap] w fun e w' => e = .returned (.tuple #[.int .i64 v, .int .i64 c]) ∧ Below w.heap.size w w' := by
  have HXL : Hid (X.length = m) := Lib.hid (by rw [hX, List.length_map]; exact hr.1)
  have HM := Lib.hid hM; have HX := Lib.hid hX; have HR := Lib.hid hr; clear hr hX hM
  cases hf : isFm X with
  | false =>
    have hM := HM.out
    rw [mTrace_no hf] at hM
    injection hM with h1 h2
    subst h1; subst h2
    have HF := Lib.hid hf; clear hf
    go_enter Try.func32, Try.ntmps32
    go_wp2_with fail
    refine (implIsFm_any ad m cap rs w HR.out hm X HX.out).mono ?_
    rw [HF.out]
    rintro e w1 ⟨rfl, rfl⟩
    go_wp2
    go_ret2
    exact ⟨rfl, Below.refl _ _⟩
  | true =>
    have hM := HM.out
    rw [mTrace_yes hf, HXL.out] at hM
    injection hM with h1 h2
    subst h2
    have H1 := Lib.hid h1
    have HI := Lib.hid (isFm_iff.1 hf)
    have hm2 : m ≤ 28 := by have := HI.out.1.2; rw [HXL.out] at this; exact this
    have HF := Lib.hid hf; clear hf h1
    have HRM : Hid (Rem m m (eL X)) := Lib.hid (by have := HI.out.rem; rw [HXL.out] at this; exact this)
    go_enter Try.func32, Try.ntmps32
    go_wp2_with fail
    refine (implIsFm_any ad m cap rs w HR.out hm X HX.out).mono ?_
    rw [HF.out]
    rintro e w1 ⟨rfl, rfl⟩
    go_wp2_with fail
    refine (fieldMatrixOf_any ad m cap rs w HR.out X HX.out HI.out).mono ?_
    rintro e w1 ⟨g, b, s, cc, cp, rfl, hO, hb⟩
    have OO := Lib.hid hO; have BB := Lib.hid hb; clear hO hb
    go_wp2_with fail
    refine (mxTrace_any g m cp b s cc (eL X) w1 OO.out.toRMx hm2 HRM.out).mono ?_
    rw [H1.out]
    rintro e w2 ⟨rfl, rfl⟩
    go_wp2
    go_ret2
    exact ⟨rfl, BB.out⟩

end Go.Proofs.Ytelmdfkcclhhjaa
