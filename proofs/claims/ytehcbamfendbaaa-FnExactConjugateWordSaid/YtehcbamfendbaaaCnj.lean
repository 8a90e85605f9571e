/- Conjugates of words: the model and the program. -/
import Derived.Test.YtehcbamfendbaaaCct3
import Derived.Test.YtehcbamfendbaaaBrs
import Derived.Test.YtehcbamfendbaaaInvd
import Derived.Test.YtehcbamfendbaaaOwnL
import Derived.Test.YtehcbamfendbaaaStepA
import Derived.Test.YtehcbamfendbaaaInverse
import Derived.Test.YtehcbamfendbaaaCmbP
namespace Go.Proofs.Ytehcbamfendbaaa
open Go.RowKit Go.ChangeShapes

/-- The conjugate of a braid by another one, and the code. -/
def mConj (s : Int) (xs : List Int) (t : Int) (ys : List Int) : Int × List Int × Int :=
  if isBraid s xs = true ∧ isBraid t ys = true then (if s = t then (if xs.length + 2 * ys.length ≤ 200 then (s, ys ++ xs ++ inverse ys, 0) else (0, [], 3)) else (0, [], 2)) else (0, [], 1)

theorem concat3_K (K : Nat) (g : Nat) (a b c : Option Addr) (n m l ca cb cc : Nat) (xs ys zs : List Int) (w : World) (hK : K = n + m + l) (hg : g < w.heap.size) (h0 : w.cell? ⟨g, 0, none⟩ = some (.slice a n ca)) (h1 : w.cell? ⟨g, 1, none⟩ = some (.slice b m cb)) (h2 : w.cell? ⟨g, 2, none⟩ = some (.slice c l cc)) (hx : Reads w a n xs) (hy : Reads w b m ys) (hz : Reads w c l zs) (hn : n ≤ 1048576) (hm : m ≤ 1048576) (hl : l ≤ 1048576) :
    Calls Try.prog 72 #[.slice (some ⟨g, 0, none⟩) 3 3] w (MadeInts w K (xs ++ ys ++ zs)) := by
  subst hK
  exact concat3_any g a b c n m l ca cb cc xs ys zs w hg h0 h1 h2 hx hy hz hn hm hl

set_option maxRecDepth 100000 in
set_option maxHeartbeats 2000000 in
theorem implConj_any {s : Int} {a : Option Addr} {n cap : Nat} {xs : List Int} {t : Int} {b : Option Addr} {m cap2 : Nat} {ys : List Int} {w : World} {fs : Int} {fxs : List Int} {fc : Int} (hr : Reads w a n xs) (hf : Fits xs) (hn : n ≤ 1048576) (hr2 : Reads w b m ys) (hf2 : Fits ys) (hn2 : m ≤ 1048576) (hM : mConj s xs t ys = (fs, fxs, fc)) :
    Calls Try.prog 32 #[.agg #[.int .i64 s, .slice a n cap], .agg #[.int .i64 t, .slice b m cap2]] w (RetBraid w fs fxs fc) := by
  obtain ⟨i0, hi, hz0, hz1, hz2⟩ := info_parts infoInt
  have R := Lib.hid hr; clear hr
  have Q := Lib.hid hr2; clear hr2
  have HF := Lib.hid hf; have HG := Lib.hid hf2; clear hf hf2
  have HL := Lib.hid R.out.len
  have HM2 := Lib.hid Q.out.len
  by_cases hbr : isBraid s xs = true ∧ isBraid t ys = true
  · have HB1 := Lib.hid hbr.1
    have HB2 := Lib.hid hbr.2
    have hn200 : n ≤ 200 := by have := HL.out; have := len_of_isBraid _ _ hbr.1; omega
    have hm200 : m ≤ 200 := by have := HM2.out; have := len_of_isBraid _ _ hbr.2; omega
    have s1 := lo_of_isBraid _ _ hbr.1
    have s8 := hi_of_isBraid _ _ hbr.1
    have t8 := hi_of_isBraid _ _ hbr.2
    have HSM : Hid (Small ys) := Lib.hid fun x hx => (letts_of_isBraid hbr.2 x hx).small (by omega)
    simp only [mConj, if_pos hbr] at hM
    have HIL : Hid ((inverse ys).length = m) := Lib.hid (by rw [inverse_length]; exact HM2.out)
    by_cases hst : s = t
    · rw [if_pos hst, HL.out, HM2.out] at hM
      have HST := Lib.hid hst; clear hst
      by_cases hlen : n + 2 * m ≤ 200
      · rw [if_pos hlen] at hM
        simp only [Prod.mk.injEq] at hM
        obtain ⟨rfl, rfl, rfl⟩ := hM
        obtain ⟨K, hK⟩ : ∃ K, K = m + n + m := ⟨_, rfl⟩
        have hk : ¬ ((K : Int) > 200) := by omega
        have hk2 : K ≤ 1000 := by omega
        have HK := Lib.hid hK; clear hK
        have HCD : Hid (codeBs [⟨s, a, n, cap, xs⟩, ⟨t, b, m, cap2, ys⟩] = 0) := Lib.hid (by rw [codeBs_pair]; rw [if_pos ⟨HB1.out, HB2.out⟩, if_pos HST.out])
        go_enter Try.func32, Try.ntmps32
        replace R := Lib.hid (((R.out.alloc (.cells #[.int .i64 s, .slice a n cap] 29)).alloc (.cells #[.int .i64 t, .slice b m cap2] 29)).alloc (.cells #[.int .i64 0, .slice none 0 0] 29))
        replace Q := Lib.hid (((Q.out.alloc (.cells #[.int .i64 s, .slice a n cap] 29)).alloc (.cells #[.int .i64 t, .slice b m cap2] 29)).alloc (.cells #[.int .i64 0, .slice none 0 0] 29))
        have A := Lib.hid (((At2.new w (.int .i64 s) (.slice a n cap) 29).alloc (.cells #[.int .i64 t, .slice b m cap2] 29)).alloc (.cells #[.int .i64 0, .slice none 0 0] 29))
        have C := Lib.hid ((At2.place (w.alloc (.cells #[.int .i64 s, .slice a n cap] 29)) (.int .i64 t) (.slice b m cap2) 29 (w.heap.size + 1) (by simp)).alloc (.cells #[.int .i64 0, .slice none 0 0] 29))
        have Z := Lib.hid (At2.place ((w.alloc (.cells #[.int .i64 s, .slice a n cap] 29)).alloc (.cells #[.int .i64 t, .slice b m cap2] 29)) (.int .i64 0) (.slice none 0 0) 29 (w.heap.size + 1 + 1) (by simp))
        have BB := Lib.hid (below3 w (.cells #[.int .i64 s, .slice a n cap] 29) (.cells #[.int .i64 t, .slice b m cap2] 29) (.cells #[.int .i64 0, .slice none 0 0] 29))
        obtain ⟨qA1, qA2, qA3, qA4, qA5⟩ := A.out
        obtain ⟨qC1, qC2, qC3, qC4, qC5⟩ := C.out
        obtain ⟨qZ1, qZ2, qZ3, qZ4, qZ5⟩ := Z.out
        have RP := Lib.hid (readsB_pair _ (w.heap.size + 1 + 1 + 1) (by simp) s t a b n m cap cap2 xs ys R.out hn Q.out hn2)
        go_wp2_with fail
        refine (braidsCode_any _ _ _ _ _ RP.out (by omega)).mono ?_
        rintro e w1 ⟨rfl, hb⟩
        clear qA1 qA2 qA3 qA4 qA5 qC1 qC2 qC3 qC4 qC5 qZ1 qZ2 qZ3 qZ4 qZ5
        clear RP
        replace R := Lib.hid ((R.out.alloc _).below hb)
        replace Q := Lib.hid ((Q.out.alloc _).below hb)
        replace A := Lib.hid ((A.out.alloc _).below hb)
        replace C := Lib.hid ((C.out.alloc _).below hb)
        replace Z := Lib.hid ((Z.out.alloc _).below hb)
        replace BB := Lib.hid (below_go (BB.out.alloc BB.out.size _) hb (by have := BB.out.size; simp at *; omega))
        clear hb
        rw [HCD.out]
        have z2 : w.heap.size + 3 ≤ w1.heap.size := Z.out.1
        obtain ⟨qA1, qA2, qA3, qA4, qA5⟩ := A.out
        obtain ⟨qC1, qC2, qC3, qC4, qC5⟩ := C.out
        obtain ⟨qZ1, qZ2, qZ3, qZ4, qZ5⟩ := Z.out
        have hfld : ∀ (z : Int) (d : Option Addr) (k l : Nat) (W : World), Sem.run Try.prog (Instr.field 29 (.agg #[.int .i64 z, .slice d k l]) 1) W = .ok (.slice d k l) W := fun _ _ _ _ _ => by kernel_rfl
        go_wp2
        go_region_held3 (fun w' => w'.cell? ⟨w.heap.size, 0, none⟩ = some (.int .i64 s) ∧ w'.cell? ⟨w.heap.size, 1, none⟩ = some (.slice a n cap) ∧ w'.cell? ⟨w.heap.size + 1, 0, none⟩ = some (.int .i64 t) ∧ w'.cell? ⟨w.heap.size + 1, 1, none⟩ = some (.slice b m cap2)) (first | with_reducible exact ⟨qA2, qA3, qC2, qC3⟩ | with_reducible exact ⟨rA2, rA3, rC2, rC3⟩ | with_reducible exact ⟨uA2, uA3, uC2, uC3⟩ | go_keep)
          (first
            | (go_at_call 73; refine (inverted_any t b m cap2 ys _ Q.out.drew HSM.out hn2).mono ?_; rintro e w3 ⟨a3, n3, c3, rfl, ho, hb⟩; have hn3 : m = n3 := (by have e1 := ho.len; have e2 := HIL.out; omega); subst hn3; have hz3 : w1.heap.size ≤ w3.heap.size := hb.size; have hA3 := A.out.drew.below hb; have hC3 := C.out.drew.below hb; have HB3 := Lib.hid (below_go BB.out.drew hb (by show _ ≤ w1.heap.size; omega)); have HZ3 := Lib.hid (Z.out.drew.below hb); have HR3 := Lib.hid (R.out.drew.below hb); have HQ3 := Lib.hid (Q.out.drew.below hb); have HO3 := Lib.hid ho; obtain ⟨rA1, rA2, rA3, rA4, rA5⟩ := hA3; obtain ⟨rC1, rC2, rC3, rC4, rC5⟩ := hC3)
            | (go_at_call 72; refine (concat3_K K w3.heap.size b a a3 m n m cap2 cap c3 ys xs (inverse ys) _ HK.out (by simp) (by simp) (by simp) (by simp) (HQ3.out.alloc _) (HR3.out.alloc _) (HO3.out.reads.alloc _) (by omega) (by omega) (by omega)).mono ?_; rintro e w4 ⟨a4, c4, rfl, ho4, hb4⟩; have HZ4 := Lib.hid ((HZ3.out.alloc _).below hb4); have HA4 := Lib.hid (((A.out.drew.below hb).alloc _).below hb4); have HB4 := Lib.hid (below_go (HB3.out.alloc HB3.out.size _) hb4 (by have := HB3.out.size; simp; omega)); have HO4 := Lib.hid ho4; obtain ⟨uA1, uA2, uA3, uA4, uA5⟩ := HA4.out; obtain ⟨uC1, uC2, uC3, uC4, uC5⟩ := ((C.out.drew.below hb).alloc _).below hb4))
        clear BB Z
        have BB := HB4; have Z := HZ4
        obtain ⟨yZ1, yZ2, yZ3, yZ4, yZ5⟩ := Z.out
        go_wp2
        obtain ⟨_, e2, e3, _, _⟩ := Z.out.fill (.int .i64 s) (.slice a4 K c4)
        have O5 : Own (w.heap.size + 1 + 1 + 1) _ a4 K c4 _ := HO4.out.mono (by have := HB3.out.size; simp; omega)
        refine bodyPost_ret (v := .tuple #[.agg #[.int .i64 s, .slice a4 K c4], .int .i64 0]) (by simp [results, Try.results32, go_sem, e2, e3]) rfl ⟨a4, K, c4, rfl, by omega, ?_, ?_⟩
        · exact ((O5.setCell_below (by simp) _).setCell_below (by simp) _).mono (by omega)
        · exact (BB.out.setCell (p := ⟨w.heap.size + 1 + 1, 0, none⟩) (by simp; omega) _).setCell (p := ⟨w.heap.size + 1 + 1, 1, none⟩) (by simp; omega) _
      · rw [if_neg hlen] at hM
        simp only [Prod.mk.injEq] at hM
        obtain ⟨rfl, rfl, rfl⟩ := hM
        obtain ⟨K, hK⟩ : ∃ K, K = m + n + m := ⟨_, rfl⟩
        have hk :  ((K : Int) > 200) := by omega
        have hk2 : K ≤ 1000 := by omega
        have HK := Lib.hid hK; clear hK
        have HCD : Hid (codeBs [⟨s, a, n, cap, xs⟩, ⟨t, b, m, cap2, ys⟩] = 0) := Lib.hid (by rw [codeBs_pair]; rw [if_pos ⟨HB1.out, HB2.out⟩, if_pos HST.out])
        go_enter Try.func32, Try.ntmps32
        replace R := Lib.hid (((R.out.alloc (.cells #[.int .i64 s, .slice a n cap] 29)).alloc (.cells #[.int .i64 t, .slice b m cap2] 29)).alloc (.cells #[.int .i64 0, .slice none 0 0] 29))
        replace Q := Lib.hid (((Q.out.alloc (.cells #[.int .i64 s, .slice a n cap] 29)).alloc (.cells #[.int .i64 t, .slice b m cap2] 29)).alloc (.cells #[.int .i64 0, .slice none 0 0] 29))
        have A := Lib.hid (((At2.new w (.int .i64 s) (.slice a n cap) 29).alloc (.cells #[.int .i64 t, .slice b m cap2] 29)).alloc (.cells #[.int .i64 0, .slice none 0 0] 29))
        have C := Lib.hid ((At2.place (w.alloc (.cells #[.int .i64 s, .slice a n cap] 29)) (.int .i64 t) (.slice b m cap2) 29 (w.heap.size + 1) (by simp)).alloc (.cells #[.int .i64 0, .slice none 0 0] 29))
        have Z := Lib.hid (At2.place ((w.alloc (.cells #[.int .i64 s, .slice a n cap] 29)).alloc (.cells #[.int .i64 t, .slice b m cap2] 29)) (.int .i64 0) (.slice none 0 0) 29 (w.heap.size + 1 + 1) (by simp))
        have BB := Lib.hid (below3 w (.cells #[.int .i64 s, .slice a n cap] 29) (.cells #[.int .i64 t, .slice b m cap2] 29) (.cells #[.int .i64 0, .slice none 0 0] 29))
        obtain ⟨qA1, qA2, qA3, qA4, qA5⟩ := A.out
        obtain ⟨qC1, qC2, qC3, qC4, qC5⟩ := C.out
        obtain ⟨qZ1, qZ2, qZ3, qZ4, qZ5⟩ := Z.out
        have RP := Lib.hid (readsB_pair _ (w.heap.size + 1 + 1 + 1) (by simp) s t a b n m cap cap2 xs ys R.out hn Q.out hn2)
        go_wp2_with fail
        refine (braidsCode_any _ _ _ _ _ RP.out (by omega)).mono ?_
        rintro e w1 ⟨rfl, hb⟩
        clear qA1 qA2 qA3 qA4 qA5 qC1 qC2 qC3 qC4 qC5 qZ1 qZ2 qZ3 qZ4 qZ5
        clear RP
        replace R := Lib.hid ((R.out.alloc _).below hb)
        replace Q := Lib.hid ((Q.out.alloc _).below hb)
        replace A := Lib.hid ((A.out.alloc _).below hb)
        replace C := Lib.hid ((C.out.alloc _).below hb)
        replace Z := Lib.hid ((Z.out.alloc _).below hb)
        replace BB := Lib.hid (below_go (BB.out.alloc BB.out.size _) hb (by have := BB.out.size; simp at *; omega))
        clear hb
        rw [HCD.out]
        have z2 : w.heap.size + 3 ≤ w1.heap.size := Z.out.1
        obtain ⟨qA1, qA2, qA3, qA4, qA5⟩ := A.out
        obtain ⟨qC1, qC2, qC3, qC4, qC5⟩ := C.out
        obtain ⟨qZ1, qZ2, qZ3, qZ4, qZ5⟩ := Z.out
        have hfld : ∀ (z : Int) (d : Option Addr) (k l : Nat) (W : World), Sem.run Try.prog (Instr.field 29 (.agg #[.int .i64 z, .slice d k l]) 1) W = .ok (.slice d k l) W := fun _ _ _ _ _ => by kernel_rfl
        go_wp2
        go_region_held3 (fun w' => w'.cell? ⟨w.heap.size, 0, none⟩ = some (.int .i64 s) ∧ w'.cell? ⟨w.heap.size, 1, none⟩ = some (.slice a n cap) ∧ w'.cell? ⟨w.heap.size + 1, 0, none⟩ = some (.int .i64 t) ∧ w'.cell? ⟨w.heap.size + 1, 1, none⟩ = some (.slice b m cap2)) (first | with_reducible exact ⟨qA2, qA3, qC2, qC3⟩ | with_reducible exact ⟨rA2, rA3, rC2, rC3⟩ | with_reducible exact ⟨uA2, uA3, uC2, uC3⟩ | go_keep)
          (first
            | (go_at_call 73; refine (inverted_any t b m cap2 ys _ Q.out.drew HSM.out hn2).mono ?_; rintro e w3 ⟨a3, n3, c3, rfl, ho, hb⟩; have hn3 : m = n3 := (by have e1 := ho.len; have e2 := HIL.out; omega); subst hn3; have hz3 : w1.heap.size ≤ w3.heap.size := hb.size; have hA3 := A.out.drew.below hb; have hC3 := C.out.drew.below hb; have HB3 := Lib.hid (below_go BB.out.drew hb (by show _ ≤ w1.heap.size; omega)); have HZ3 := Lib.hid (Z.out.drew.below hb); have HR3 := Lib.hid (R.out.drew.below hb); have HQ3 := Lib.hid (Q.out.drew.below hb); have HO3 := Lib.hid ho; obtain ⟨rA1, rA2, rA3, rA4, rA5⟩ := hA3; obtain ⟨rC1, rC2, rC3, rC4, rC5⟩ := hC3)
            | (go_at_call 72; refine (concat3_K K w3.heap.size b a a3 m n m cap2 cap c3 ys xs (inverse ys) _ HK.out (by simp) (by simp) (by simp) (by simp) (HQ3.out.alloc _) (HR3.out.alloc _) (HO3.out.reads.alloc _) (by omega) (by omega) (by omega)).mono ?_; rintro e w4 ⟨a4, c4, rfl, ho4, hb4⟩; have HZ4 := Lib.hid ((HZ3.out.alloc _).below hb4); have HA4 := Lib.hid (((A.out.drew.below hb).alloc _).below hb4); have HB4 := Lib.hid (below_go (HB3.out.alloc HB3.out.size _) hb4 (by have := HB3.out.size; simp; omega)); have HO4 := Lib.hid ho4; obtain ⟨uA1, uA2, uA3, uA4, uA5⟩ := HA4.out; obtain ⟨uC1, uC2, uC3, uC4, uC5⟩ := ((C.out.drew.below hb).alloc _).below hb4))
        clear BB Z
        have BB := HB4; have Z := HZ4
        obtain ⟨yZ1, yZ2, yZ3, yZ4, yZ5⟩ := Z.out
        go_wp2
        obtain ⟨_, e2, e3, _, _⟩ := Z.out.fill (.int .i64 0) (.slice none 0 0)
        refine bodyPost_ret (v := .tuple #[.agg #[.int .i64 0, .slice none 0 0], .int .i64 3]) (by simp [results, Try.results32, go_sem, e2, e3]) rfl ⟨none, 0, 0, rfl, by omega, ?_, ?_⟩
        · exact Own.nil _ _
        · exact (BB.out.setCell (p := ⟨w.heap.size + 1 + 1, 0, none⟩) (by simp; omega) _).setCell (p := ⟨w.heap.size + 1 + 1, 1, none⟩) (by simp; omega) _
    · rw [if_neg hst] at hM
      simp only [Prod.mk.injEq] at hM
      obtain ⟨rfl, rfl, rfl⟩ := hM
      have HCD : Hid (codeBs [⟨s, a, n, cap, xs⟩, ⟨t, b, m, cap2, ys⟩] = 2) := Lib.hid (by rw [codeBs_pair]; rw [if_pos ⟨HB1.out, HB2.out⟩, if_neg hst])
      go_enter Try.func32, Try.ntmps32
      replace R := Lib.hid (((R.out.alloc (.cells #[.int .i64 s, .slice a n cap] 29)).alloc (.cells #[.int .i64 t, .slice b m cap2] 29)).alloc (.cells #[.int .i64 0, .slice none 0 0] 29))
      replace Q := Lib.hid (((Q.out.alloc (.cells #[.int .i64 s, .slice a n cap] 29)).alloc (.cells #[.int .i64 t, .slice b m cap2] 29)).alloc (.cells #[.int .i64 0, .slice none 0 0] 29))
      have A := Lib.hid (((At2.new w (.int .i64 s) (.slice a n cap) 29).alloc (.cells #[.int .i64 t, .slice b m cap2] 29)).alloc (.cells #[.int .i64 0, .slice none 0 0] 29))
      have C := Lib.hid ((At2.place (w.alloc (.cells #[.int .i64 s, .slice a n cap] 29)) (.int .i64 t) (.slice b m cap2) 29 (w.heap.size + 1) (by simp)).alloc (.cells #[.int .i64 0, .slice none 0 0] 29))
      have Z := Lib.hid (At2.place ((w.alloc (.cells #[.int .i64 s, .slice a n cap] 29)).alloc (.cells #[.int .i64 t, .slice b m cap2] 29)) (.int .i64 0) (.slice none 0 0) 29 (w.heap.size + 1 + 1) (by simp))
      have BB := Lib.hid (below3 w (.cells #[.int .i64 s, .slice a n cap] 29) (.cells #[.int .i64 t, .slice b m cap2] 29) (.cells #[.int .i64 0, .slice none 0 0] 29))
      obtain ⟨qA1, qA2, qA3, qA4, qA5⟩ := A.out
      obtain ⟨qC1, qC2, qC3, qC4, qC5⟩ := C.out
      obtain ⟨qZ1, qZ2, qZ3, qZ4, qZ5⟩ := Z.out
      have RP := Lib.hid (readsB_pair _ (w.heap.size + 1 + 1 + 1) (by simp) s t a b n m cap cap2 xs ys R.out hn Q.out hn2)
      go_wp2_with fail
      refine (braidsCode_any _ _ _ _ _ RP.out (by omega)).mono ?_
      rintro e w1 ⟨rfl, hb⟩
      clear qA1 qA2 qA3 qA4 qA5 qC1 qC2 qC3 qC4 qC5 qZ1 qZ2 qZ3 qZ4 qZ5
      clear RP
      replace R := Lib.hid ((R.out.alloc _).below hb)
      replace Q := Lib.hid ((Q.out.alloc _).below hb)
      replace A := Lib.hid ((A.out.alloc _).below hb)
      replace C := Lib.hid ((C.out.alloc _).below hb)
      replace Z := Lib.hid ((Z.out.alloc _).below hb)
      replace BB := Lib.hid (below_go (BB.out.alloc BB.out.size _) hb (by have := BB.out.size; simp at *; omega))
      clear hb
      rw [HCD.out]
      have z2 : w.heap.size + 3 ≤ w1.heap.size := Z.out.1
      obtain ⟨qA1, qA2, qA3, qA4, qA5⟩ := A.out
      obtain ⟨qC1, qC2, qC3, qC4, qC5⟩ := C.out
      obtain ⟨qZ1, qZ2, qZ3, qZ4, qZ5⟩ := Z.out
      clear hst
      go_wp2
      obtain ⟨_, e2, e3, _, _⟩ := Z.out.fill (.int .i64 0) (.slice none 0 0)
      refine bodyPost_ret (v := .tuple #[.agg #[.int .i64 0, .slice none 0 0], .int .i64 2]) (by simp [results, Try.results32, go_sem, e2, e3]) rfl ⟨none, 0, 0, rfl, by omega, ?_, ?_⟩
      · exact Own.nil _ _
      · exact (BB.out.setCell (p := ⟨w.heap.size + 1 + 1, 0, none⟩) (by simp; omega) _).setCell (p := ⟨w.heap.size + 1 + 1, 1, none⟩) (by simp; omega) _
  · simp only [mConj, if_neg hbr, Prod.mk.injEq] at hM
    obtain ⟨rfl, rfl, rfl⟩ := hM
    have HCD : Hid (codeBs [⟨s, a, n, cap, xs⟩, ⟨t, b, m, cap2, ys⟩] = 1) := Lib.hid (by rw [codeBs_pair]; rw [if_neg hbr])
    go_enter Try.func32, Try.ntmps32
    replace R := Lib.hid (((R.out.alloc (.cells #[.int .i64 s, .slice a n cap] 29)).alloc (.cells #[.int .i64 t, .slice b m cap2] 29)).alloc (.cells #[.int .i64 0, .slice none 0 0] 29))
    replace Q := Lib.hid (((Q.out.alloc (.cells #[.int .i64 s, .slice a n cap] 29)).alloc (.cells #[.int .i64 t, .slice b m cap2] 29)).alloc (.cells #[.int .i64 0, .slice none 0 0] 29))
    have A := Lib.hid (((At2.new w (.int .i64 s) (.slice a n cap) 29).alloc (.cells #[.int .i64 t, .slice b m cap2] 29)).alloc (.cells #[.int .i64 0, .slice none 0 0] 29))
    have C := Lib.hid ((At2.place (w.alloc (.cells #[.int .i64 s, .slice a n cap] 29)) (.int .i64 t) (.slice b m cap2) 29 (w.heap.size + 1) (by simp)).alloc (.cells #[.int .i64 0, .slice none 0 0] 29))
    have Z := Lib.hid (At2.place ((w.alloc (.cells #[.int .i64 s, .slice a n cap] 29)).alloc (.cells #[.int .i64 t, .slice b m cap2] 29)) (.int .i64 0) (.slice none 0 0) 29 (w.heap.size + 1 + 1) (by simp))
    have BB := Lib.hid (below3 w (.cells #[.int .i64 s, .slice a n cap] 29) (.cells #[.int .i64 t, .slice b m cap2] 29) (.cells #[.int .i64 0, .slice none 0 0] 29))
    obtain ⟨qA1, qA2, qA3, qA4, qA5⟩ := A.out
    obtain ⟨qC1, qC2, qC3, qC4, qC5⟩ := C.out
    obtain ⟨qZ1, qZ2, qZ3, qZ4, qZ5⟩ := Z.out
    have RP := Lib.hid (readsB_pair _ (w.heap.size + 1 + 1 + 1) (by simp) s t a b n m cap cap2 xs ys R.out hn Q.out hn2)
    go_wp2_with fail
    refine (braidsCode_any _ _ _ _ _ RP.out (by omega)).mono ?_
    rintro e w1 ⟨rfl, hb⟩
    clear qA1 qA2 qA3 qA4 qA5 qC1 qC2 qC3 qC4 qC5 qZ1 qZ2 qZ3 qZ4 qZ5
    clear RP
    replace R := Lib.hid ((R.out.alloc _).below hb)
    replace Q := Lib.hid ((Q.out.alloc _).below hb)
    replace A := Lib.hid ((A.out.alloc _).below hb)
    replace C := Lib.hid ((C.out.alloc _).below hb)
    replace Z := Lib.hid ((Z.out.alloc _).below hb)
    replace BB := Lib.hid (below_go (BB.out.alloc BB.out.size _) hb (by have := BB.out.size; simp at *; omega))
    clear hb
    rw [HCD.out]
    have z2 : w.heap.size + 3 ≤ w1.heap.size := Z.out.1
    obtain ⟨qA1, qA2, qA3, qA4, qA5⟩ := A.out
    obtain ⟨qC1, qC2, qC3, qC4, qC5⟩ := C.out
    obtain ⟨qZ1, qZ2, qZ3, qZ4, qZ5⟩ := Z.out
    clear hbr
    go_wp2
    obtain ⟨_, e2, e3, _, _⟩ := Z.out.fill (.int .i64 0) (.slice none 0 0)
    refine bodyPost_ret (v := .tuple #[.agg #[.int .i64 0, .slice none 0 0], .int .i64 1]) (by simp [results, Try.results32, go_sem, e2, e3]) rfl ⟨none, 0, 0, rfl, by omega, ?_, ?_⟩
    · exact Own.nil _ _
    · exact (BB.out.setCell (p := ⟨w.heap.size + 1 + 1, 0, none⟩) (by simp; omega) _).setCell (p := ⟨w.heap.size + 1 + 1, 1, none⟩) (by simp; omega) _

set_option maxRecDepth 100000 in
set_option maxHeartbeats 2000000 in
theorem specConj_any {s : Int} {a : Option Addr} {n cap : Nat} {xs : List Int} {t : Int} {b : Option Addr} {m cap2 : Nat} {ys : List Int} {w : World} {fs : Int} {fxs : List Int} {fc : Int} (hr : Reads w a n xs) (hf : Fits xs) (hn : n ≤ 1048576) (hr2 : Reads w b m ys) (hf2 : Fits ys) (hn2 : m ≤ 1048576) (hM : mConj s xs t ys = (fs, fxs, fc)) :
    Calls Try.prog 31 #[.agg #[.int .i64 s, .slice a n cap], .agg #[.int .i64 t, .slice b m cap2]] w (RetBraid w fs fxs fc) := by
  obtain ⟨i0, hi, hz0, hz1, hz2⟩ := info_parts infoInt
  have R := Lib.hid hr; clear hr
  have Q := Lib.hid hr2; clear hr2
  have HF := Lib.hid hf; have HG := Lib.hid hf2; clear hf hf2
  have HL := Lib.hid R.out.len
  have HM2 := Lib.hid Q.out.len
  by_cases hbr : isBraid s xs = true ∧ isBraid t ys = true
  · have HB1 := Lib.hid hbr.1
    have HB2 := Lib.hid hbr.2
    have hn200 : n ≤ 200 := by have := HL.out; have := len_of_isBraid _ _ hbr.1; omega
    have hm200 : m ≤ 200 := by have := HM2.out; have := len_of_isBraid _ _ hbr.2; omega
    have s1 := lo_of_isBraid _ _ hbr.1
    have s8 := hi_of_isBraid _ _ hbr.1
    have t8 := hi_of_isBraid _ _ hbr.2
    have HSM : Hid (Small ys) := Lib.hid fun x hx => (letts_of_isBraid hbr.2 x hx).small (by omega)
    simp only [mConj, if_pos hbr] at hM
    have HIL : Hid ((inverse ys).length = m) := Lib.hid (by rw [inverse_length]; exact HM2.out)
    by_cases hst : s = t
    · rw [if_pos hst, HL.out, HM2.out] at hM
      have HST := Lib.hid hst; clear hst
      by_cases hlen : n + 2 * m ≤ 200
      · rw [if_pos hlen] at hM
        simp only [Prod.mk.injEq] at hM
        obtain ⟨rfl, rfl, rfl⟩ := hM
        have QO := Q
        have t1 : (s != t) = false := by simp [HST.out]
        have v1 : IntKind.i64.wrap (2 * (m : Int)) = 2 * (m : Int) := IntWalk.i64_in _ (by omega)
        have v2 : IntKind.i64.wrap ((n : Int) + 2 * (m : Int)) = (n : Int) + 2 * (m : Int) := IntWalk.i64_in _ (by omega)
        have v3 : ¬ ((n : Int) + 2 * (m : Int) > 200) := by omega
        go_enter Try.func31, Try.ntmps31
        replace R := Lib.hid (((R.out.alloc (.cells #[.int .i64 s, .slice a n cap] 29)).alloc (.cells #[.int .i64 t, .slice b m cap2] 29)).alloc (.cells #[.int .i64 0, .slice none 0 0] 29))
        replace Q := Lib.hid (((Q.out.alloc (.cells #[.int .i64 s, .slice a n cap] 29)).alloc (.cells #[.int .i64 t, .slice b m cap2] 29)).alloc (.cells #[.int .i64 0, .slice none 0 0] 29))
        have A := Lib.hid (((At2.new w (.int .i64 s) (.slice a n cap) 29).alloc (.cells #[.int .i64 t, .slice b m cap2] 29)).alloc (.cells #[.int .i64 0, .slice none 0 0] 29))
        have C := Lib.hid ((At2.place (w.alloc (.cells #[.int .i64 s, .slice a n cap] 29)) (.int .i64 t) (.slice b m cap2) 29 (w.heap.size + 1) (by simp)).alloc (.cells #[.int .i64 0, .slice none 0 0] 29))
        have Z := Lib.hid (At2.place ((w.alloc (.cells #[.int .i64 s, .slice a n cap] 29)).alloc (.cells #[.int .i64 t, .slice b m cap2] 29)) (.int .i64 0) (.slice none 0 0) 29 (w.heap.size + 1 + 1) (by simp))
        have BB := Lib.hid (below3 w (.cells #[.int .i64 s, .slice a n cap] 29) (.cells #[.int .i64 t, .slice b m cap2] 29) (.cells #[.int .i64 0, .slice none 0 0] 29))
        obtain ⟨qA1, qA2, qA3, qA4, qA5⟩ := A.out
        obtain ⟨qC1, qC2, qC3, qC4, qC5⟩ := C.out
        obtain ⟨qZ1, qZ2, qZ3, qZ4, qZ5⟩ := Z.out
        go_wp2_with fail
        refine (l01Is_any s a n cap xs _ R.out HF.out hn).mono ?_
        rintro e w1' ⟨rfl, hb⟩
        rw [HB1.out]
        clear qA1 qA2 qA3 qA4 qA5 qC1 qC2 qC3 qC4 qC5 qZ1 qZ2 qZ3 qZ4 qZ5
        replace R := Lib.hid (R.out.below hb)
        replace Q := Lib.hid (Q.out.below hb)
        replace A := Lib.hid (A.out.below hb)
        replace C := Lib.hid (C.out.below hb)
        replace Z := Lib.hid (Z.out.below hb)
        replace BB := Lib.hid (below_go BB.out hb BB.out.size)
        clear hb
        obtain ⟨qA1, qA2, qA3, qA4, qA5⟩ := A.out
        obtain ⟨qC1, qC2, qC3, qC4, qC5⟩ := C.out
        obtain ⟨qZ1, qZ2, qZ3, qZ4, qZ5⟩ := Z.out
        go_wp2_with fail
        refine (l01Is_any t b m cap2 ys _ Q.out HG.out hn2).mono ?_
        rintro e w2' ⟨rfl, hb⟩
        rw [HB2.out]
        clear qA1 qA2 qA3 qA4 qA5 qC1 qC2 qC3 qC4 qC5 qZ1 qZ2 qZ3 qZ4 qZ5
        replace R := Lib.hid (R.out.below hb)
        replace Q := Lib.hid (Q.out.below hb)
        replace A := Lib.hid (A.out.below hb)
        replace C := Lib.hid (C.out.below hb)
        replace Z := Lib.hid (Z.out.below hb)
        replace BB := Lib.hid (below_go BB.out hb BB.out.size)
        clear hb
        obtain ⟨qA1, qA2, qA3, qA4, qA5⟩ := A.out
        obtain ⟨qC1, qC2, qC3, qC4, qC5⟩ := C.out
        obtain ⟨qZ1, qZ2, qZ3, qZ4, qZ5⟩ := Z.out
        have zz : w.heap.size + 3 ≤ w2'.heap.size := Z.out.1
        go_wp2
        go_region_held3 (fun w' => w'.cell? ⟨w.heap.size, 1, none⟩ = some (.slice a n cap) ∧ w'.cell? ⟨w.heap.size + 1, 1, none⟩ = some (.slice b m cap2)) (first | with_reducible exact ⟨qA3, qC3⟩ | with_reducible exact ⟨rA3, rC3⟩ | with_reducible exact ⟨uA3, uC3⟩ | with_reducible exact ⟨xA3, xC3⟩ | with_reducible exact ⟨yA3, yC3⟩ | go_keep)
          (first
            | (go_at_call 69; refine (l01Own_any b m cap2 ys _ Q.out.drew hn2).mono ?_; rintro e w3 ⟨a3, c3, rfl, ho, hb⟩; have hB3 := below_go BB.out.drew hb (by show _ ≤ w2'.heap.size; omega); have hz3 : w.heap.size + 3 ≤ w3.heap.size := (Z.out.drew.below hb).1; have HA3 := Lib.hid (A.out.drew.below hb); have HC3 := Lib.hid (C.out.drew.below hb); have HZ3 := Lib.hid (Z.out.drew.below hb); have HR3 := Lib.hid (R.out.drew.below hb); have HQ3 := Lib.hid (Q.out.drew.below hb); have hO3 : OwnV (w.heap.size + 3) w3 (.slice a3 m c3) m ys := (show Own (w.heap.size + 3) w3 a3 m c3 ys from ho.mono (by show _ ≤ w2'.heap.size; exact zz)); have HB3 := Lib.hid hB3; clear hB3 ho; obtain ⟨rA1, rA2, rA3, rA4, rA5⟩ := HA3.out; obtain ⟨rC1, rC2, rC3, rC4, rC5⟩ := HC3.out)
            | (refine step_append_ints rfl _ _ 22 rfl (w.heap.size + 3) i0 Try.underlying22 hi hz0 hz1 hz2 _ _ _ rfl hO3 _ _ _ xs rfl HR3.out (by omega) hz3 ?_; intro a4 c4 w4 ho4 hg4; have hb4 := below_appended5 (Below.refl (w.heap.size + 3) w3) hz3 hO3 hg4; have hz4 : w.heap.size + 3 ≤ w4.heap.size := Nat.le_trans hz3 hb4.size; have HA4 := Lib.hid (HA3.out.heap hb4.size (hb4.block _ (by omega))); have HC4 := Lib.hid (HC3.out.heap hb4.size (hb4.block _ (by omega))); have HZ4 := Lib.hid (HZ3.out.heap hb4.size (hb4.block _ (by omega))); have HB4 := Lib.hid (HB3.out.trans (hb4.mono (by omega))); have HQ4 := Lib.hid ((QO.out.below HB4.out)); have HO4 := Lib.hid ho4; clear hO3; obtain ⟨uA1, uA2, uA3, uA4, uA5⟩ := HA4.out; obtain ⟨uC1, uC2, uC3, uC4, uC5⟩ := HC4.out)
            | (go_at_call 70; refine (l01Inverse_any b m cap2 ys _ HQ4.out HSM.out hn2).mono ?_; rintro e w5 ⟨a5, c5, rfl, ho5, hb5⟩; have hz5 : w.heap.size + 3 ≤ w5.heap.size := Nat.le_trans hz4 hb5.size; have HA5 := Lib.hid (HA4.out.below hb5); have HC5 := Lib.hid (HC4.out.below hb5); have HZ5 := Lib.hid (HZ4.out.below hb5); have HB5 := Lib.hid (below_go HB4.out hb5 (by omega)); have hO5 : OwnV (w.heap.size + 3) w5 (.slice a4 (m + n) c4) (m + n) (ys ++ xs) := HO4.out.below hb5; have hR5 := ho5.reads; obtain ⟨xA1, xA2, xA3, xA4, xA5⟩ := HA5.out; obtain ⟨xC1, xC2, xC3, xC4, xC5⟩ := HC5.out)
            | (refine step_append_ints rfl _ _ 22 rfl (w.heap.size + 3) i0 Try.underlying22 hi hz0 hz1 hz2 _ _ _ rfl hO5 _ _ _ (inverse ys) rfl hR5 (by omega) hz5 ?_; intro a6 c6 w6 ho6 hg6; have hb6 := below_appended5 (Below.refl (w.heap.size + 3) w5) hz5 hO5 hg6; have HA6 := Lib.hid (HA5.out.heap hb6.size (hb6.block _ (by omega))); have HC6 := Lib.hid (HC5.out.heap hb6.size (hb6.block _ (by omega))); have HZ6 := Lib.hid (HZ5.out.heap hb6.size (hb6.block _ (by omega))); have HB6 := Lib.hid (HB5.out.trans (hb6.mono (by omega))); have HO6 := Lib.hid ho6; obtain ⟨yA1, yA2, yA3, yA4, yA5⟩ := HA6.out; obtain ⟨yC1, yC2, yC3, yC4, yC5⟩ := HC6.out))
        clear BB Z
        have BB := HB6; have Z := HZ6
        obtain ⟨yZ1, yZ2, yZ3, yZ4, yZ5⟩ := Z.out
        go_wp2
        obtain ⟨_, e2, e3, _, _⟩ := Z.out.fill (.int .i64 s) (.slice a6 (m + n + m) c6)
        have O7 : Own (w.heap.size + 1 + 1 + 1) _ a6 (m + n + m) c6 _ := HO6.out
        refine bodyPost_ret (v := .tuple #[.agg #[.int .i64 s, .slice a6 (m + n + m) c6], .int .i64 0]) (by simp [results, Try.results31, go_sem, e2, e3]) rfl ⟨a6, (m + n + m), c6, rfl, by omega, ?_, ?_⟩
        · exact ((O7.setCell_below (by simp) _).setCell_below (by simp) _).mono (by omega)
        · exact (BB.out.setCell (p := ⟨w.heap.size + 1 + 1, 0, none⟩) (by simp; omega) _).setCell (p := ⟨w.heap.size + 1 + 1, 1, none⟩) (by simp; omega) _
      · rw [if_neg hlen] at hM
        simp only [Prod.mk.injEq] at hM
        obtain ⟨rfl, rfl, rfl⟩ := hM
        have t1 : (s != t) = false := by simp [HST.out]
        have v1 : IntKind.i64.wrap (2 * (m : Int)) = 2 * (m : Int) := IntWalk.i64_in _ (by omega)
        have v2 : IntKind.i64.wrap ((n : Int) + 2 * (m : Int)) = (n : Int) + 2 * (m : Int) := IntWalk.i64_in _ (by omega)
        have v3 :  ((n : Int) + 2 * (m : Int) > 200) := by omega
        go_enter Try.func31, Try.ntmps31
        replace R := Lib.hid (((R.out.alloc (.cells #[.int .i64 s, .slice a n cap] 29)).alloc (.cells #[.int .i64 t, .slice b m cap2] 29)).alloc (.cells #[.int .i64 0, .slice none 0 0] 29))
        replace Q := Lib.hid (((Q.out.alloc (.cells #[.int .i64 s, .slice a n cap] 29)).alloc (.cells #[.int .i64 t, .slice b m cap2] 29)).alloc (.cells #[.int .i64 0, .slice none 0 0] 29))
        have A := Lib.hid (((At2.new w (.int .i64 s) (.slice a n cap) 29).alloc (.cells #[.int .i64 t, .slice b m cap2] 29)).alloc (.cells #[.int .i64 0, .slice none 0 0] 29))
        have C := Lib.hid ((At2.place (w.alloc (.cells #[.int .i64 s, .slice a n cap] 29)) (.int .i64 t) (.slice b m cap2) 29 (w.heap.size + 1) (by simp)).alloc (.cells #[.int .i64 0, .slice none 0 0] 29))
        have Z := Lib.hid (At2.place ((w.alloc (.cells #[.int .i64 s, .slice a n cap] 29)).alloc (.cells #[.int .i64 t, .slice b m cap2] 29)) (.int .i64 0) (.slice none 0 0) 29 (w.heap.size + 1 + 1) (by simp))
        have BB := Lib.hid (below3 w (.cells #[.int .i64 s, .slice a n cap] 29) (.cells #[.int .i64 t, .slice b m cap2] 29) (.cells #[.int .i64 0, .slice none 0 0] 29))
        obtain ⟨qA1, qA2, qA3, qA4, qA5⟩ := A.out
        obtain ⟨qC1, qC2, qC3, qC4, qC5⟩ := C.out
        obtain ⟨qZ1, qZ2, qZ3, qZ4, qZ5⟩ := Z.out
        go_wp2_with fail
        refine (l01Is_any s a n cap xs _ R.out HF.out hn).mono ?_
        rintro e w1' ⟨rfl, hb⟩
        rw [HB1.out]
        clear qA1 qA2 qA3 qA4 qA5 qC1 qC2 qC3 qC4 qC5 qZ1 qZ2 qZ3 qZ4 qZ5
        replace R := Lib.hid (R.out.below hb)
        replace Q := Lib.hid (Q.out.below hb)
        replace A := Lib.hid (A.out.below hb)
        replace C := Lib.hid (C.out.below hb)
        replace Z := Lib.hid (Z.out.below hb)
        replace BB := Lib.hid (below_go BB.out hb BB.out.size)
        clear hb
        obtain ⟨qA1, qA2, qA3, qA4, qA5⟩ := A.out
        obtain ⟨qC1, qC2, qC3, qC4, qC5⟩ := C.out
        obtain ⟨qZ1, qZ2, qZ3, qZ4, qZ5⟩ := Z.out
        go_wp2_with fail
        refine (l01Is_any t b m cap2 ys _ Q.out HG.out hn2).mono ?_
        rintro e w2' ⟨rfl, hb⟩
        rw [HB2.out]
        clear qA1 qA2 qA3 qA4 qA5 qC1 qC2 qC3 qC4 qC5 qZ1 qZ2 qZ3 qZ4 qZ5
        replace R := Lib.hid (R.out.below hb)
        replace Q := Lib.hid (Q.out.below hb)
        replace A := Lib.hid (A.out.below hb)
        replace C := Lib.hid (C.out.below hb)
        replace Z := Lib.hid (Z.out.below hb)
        replace BB := Lib.hid (below_go BB.out hb BB.out.size)
        clear hb
        obtain ⟨qA1, qA2, qA3, qA4, qA5⟩ := A.out
        obtain ⟨qC1, qC2, qC3, qC4, qC5⟩ := C.out
        obtain ⟨qZ1, qZ2, qZ3, qZ4, qZ5⟩ := Z.out
        go_wp2
        obtain ⟨_, e2, e3, _, _⟩ := Z.out.fill (.int .i64 0) (.slice none 0 0)
        refine bodyPost_ret (v := .tuple #[.agg #[.int .i64 0, .slice none 0 0], .int .i64 3]) (by simp [results, Try.results31, go_sem, e2, e3]) rfl ⟨none, 0, 0, rfl, by omega, ?_, ?_⟩
        · exact Own.nil _ _
        · exact (BB.out.setCell (p := ⟨w.heap.size + 1 + 1, 0, none⟩) (by simp; omega) _).setCell (p := ⟨w.heap.size + 1 + 1, 1, none⟩) (by simp; omega) _
    · rw [if_neg hst] at hM
      simp only [Prod.mk.injEq] at hM
      obtain ⟨rfl, rfl, rfl⟩ := hM
      have t1 : (s != t) = true := by rw [bne_iff_ne]; exact hst
      clear hst
      go_enter Try.func31, Try.ntmps31
      replace R := Lib.hid (((R.out.alloc (.cells #[.int .i64 s, .slice a n cap] 29)).alloc (.cells #[.int .i64 t, .slice b m cap2] 29)).alloc (.cells #[.int .i64 0, .slice none 0 0] 29))
      replace Q := Lib.hid (((Q.out.alloc (.cells #[.int .i64 s, .slice a n cap] 29)).alloc (.cells #[.int .i64 t, .slice b m cap2] 29)).alloc (.cells #[.int .i64 0, .slice none 0 0] 29))
      have A := Lib.hid (((At2.new w (.int .i64 s) (.slice a n cap) 29).alloc (.cells #[.int .i64 t, .slice b m cap2] 29)).alloc (.cells #[.int .i64 0, .slice none 0 0] 29))
      have C := Lib.hid ((At2.place (w.alloc (.cells #[.int .i64 s, .slice a n cap] 29)) (.int .i64 t) (.slice b m cap2) 29 (w.heap.size + 1) (by simp)).alloc (.cells #[.int .i64 0, .slice none 0 0] 29))
      have Z := Lib.hid (At2.place ((w.alloc (.cells #[.int .i64 s, .slice a n cap] 29)).alloc (.cells #[.int .i64 t, .slice b m cap2] 29)) (.int .i64 0) (.slice none 0 0) 29 (w.heap.size + 1 + 1) (by simp))
      have BB := Lib.hid (below3 w (.cells #[.int .i64 s, .slice a n cap] 29) (.cells #[.int .i64 t, .slice b m cap2] 29) (.cells #[.int .i64 0, .slice none 0 0] 29))
      obtain ⟨qA1, qA2, qA3, qA4, qA5⟩ := A.out
      obtain ⟨qC1, qC2, qC3, qC4, qC5⟩ := C.out
      obtain ⟨qZ1, qZ2, qZ3, qZ4, qZ5⟩ := Z.out
      go_wp2_with fail
      refine (l01Is_any s a n cap xs _ R.out HF.out hn).mono ?_
      rintro e w1' ⟨rfl, hb⟩
      rw [HB1.out]
      clear qA1 qA2 qA3 qA4 qA5 qC1 qC2 qC3 qC4 qC5 qZ1 qZ2 qZ3 qZ4 qZ5
      replace R := Lib.hid (R.out.below hb)
      replace Q := Lib.hid (Q.out.below hb)
      replace A := Lib.hid (A.out.below hb)
      replace C := Lib.hid (C.out.below hb)
      replace Z := Lib.hid (Z.out.below hb)
      replace BB := Lib.hid (below_go BB.out hb BB.out.size)
      clear hb
      obtain ⟨qA1, qA2, qA3, qA4, qA5⟩ := A.out
      obtain ⟨qC1, qC2, qC3, qC4, qC5⟩ := C.out
      obtain ⟨qZ1, qZ2, qZ3, qZ4, qZ5⟩ := Z.out
      go_wp2_with fail
      refine (l01Is_any t b m cap2 ys _ Q.out HG.out hn2).mono ?_
      rintro e w2' ⟨rfl, hb⟩
      rw [HB2.out]
      clear qA1 qA2 qA3 qA4 qA5 qC1 qC2 qC3 qC4 qC5 qZ1 qZ2 qZ3 qZ4 qZ5
      replace R := Lib.hid (R.out.below hb)
      replace Q := Lib.hid (Q.out.below hb)
      replace A := Lib.hid (A.out.below hb)
      replace C := Lib.hid (C.out.below hb)
      replace Z := Lib.hid (Z.out.below hb)
      replace BB := Lib.hid (below_go BB.out hb BB.out.size)
      clear hb
      obtain ⟨qA1, qA2, qA3, qA4, qA5⟩ := A.out
      obtain ⟨qC1, qC2, qC3, qC4, qC5⟩ := C.out
      obtain ⟨qZ1, qZ2, qZ3, qZ4, qZ5⟩ := Z.out
      go_wp2
      obtain ⟨_, e2, e3, _, _⟩ := Z.out.fill (.int .i64 0) (.slice none 0 0)
      refine bodyPost_ret (v := .tuple #[.agg #[.int .i64 0, .slice none 0 0], .int .i64 2]) (by simp [results, Try.results31, go_sem, e2, e3]) rfl ⟨none, 0, 0, rfl, by omega, ?_, ?_⟩
      · exact Own.nil _ _
      · exact (BB.out.setCell (p := ⟨w.heap.size + 1 + 1, 0, none⟩) (by simp; omega) _).setCell (p := ⟨w.heap.size + 1 + 1, 1, none⟩) (by simp; omega) _
  · simp only [mConj, if_neg hbr, Prod.mk.injEq] at hM
    obtain ⟨rfl, rfl, rfl⟩ := hM
    by_cases hb1 : isBraid s xs = true
    · have HB1 := Lib.hid hb1
      have hb2 : isBraid t ys = false := by rw [← Bool.not_eq_true]; exact fun h => hbr ⟨hb1, h⟩
      have HB2 := Lib.hid hb2
      clear hbr hb1 hb2
      go_enter Try.func31, Try.ntmps31
      replace R := Lib.hid (((R.out.alloc (.cells #[.int .i64 s, .slice a n cap] 29)).alloc (.cells #[.int .i64 t, .slice b m cap2] 29)).alloc (.cells #[.int .i64 0, .slice none 0 0] 29))
      replace Q := Lib.hid (((Q.out.alloc (.cells #[.int .i64 s, .slice a n cap] 29)).alloc (.cells #[.int .i64 t, .slice b m cap2] 29)).alloc (.cells #[.int .i64 0, .slice none 0 0] 29))
      have A := Lib.hid (((At2.new w (.int .i64 s) (.slice a n cap) 29).alloc (.cells #[.int .i64 t, .slice b m cap2] 29)).alloc (.cells #[.int .i64 0, .slice none 0 0] 29))
      have C := Lib.hid ((At2.place (w.alloc (.cells #[.int .i64 s, .slice a n cap] 29)) (.int .i64 t) (.slice b m cap2) 29 (w.heap.size + 1) (by simp)).alloc (.cells #[.int .i64 0, .slice none 0 0] 29))
      have Z := Lib.hid (At2.place ((w.alloc (.cells #[.int .i64 s, .slice a n cap] 29)).alloc (.cells #[.int .i64 t, .slice b m cap2] 29)) (.int .i64 0) (.slice none 0 0) 29 (w.heap.size + 1 + 1) (by simp))
      have BB := Lib.hid (below3 w (.cells #[.int .i64 s, .slice a n cap] 29) (.cells #[.int .i64 t, .slice b m cap2] 29) (.cells #[.int .i64 0, .slice none 0 0] 29))
      obtain ⟨qA1, qA2, qA3, qA4, qA5⟩ := A.out
      obtain ⟨qC1, qC2, qC3, qC4, qC5⟩ := C.out
      obtain ⟨qZ1, qZ2, qZ3, qZ4, qZ5⟩ := Z.out
      go_wp2_with fail
      refine (l01Is_any s a n cap xs _ R.out HF.out hn).mono ?_
      rintro e w1' ⟨rfl, hb⟩
      rw [HB1.out]
      clear qA1 qA2 qA3 qA4 qA5 qC1 qC2 qC3 qC4 qC5 qZ1 qZ2 qZ3 qZ4 qZ5
      replace R := Lib.hid (R.out.below hb)
      replace Q := Lib.hid (Q.out.below hb)
      replace A := Lib.hid (A.out.below hb)
      replace C := Lib.hid (C.out.below hb)
      replace Z := Lib.hid (Z.out.below hb)
      replace BB := Lib.hid (below_go BB.out hb BB.out.size)
      clear hb
      obtain ⟨qA1, qA2, qA3, qA4, qA5⟩ := A.out
      obtain ⟨qC1, qC2, qC3, qC4, qC5⟩ := C.out
      obtain ⟨qZ1, qZ2, qZ3, qZ4, qZ5⟩ := Z.out
      go_wp2_with fail
      refine (l01Is_any t b m cap2 ys _ Q.out HG.out hn2).mono ?_
      rintro e w2' ⟨rfl, hb⟩
      rw [HB2.out]
      clear qA1 qA2 qA3 qA4 qA5 qC1 qC2 qC3 qC4 qC5 qZ1 qZ2 qZ3 qZ4 qZ5
      replace R := Lib.hid (R.out.below hb)
      replace Q := Lib.hid (Q.out.below hb)
      replace A := Lib.hid (A.out.below hb)
      replace C := Lib.hid (C.out.below hb)
      replace Z := Lib.hid (Z.out.below hb)
      replace BB := Lib.hid (below_go BB.out hb BB.out.size)
      clear hb
      obtain ⟨qA1, qA2, qA3, qA4, qA5⟩ := A.out
      obtain ⟨qC1, qC2, qC3, qC4, qC5⟩ := C.out
      obtain ⟨qZ1, qZ2, qZ3, qZ4, qZ5⟩ := Z.out
      go_wp2
      obtain ⟨_, e2, e3, _, _⟩ := Z.out.fill (.int .i64 0) (.slice none 0 0)
      refine bodyPost_ret (v := .tuple #[.agg #[.int .i64 0, .slice none 0 0], .int .i64 1]) (by simp [results, Try.results31, go_sem, e2, e3]) rfl ⟨none, 0, 0, rfl, by omega, ?_, ?_⟩
      · exact Own.nil _ _
      · exact (BB.out.setCell (p := ⟨w.heap.size + 1 + 1, 0, none⟩) (by simp; omega) _).setCell (p := ⟨w.heap.size + 1 + 1, 1, none⟩) (by simp; omega) _
    · have hb1' : isBraid s xs = false := by simpa using hb1
      have HB1 := Lib.hid hb1'
      clear hbr hb1 hb1'
      go_enter Try.func31, Try.ntmps31
      replace R := Lib.hid (((R.out.alloc (.cells #[.int .i64 s, .slice a n cap] 29)).alloc (.cells #[.int .i64 t, .slice b m cap2] 29)).alloc (.cells #[.int .i64 0, .slice none 0 0] 29))
      replace Q := Lib.hid (((Q.out.alloc (.cells #[.int .i64 s, .slice a n cap] 29)).alloc (.cells #[.int .i64 t, .slice b m cap2] 29)).alloc (.cells #[.int .i64 0, .slice none 0 0] 29))
      have A := Lib.hid (((At2.new w (.int .i64 s) (.slice a n cap) 29).alloc (.cells #[.int .i64 t, .slice b m cap2] 29)).alloc (.cells #[.int .i64 0, .slice none 0 0] 29))
      have C := Lib.hid ((At2.place (w.alloc (.cells #[.int .i64 s, .slice a n cap] 29)) (.int .i64 t) (.slice b m cap2) 29 (w.heap.size + 1) (by simp)).alloc (.cells #[.int .i64 0, .slice none 0 0] 29))
      have Z := Lib.hid (At2.place ((w.alloc (.cells #[.int .i64 s, .slice a n cap] 29)).alloc (.cells #[.int .i64 t, .slice b m cap2] 29)) (.int .i64 0) (.slice none 0 0) 29 (w.heap.size + 1 + 1) (by simp))
      have BB := Lib.hid (below3 w (.cells #[.int .i64 s, .slice a n cap] 29) (.cells #[.int .i64 t, .slice b m cap2] 29) (.cells #[.int .i64 0, .slice none 0 0] 29))
      obtain ⟨qA1, qA2, qA3, qA4, qA5⟩ := A.out
      obtain ⟨qC1, qC2, qC3, qC4, qC5⟩ := C.out
      obtain ⟨qZ1, qZ2, qZ3, qZ4, qZ5⟩ := Z.out
      go_wp2_with fail
      refine (l01Is_any s a n cap xs _ R.out HF.out hn).mono ?_
      rintro e w1' ⟨rfl, hb⟩
      rw [HB1.out]
      clear qA1 qA2 qA3 qA4 qA5 qC1 qC2 qC3 qC4 qC5 qZ1 qZ2 qZ3 qZ4 qZ5
      replace R := Lib.hid (R.out.below hb)
      replace Q := Lib.hid (Q.out.below hb)
      replace A := Lib.hid (A.out.below hb)
      replace C := Lib.hid (C.out.below hb)
      replace Z := Lib.hid (Z.out.below hb)
      replace BB := Lib.hid (below_go BB.out hb BB.out.size)
      clear hb
      obtain ⟨qA1, qA2, qA3, qA4, qA5⟩ := A.out
      obtain ⟨qC1, qC2, qC3, qC4, qC5⟩ := C.out
      obtain ⟨qZ1, qZ2, qZ3, qZ4, qZ5⟩ := Z.out
      go_wp2
      obtain ⟨_, e2, e3, _, _⟩ := Z.out.fill (.int .i64 0) (.slice none 0 0)
      refine bodyPost_ret (v := .tuple #[.agg #[.int .i64 0, .slice none 0 0], .int .i64 1]) (by simp [results, Try.results31, go_sem, e2, e3]) rfl ⟨none, 0, 0, rfl, by omega, ?_, ?_⟩
      · exact Own.nil _ _
      · exact (BB.out.setCell (p := ⟨w.heap.size + 1 + 1, 0, none⟩) (by simp; omega) _).setCell (p := ⟨w.heap.size + 1 + 1, 1, none⟩) (by simp; omega) _

end Go.Proofs.Ytehcbamfendbaaa
