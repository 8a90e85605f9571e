/- The code for an argument that has to be pure: the model and the program. -/
import Derived.Test.YtmlejlediflaaaaPure
import Derived.Test.YtmlejlediflaaaaPureS
namespace Go.Proofs.Ytmlejlediflaaaa
open Go.RowKit Go.ChangeShapes

/-- The code for an argument that has to be pure. -/
def pureC (s : Int) (xs : List Int) : Int := if isBraid s xs = true then (if pureB xs = true then 0 else 5) else 1

theorem pureC_zero {s : Int} {xs : List Int} (h : pureC s xs = 0) : isBraid s xs = true ∧ pureB xs = true := by
  unfold pureC at h
  split at h
  · split at h
    · exact ⟨‹_›, ‹_›⟩
    · cases h
  · cases h

set_option maxRecDepth 100000 in
set_option maxHeartbeats 1000000 in
theorem pureCode_any {s : Int} {a : Option Addr} {n cap : Nat} {xs : List Int} {w : World} {fc : Int} (hr : Reads w a n xs) (hf : Fits xs) (hn : n ≤ 1048576) (hM : pureC s xs = fc) :
    Calls Try.prog 67 #[.agg #[.int .i64 s, .slice a n cap]] w fun e w' => e = .returned (.int .i64 fc) ∧ Below w.heap.size w w' := by
  have R := Lib.hid (hr.alloc (.cells #[.int .i64 s, .slice a n cap] 24)); clear hr
  have HF := Lib.hid hf; clear hf
  have A := Lib.hid (At2.new w (.int .i64 s) (.slice a n cap) 24)
  have BB := Lib.hid (below1 w (.cells #[.int .i64 s, .slice a n cap] 24))
  obtain ⟨qA1, qA2, qA3, qA4, qA5⟩ := A.out
  unfold pureC at hM
  by_cases hbr : isBraid s xs = true
  · rw [if_pos hbr] at hM
    by_cases hp : pureB xs = true
    · rw [if_pos hp] at hM
      have HM : Hid (mPure s xs = (true, 0)) := Lib.hid (by rw [mPure, if_pos hbr, hp])
      subst hM
      clear hbr hp
      go_enter Try.func67, Try.ntmps67
      go_wp2_with fail
      refine (implPure_any R.out HF.out hn HM.out).mono ?_
      rintro e w1 ⟨rfl, hb⟩
      clear qA1 qA2 qA3 qA4 qA5
      replace BB := Lib.hid (below_go BB.out hb BB.out.size); clear hb
      have t1 : ((0 : Int) == 0) = true := by simp
      go_wp2
      go_ret
      exact ⟨rfl, BB.out⟩
    · rw [if_neg hp] at hM
      have hp' : pureB xs = false := by simpa using hp
      have HM : Hid (mPure s xs = (false, 0)) := Lib.hid (by rw [mPure, if_pos hbr, hp'])
      subst hM
      clear hbr hp hp'
      go_enter Try.func67, Try.ntmps67
      go_wp2_with fail
      refine (implPure_any R.out HF.out hn HM.out).mono ?_
      rintro e w1 ⟨rfl, hb⟩
      clear qA1 qA2 qA3 qA4 qA5
      replace BB := Lib.hid (below_go BB.out hb BB.out.size); clear hb
      have t1 : ((0 : Int) == 0) = true := by simp
      go_wp2
      go_ret
      exact ⟨rfl, BB.out⟩
  · rw [if_neg hbr] at hM
    have HM : Hid (mPure s xs = (false, 1)) := Lib.hid (by rw [mPure, if_neg hbr])
    subst hM
    clear hbr
    go_enter Try.func67, Try.ntmps67
    go_wp2_with fail
    refine (implPure_any R.out HF.out hn HM.out).mono ?_
    rintro e w1 ⟨rfl, hb⟩
    clear qA1 qA2 qA3 qA4 qA5
    replace BB := Lib.hid (below_go BB.out hb BB.out.size); clear hb
    have t1 : ((1 : Int) == 0) = false := by simp
    go_wp2
    go_ret
    exact ⟨rfl, BB.out⟩

set_option maxRecDepth 100000 in
set_option maxHeartbeats 1000000 in
theorem l10Pure_any {s : Int} {a : Option Addr} {n cap : Nat} {xs : List Int} {w : World} {fc : Int} (hr : Reads w a n xs) (hf : Fits xs) (hn : n ≤ 1048576) (hM : pureC s xs = fc) :
    Calls Try.prog 65 #[.agg #[.int .i64 s, .slice a n cap]] w fun e w' => e = .returned (.int .i64 fc) ∧ Below w.heap.size w w' := by
  have R := Lib.hid hr; clear hr
  have HF := Lib.hid hf; clear hf
  unfold pureC at hM
  by_cases hbr : isBraid s xs = true
  · rw [if_pos hbr] at hM
    obtain ⟨k, rfl, k1, k8, hx⟩ := braid_nat hbr
    have HBR := Lib.hid hbr
    clear hbr
    have KP := Lib.hid (fun W (hR : Reads W a n xs) => l01Perm_any k k8 a n cap xs W hR hx hn)
    have KN := Lib.hid (fun W => l01Perm_any k k8 none 0 0 [] W (.zero rfl) (fun x hx => by cases hx) (by omega))
    have HQ := Lib.hid (fun W => (equal8b (ends 8 (run8 (startM k) xs) k) (ends 8 (run8 (startM k) []) k) (ends_len _ _ _) (ends_len _ _ _) W).trans (by rw [perm_pure k k1 k8 xs hx]))
    clear hx
    obtain ⟨E1, hE1⟩ : ∃ E, E = ends 8 (run8 (startM k) xs) k := ⟨_, rfl⟩
    obtain ⟨E2, hE2⟩ : ∃ E, E = ends 8 (run8 (startM k) []) k := ⟨_, rfl⟩
    rw [← hE1] at KP HQ
    rw [← hE2] at KN HQ
    clear hE1 hE2
    obtain ⟨pb, hpb⟩ : ∃ pb, pb = pureB xs := ⟨_, rfl⟩
    rw [← hpb] at HQ hM
    clear hpb
    go_enter Try.func65, Try.ntmps65
    go_wp2_with fail
    refine (l01Is_any _ _ _ _ xs _ (R.out.alloc _) HF.out hn).mono ?_
    rw [HBR.out]
    rintro e w1 ⟨rfl, hb⟩
    have A1 := Lib.hid ((At2.new w (.int .i64 k) (.slice a n cap) 24).below hb)
    obtain ⟨q1, q2, q3, q4, q5⟩ := A1.out
    have R1 := Lib.hid ((R.out.alloc (.cells #[.int .i64 k, .slice a n cap] 24)).below hb)
    have BB := Lib.hid (below_go (below1 w _) hb (by simp)); clear hb
    have heq := HQ.out
    have zb := BB.out.size
    go_wp2
    go_region_held3 (fun w' => w'.cell? ⟨w.heap.size, 0, none⟩ = some (.int .i64 k) ∧ w'.cell? ⟨w.heap.size, 1, none⟩ = some (.slice a n cap)) (first | exact ⟨q2, q3⟩ | exact ⟨r2, r3⟩)
      (first
        | (go_at_call_of 98 (Value.slice a n cap); refine (KP.out _ R1.out.drew).mono ?_; rintro e w2 ⟨rfl, h1⟩; obtain ⟨r1, r2, r3, r4, r5⟩ := A1.out.drew.below h1)
        | (go_at_call 98; refine (KN.out _).mono ?_; rintro e w3 ⟨rfl, h2⟩; obtain ⟨r1, r2, r3, r4, r5⟩ := (A1.out.drew.below h1).below h2))
    clear heq
    cases pb with
    | true =>
      rw [if_pos rfl] at hM
      subst hM
      go_wp2
      go_ret
      exact ⟨rfl, below_go (below_go BB.out.drew h1 zb) h2 (Nat.le_trans zb h1.size)⟩
    | false =>
      rw [if_neg (by simp)] at hM
      subst hM
      go_wp2
      go_ret
      exact ⟨rfl, below_go (below_go BB.out.drew h1 zb) h2 (Nat.le_trans zb h1.size)⟩
  · rw [if_neg hbr] at hM
    subst hM
    have hb0 : isBraid s xs = false := by simpa using hbr
    clear hbr
    have HB0 := Lib.hid hb0
    clear hb0
    go_enter Try.func65, Try.ntmps65
    go_wp2_with fail
    refine (l01Is_any _ _ _ _ xs _ (R.out.alloc _) HF.out hn).mono ?_
    rw [HB0.out]
    rintro e w1 ⟨rfl, hb⟩
    have BB := Lib.hid (below_go (below1 w _) hb (by simp)); clear hb
    go_wp2
    go_ret
    exact ⟨rfl, BB.out⟩

end Go.Proofs.Ytmlejlediflaaaa
