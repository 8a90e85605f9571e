/- Is a braid pure: the model's answer. -/
import Derived.Test.YtinflgcpkeomlaaEnds
import Derived.Test.YtinflgcpkeomlaaIs
import Derived.Test.YtinflgcpkeomlaaPureP
import Derived.Test.YtinflgcpkeomlaaIIs
import Derived.Deep.RegionHeld3
namespace Go.Proofs.Ytinflgcpkeomlaa
open Go.RowKit Go.ChangeShapes

/-- Two arrays of eight bytes are compared. -/
theorem equal8b (l m : List Int) (hl : l.length = 8) (hm : m.length = 8) (w : World) :
    Sem.run Try.prog (Op.equalIn 10000 38 (arr8 .u8 l) (arr8 .u8 m)) w = .ok (decide (l = m)) w := by
  obtain ⟨i0, hi, hz0, hz1, hz2⟩ := info_parts infoByte
  have hu : Try.prog.underlying 38 = some (.array 8 5) := by kernel_rfl
  have hc : Try.prog.cellsOf 5 = 1 := by kernel_rfl
  refine (run_equalIn_array w 9999 (cells8 .u8 l) (cells8 .u8 m) hu hi).trans ?_
  rw [hc, eqItems8 9998 l m w _ (fun j hj => List.mem_range.1 hj), all8_eq l m hl hm]

set_option maxRecDepth 100000 in
set_option maxHeartbeats 1000000 in
theorem specPure_any {s : Int} {a : Option Addr} {n cap : Nat} {xs : List Int} {w : World} {fb : Bool} {fc : Int} (hr : Reads w a n xs) (hf : Fits xs) (hn : n ≤ 1048576) (hM : mPure s xs = (fb, fc)) :
    Calls Try.prog 24 #[.agg #[.int .i64 s, .slice a n cap]] w fun e w' => e = .returned (.tuple #[.bool fb, .int .i64 fc]) ∧ Below w.heap.size w w' := by
  have R := Lib.hid hr; clear hr
  have HF := Lib.hid hf; clear hf
  by_cases hbr : isBraid s xs = true
  · simp only [mPure, if_pos hbr, Prod.mk.injEq] at hM
    obtain ⟨rfl, rfl⟩ := hM
    obtain ⟨k, rfl, k1, k8, hx⟩ := braid_nat hbr
    have HBR := Lib.hid hbr
    clear hbr
    have KP := Lib.hid (fun W (hR : Reads W a n xs) => l01Perm_any k k8 a n cap xs W hR hx hn)
    have KN := Lib.hid (fun W => l01Perm_any k k8 none 0 0 [] W (.zero rfl) (fun x hx => by cases hx) (by omega))
    have HQ := Lib.hid (fun W => (equal8b (ends 8 (run8 (startM k) xs) k) (ends 8 (run8 (startM k) []) k) (ends_len _ _ _) (ends_len _ _ _) W).trans (by rw [perm_pure k k1 k8 xs hx]))
    clear hx
    obtain ⟨E1, hE1⟩ : ∃ E, E = ends 8 (run8 (startM k) xs) k := ⟨_, rfl⟩
    obtain ⟨E2, hE2⟩ : ∃ E, E = ends 8 (run8 (startM k) []) k := ⟨_, rfl⟩
    rw [← hE1] at KP HQ
    rw [← hE2] at KN HQ
    clear hE1 hE2
    go_enter Try.func24, Try.ntmps24
    go_wp2_with fail
    refine (l01Is_any _ _ _ _ xs _ (R.out.alloc _) HF.out hn).mono ?_
    rw [HBR.out]
    rintro e w1 ⟨rfl, hb⟩
    have A1 := Lib.hid ((At2.new w (.int .i64 k) (.slice a n cap) 29).below hb)
    obtain ⟨q1, q2, q3, q4, q5⟩ := A1.out
    have R1 := Lib.hid ((R.out.alloc (.cells #[.int .i64 k, .slice a n cap] 29)).below hb)
    have BB := Lib.hid (below_go (below1 w _) hb (by simp)); clear hb
    have heq := HQ.out
    have zb := BB.out.size
    go_wp2
    go_region_held3 (fun w' => w'.cell? ⟨w.heap.size, 0, none⟩ = some (.int .i64 k) ∧ w'.cell? ⟨w.heap.size, 1, none⟩ = some (.slice a n cap)) (first | exact ⟨q2, q3⟩ | exact ⟨r2, r3⟩)
      (first
        | (go_at_call_of 57 (Value.slice a n cap); refine (KP.out _ R1.out.drew).mono ?_; rintro e w2 ⟨rfl, h1⟩; obtain ⟨r1, r2, r3, r4, r5⟩ := A1.out.drew.below h1)
        | (go_at_call 57; refine (KN.out _).mono ?_; rintro e w3 ⟨rfl, h2⟩; obtain ⟨r1, r2, r3, r4, r5⟩ := (A1.out.drew.below h1).below h2))
    clear heq
    go_wp2
    go_ret2
    exact ⟨rfl, below_go (below_go BB.out.drew h1 zb) h2 (Nat.le_trans zb h1.size)⟩
  · have hb0 : isBraid s xs = false := by simpa using hbr
    simp only [mPure, if_neg hbr, Prod.mk.injEq] at hM
    obtain ⟨rfl, rfl⟩ := hM
    clear hbr
    have HB0 := Lib.hid hb0
    clear hb0
    go_enter Try.func24, Try.ntmps24
    go_wp2_with fail
    refine (l01Is_any _ _ _ _ xs _ (R.out.alloc _) HF.out hn).mono ?_
    rw [HB0.out]
    rintro e w1 ⟨rfl, hb⟩
    go_wp2
    go_ret2
    exact ⟨rfl, below_go (below1 w _) hb (by simp)⟩

end Go.Proofs.Ytinflgcpkeomlaa
