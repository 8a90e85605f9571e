/- Products and powers of words: the small functions. -/
import Derived.Test.YteafnbkdejkjiaaInverse2
import Derived.Test.YteafnbkdejkjiaaIs2
import Derived.Test.YteafnbkdejkjiaaBase4
import Derived.Test.YteafnbkdejkjiaaKit3
import Derived.Test.YteafnbkdejkjiaaKit5
namespace Go.Proofs.Yteafnbkdejkjiaa
open Go.RowKit Go.ChangeShapes

/-- The letters again and again. -/
def rep (k : Nat) (xs : List Int) : List Int := (List.replicate k xs).flatten

theorem rep_succ (k : Nat) (xs : List Int) : rep (k + 1) xs = rep k xs ++ xs := by
  simp [rep, List.replicate_succ', List.flatten_append]

theorem rep_one (xs : List Int) : rep 1 xs = xs := by simp [rep]

theorem rep_len (k : Nat) (xs : List Int) : (rep k xs).length = k * xs.length := by
  induction k with
  | zero => simp [rep]
  | succ k ih => rw [rep_succ, List.length_append, ih, Nat.succ_mul]

set_option maxHeartbeats 1000000 in
theorem repeated_any (s : Int) (a : Option Addr) (n cap : Nat) (xs : List Int) (t : Nat) (w : World) (hr : Reads w a n xs) (hn : n ≤ 1048576) (ht : t ≤ 1048576) (htn : t * n ≤ 1048576) :
    Calls Try.prog 17 #[.agg #[.int .i64 s, .slice a n cap], .int .i64 t] w (MadeBraid w s (rep t xs)) := by
  obtain ⟨i0, hi, hz0, hz1, hz2⟩ := info_parts infoInt
  have HL := Lib.hid hr.len
  have HT := Lib.hid htn; clear htn
  have R := Lib.hid hr; clear hr
  go_enter Try.func17, Try.ntmps17
  replace R := Lib.hid (R.out.alloc (.cells #[.int .i64 s, .slice a n cap] 24))
  have A := Lib.hid (At2.new w (.int .i64 s) (.slice a n cap) 24)
  have BB := Lib.hid (below1 w (.cells #[.int .i64 s, .slice a n cap] 24))
  replace R := Lib.hid (R.out.alloc (.cells #[.int .i64 0, .slice none 0 0] 24))
  replace A := Lib.hid (A.out.alloc (.cells #[.int .i64 0, .slice none 0 0] 24))
  have Z := Lib.hid (At2.place (w.alloc (.cells #[.int .i64 s, .slice a n cap] 24)) (.int .i64 0) (.slice none 0 0) 24 (w.heap.size + 1) (by simp))
  replace BB := Lib.hid (BB.out.alloc (by first | omega | (simp; done) | (simp; omega)) (.cells #[.int .i64 0, .slice none 0 0] 24))
  obtain ⟨w1, hw1⟩ : ∃ w1, w1 = ((w.alloc (.cells #[.int .i64 s, .slice a n cap] 24)).alloc (.cells #[.int .i64 0, .slice none 0 0] 24)) := ⟨_, rfl⟩
  rw [← hw1] at R A Z BB
  have z1 : w.heap.size + 2 = w1.heap.size := by rw [hw1]; simp
  go_wp2
  rw [← hw1]
  have HW := Lib.hid hw1; clear hw1
  go_loopw [5, 7] (fun v i wr => ∃ k : Nat, k ≤ t ∧ i = .int .i64 k ∧ (∃ m, OwnV w1.heap.size wr v m (rep k xs)) ∧ Below w1.heap.size w1 wr) (fun _ i _ => t - (intOf i).toNat)
  case atStart => exact ⟨0, Nat.zero_le _, rfl, ⟨0, OwnV.nil _ _⟩, Below.refl _ _⟩
  case round =>
    obtain ⟨k, hk, rfl, ⟨m, ho⟩, hbl⟩ := hrel
    have hA := A.out.below hbl
    have hZ := Z.out.below hbl
    have R1 := Lib.hid (R.out.below hbl)
    have HZ1 := Lib.hid hZ
    obtain ⟨qA1, qA2, qA3, qA4, qA5⟩ := hA
    obtain ⟨qZ1, qZ2, qZ3, qZ4, qZ5⟩ := hZ
    have hzs : w1.heap.size ≤ wr.heap.size := hbl.size
    have hml : m ≤ 1048576 := by have h1 := ho.len; rw [rep_len, HL.out] at h1; have h2 := HT.out; have h3 := Nat.mul_le_mul_right n hk; omega
    have HO := Lib.hid ho; clear ho
    have HB := Lib.hid hbl; clear hbl
    by_cases hlt : k < t
    · go_wp2_with (at_builtin; refine wpList_append_ints rfl _ _ 22 rfl w1.heap.size i0 Try.underlying22 hi hz0 hz1 hz2 _ _ _ rfl HO.out _ _ _ xs rfl R1.out (by omega) hzs ?_)
      intro v' w2 ho' hg
      have HB' := Lib.hid (below_appended5 HB.out hzs HO.out hg)
      have HO' := Lib.hid ho'; clear ho' hg
      go_wp2
      go_roundw
      case rel => exact ⟨k + 1, by omega, by go_num, ⟨m + n, by rw [rep_succ]; exact HO'.out⟩, HB'.out⟩
      case measure => simp [intOf]; omega
    · have hkt : k = t := by omega
      have HK := Lib.hid hkt; clear hkt
      obtain ⟨av, cv, hv, _⟩ := HO.out.form
      rw [hv]
      have ho := HO.out
      rw [hv, HK.out] at ho
      clear hv
      go_wp2
      obtain ⟨_, e2, e3, _, _⟩ := HZ1.out.fill (.int .i64 s) (.slice av m cv)
      refine bodyPost_ret (v := .agg #[.int .i64 s, .slice av m cv]) (by simp [results, Try.results17, go_sem, e2, e3]) rfl ⟨av, m, cv, rfl, ?_, ?_⟩
      · exact ((Own.setCell_below ho (by simp; omega) _).setCell_below (by simp; omega) _).mono (by omega)
      · exact ((BB.out.trans (HB.out.mono (by omega))).setCell (p := ⟨w.heap.size + 1, 0, none⟩) (by simp) _).setCell (p := ⟨w.heap.size + 1, 1, none⟩) (by simp) _

end Go.Proofs.Yteafnbkdejkjiaa