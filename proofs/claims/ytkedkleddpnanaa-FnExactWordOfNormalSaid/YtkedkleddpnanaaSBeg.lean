/- The model: the letters that begin a simple braid. -/
import Derived.Test.YtkedkleddpnanaaSimF
import Derived.Test.YtkedkleddpnanaaBase
import Derived.BigQuiet
import Derived.IntWalk
import Derived.Test.YtkedkleddpnanaaKit10
namespace Go.Proofs.Ytkedkleddpnanaa
open Go.RowKit Go.ChangeShapes

set_option maxRecDepth 100000 in
set_option maxHeartbeats 1000000 in
theorem l02Begins_any (n : Nat) (h1 : 1 ≤ n) (h8 : n ≤ 8) (s : List Int) (ls : s.length = 8) (w : World) :
    Calls Try.prog 101 #[arr8 .u8 s, .int .i64 n] w (MadeInts w (begR s (n - 1)).length (begR s (n - 1))) := by
  obtain ⟨i0, hi, hz0, hz1, hz2⟩ := info_parts infoInt
  go_enter Try.func101, Try.ntmps101
  have RA := Lib.hid (Row8.place w .u8 s 26 w.heap.size rfl ls)
  have BB := Lib.hid (below1 w (.cells #[.int .u8 (at8 s 0), .int .u8 (at8 s 1), .int .u8 (at8 s 2), .int .u8 (at8 s 3), .int .u8 (at8 s 4), .int .u8 (at8 s 5), .int .u8 (at8 s 6), .int .u8 (at8 s 7)] 26))
  have O0 : Hid (OwnV (w.heap.size + 1) ((w.alloc (.cells #[.int .u8 (at8 s 0), .int .u8 (at8 s 1), .int .u8 (at8 s 2), .int .u8 (at8 s 3), .int .u8 (at8 s 4), .int .u8 (at8 s 5), .int .u8 (at8 s 6), .int .u8 (at8 s 7)] 26)).alloc (.cells #[] 2)) (.slice (some ⟨w.heap.size + 1, 0, none⟩) 0 0) 0 []) := Lib.hid (by simpa using OwnV.empty (w.alloc (.cells #[.int .u8 (at8 s 0), .int .u8 (at8 s 1), .int .u8 (at8 s 2), .int .u8 (at8 s 3), .int .u8 (at8 s 4), .int .u8 (at8 s 5), .int .u8 (at8 s 6), .int .u8 (at8 s 7)] 26)))
  replace RA := Lib.hid (RA.out.alloc (.cells #[] 2))
  replace BB := Lib.hid (BB.out.alloc (by simp) (.cells #[] 2))
  go_wp2
  go_loopw [5, 6] (fun v i wr => ∃ k : Nat, k + 1 ≤ n ∧ i = .int .i64 ((k : Int) + 1) ∧ OwnV (w.heap.size + 1) wr v (begR s k).length (begR s k) ∧ Row8 wr w.heap.size .u8 s ∧ Below w.heap.size w wr) (fun _ i _ => n - (intOf i).toNat)
  case atStart => exact ⟨0, by omega, rfl, O0.out, RA.out, BB.out⟩
  case round =>
    obtain ⟨k, hk, rfl, ho, hRA, hBB⟩ := hrel
    clear O0
    have HO := Lib.hid ho; clear ho
    clear RA BB
    have RA := Lib.hid hRA
    have BB := Lib.hid hBB
    clear hRA hBB
    have bl := begR_len s k
    by_cases hlt : k + 1 < n
    · have HST := Lib.hid (begR_step s k)
      have c1 := RA.out.cell k (by omega)
      have c2 := RA.out.cell (k + 1) (by omega)
      have z1 := RA.out.lt
      have hw1 : IntKind.i64.wrap (k : Int) = k := IntWalk.i64_in _ (by omega)
      have b1 : (k : Int) + 1 < 8 := by omega
      have b2 : (k : Int) < 8 := by omega
      by_cases hd : at8 s (k + 1) < at8 s k
      · go_wp2
        go_quiet (fail)
        clear hw1
        have hb := below_draws wr.heap.size wr nq
        obtain ⟨wq, hwq⟩ : ∃ wq, wq = wr.drewN nq := ⟨_, rfl⟩
        rw [← hwq] at hb ⊢
        clear hwq c1 c2 z1
        have HO' : Hid (OwnV (w.heap.size + 1) wq _ _ _) := Lib.hid (HO.out.drawn hb)
        clear HO
        have HO := HO'
        clear HO'
        replace RA := Lib.hid (RA.out.below hb)
        replace BB := Lib.hid (below_go BB.out hb BB.out.size)
        clear hb
        have z1 := RA.out.lt
        go_wp2_with (at_builtin; refine wpList_append_own _ rfl _ _ 23 rfl (w.heap.size + 1) 2 i0 (.int .i64 0) 1 8 Try.underlying23 hi hz0 hz1 hz2 rfl (by decide) _ _ _ rfl (World.ownsRow.alloc HO.out _) ⟨wq.heap.size, 0, none⟩ 1 1 [.int .i64 ((k : Int) + 1)] rfl rfl (one_new wq ((k : Int) + 1) _) (one_cell _) (by unfold maxLen; omega) (by omega) (by simp; omega) ?_)
        intro v' w1 hown' hgrow _
        have HO2 := Lib.hid (OwnV.appended hown')
        have HR2 := Lib.hid (RA.out.appended (by omega) HO.out hgrow)
        have HB2 := Lib.hid (below_appended2 BB.out (by omega) (by omega) HO.out hgrow)
        clear hown' hgrow
        go_wp2
        go_roundw
        case rel =>
          refine ⟨k + 1, by omega, by go_num, ?_, HR2.out, HB2.out⟩
          rw [HST.out, if_pos hd, List.length_append]
          exact HO2.out
        case measure => simp [intOf]; omega
      · go_wp2
        go_quiet (fail)
        clear hw1
        have hb := below_draws wr.heap.size wr nq
        go_wp2
        go_roundw
        case rel =>
          refine ⟨k + 1, by omega, by go_num, ?_, RA.out.below hb, below_go BB.out hb BB.out.size⟩
          rw [HST.out, if_neg (by omega), List.append_nil]
          exact HO.out.drawn hb
        case measure => simp [intOf]; omega
    · have hkn : n = k + 1 := by omega
      subst hkn
      rw [Nat.add_sub_cancel]
      go_wp2
      go_ret
      obtain ⟨a', c', rfl, ho'⟩ := HO.out.form
      exact ⟨a', c', rfl, ho'.mono (by omega), BB.out⟩

end Go.Proofs.Ytkedkleddpnanaa
