/- The program: the letters that begin a simple braid. -/
import Derived.Test.YtinflgcpkeomlabIClo
import Derived.Test.YtinflgcpkeomlabKit10
namespace Go.Proofs.Ytinflgcpkeomlab
open Go.RowKit Go.ChangeShapes

set_option maxRecDepth 100000 in
set_option maxHeartbeats 1000000 in
theorem beginsWith_any (k : Nat) (h8 : k + 1 < 8) (s : List Int) (ls : s.length = 8) (w : World) :
    Calls Try.prog 102 #[arr8 .u8 s, .int .i64 ((k : Int) + 1)] w fun e w' => e = .returned (.bool (decide (at8 s (k + 1) < at8 s k))) ∧ Below w.heap.size w w' := by
  go_enter Try.func102, Try.ntmps102
  have RA := Lib.hid (Row8.place w .u8 s 23 w.heap.size rfl ls)
  have BB := Lib.hid (below1 w (.cells #[.int .u8 (at8 s 0), .int .u8 (at8 s 1), .int .u8 (at8 s 2), .int .u8 (at8 s 3), .int .u8 (at8 s 4), .int .u8 (at8 s 5), .int .u8 (at8 s 6), .int .u8 (at8 s 7)] 23))
  obtain ⟨W, hW⟩ : ∃ W, W = (w.alloc (.cells #[.int .u8 (at8 s 0), .int .u8 (at8 s 1), .int .u8 (at8 s 2), .int .u8 (at8 s 3), .int .u8 (at8 s 4), .int .u8 (at8 s 5), .int .u8 (at8 s 6), .int .u8 (at8 s 7)] 23)) := ⟨_, rfl⟩
  have c1 := RA.out.cell k (by omega)
  have c2 := RA.out.cell (k + 1) (by omega)
  have z1 := RA.out.lt
  have hw1 : IntKind.i64.wrap (k : Int) = k := IntWalk.i64_in _ (by omega)
  have b1 : (k : Int) + 1 < 8 := by omega
  have b2 : (k : Int) < 8 := by omega
  go_wp2
  rw [← hW] at RA BB c1 c2 z1 ⊢
  clear hW
  go_quiet (fail)
  clear hw1
  go_wp2
  go_ret
  exact ⟨rfl, below_go BB.out (below_draws W.heap.size W nq) BB.out.size⟩

set_option maxRecDepth 100000 in
set_option maxHeartbeats 1000000 in
theorem beginningLetters_any (n : Nat) (h1 : 1 ≤ n) (h8 : n ≤ 8) (s : List Int) (ls : s.length = 8) (w : World) :
    Calls Try.prog 88 #[arr8 .u8 s, .int .i64 n] w (MadeInts w (begR s (n - 1)).length (begR s (n - 1))) := by
  obtain ⟨i0, hi, hz0, hz1, hz2⟩ := info_parts infoInt
  go_enter Try.func88, Try.ntmps88
  have RA := Lib.hid (Row8.place w .u8 s 23 w.heap.size rfl ls)
  have BB := Lib.hid (below1 w (.cells #[.int .u8 (at8 s 0), .int .u8 (at8 s 1), .int .u8 (at8 s 2), .int .u8 (at8 s 3), .int .u8 (at8 s 4), .int .u8 (at8 s 5), .int .u8 (at8 s 6), .int .u8 (at8 s 7)] 23))
  have LS := Lib.hid ls
  clear ls
  have O0 : Hid (OwnV (w.heap.size + 1) (w.alloc (.cells #[.int .u8 (at8 s 0), .int .u8 (at8 s 1), .int .u8 (at8 s 2), .int .u8 (at8 s 3), .int .u8 (at8 s 4), .int .u8 (at8 s 5), .int .u8 (at8 s 6), .int .u8 (at8 s 7)] 23)) (.slice none 0 0) 0 []) := Lib.hid (OwnV.nil _ _)
  go_wp2
  go_loopw [5, 6] (fun v i wr => ∃ k : Nat, k + 1 ≤ n ∧ i = .int .i64 ((k : Int) + 1) ∧ OwnV (w.heap.size + 1) wr v (begR s k).length (begR s k) ∧ Row8 wr w.heap.size .u8 s ∧ Below w.heap.size w wr) (fun _ i _ => n - (intOf i).toNat)
  case atStart => exact ⟨0, by omega, rfl, O0.out, RA.out, BB.out⟩
  case round =>
    obtain ⟨k, hk, rfl, ho, hRA, hBB⟩ := hrel
    clear O0
    have HO := Lib.hid ho; clear ho
    clear RA BB
    have RA := Lib.hid hRA
    have BB := Lib.hid hBB
    clear hRA hBB
    have bl := begR_len s k
    by_cases hlt : k + 1 < n
    · have HST := Lib.hid (begR_step s k)
      have K := Lib.hid (fun W => beginsWith_any k (by omega) s LS.out W)
      obtain ⟨⟨q0, q1, q2, q3⟩, q4, q5, q6, q7⟩ := RA.out.all
      go_wp2_with fail
      refine (K.out _).mono ?_
      rintro e w2 ⟨rfl, hb⟩
      clear q0 q1 q2 q3 q4 q5 q6 q7
      have HO' : Hid (OwnV (w.heap.size + 1) w2 _ _ _) := Lib.hid (HO.out.drawn hb)
      clear HO
      have HO := HO'
      clear HO'
      replace RA := Lib.hid (RA.out.below hb)
      replace BB := Lib.hid (below_go BB.out hb BB.out.size)
      clear hb
      have z1 := RA.out.lt
      by_cases hd : at8 s (k + 1) < at8 s k
      · go_wp2_with (at_builtin; refine wpList_append_own _ rfl _ _ 31 rfl (w.heap.size + 1) 2 i0 (.int .i64 0) 1 8 Try.underlying31 hi hz0 hz1 hz2 rfl (by decide) _ _ _ rfl (World.ownsRow.alloc HO.out _) ⟨w2.heap.size, 0, none⟩ 1 1 [.int .i64 ((k : Int) + 1)] rfl rfl (one_new w2 ((k : Int) + 1) _) (one_cell _) (by unfold maxLen; omega) (by omega) (by simp; omega) ?_)
        intro v' w1 hown' hgrow _
        have HO2 := Lib.hid (OwnV.appended hown')
        have HR2 := Lib.hid (RA.out.appended (by omega) HO.out hgrow)
        have HB2 := Lib.hid (below_appended2 BB.out (by omega) (by omega) HO.out hgrow)
        clear hown' hgrow
        go_wp2
        go_roundw
        case rel =>
          refine ⟨k + 1, by omega, by go_num, ?_, HR2.out, HB2.out⟩
          rw [HST.out, if_pos hd, List.length_append]
          exact HO2.out
        case measure => simp [intOf]; omega
      · go_wp2
        go_roundw
        case rel =>
          refine ⟨k + 1, by omega, by go_num, ?_, RA.out, BB.out⟩
          rw [HST.out, if_neg (by omega), List.append_nil]
          exact HO.out
        case measure => simp [intOf]; omega
    · have hkn : n = k + 1 := by omega
      subst hkn
      rw [Nat.add_sub_cancel]
      go_wp2
      go_ret
      obtain ⟨a', c', rfl, ho'⟩ := HO.out.form
      exact ⟨a', c', rfl, ho'.mono (by omega), BB.out⟩

end Go.Proofs.Ytinflgcpkeomlab
