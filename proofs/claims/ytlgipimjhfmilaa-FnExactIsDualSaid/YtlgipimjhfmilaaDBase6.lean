/- Contracts of the small functions that the laws on normal forms call: sizes, copies. -/
import Derived.Test.YtlgipimjhfmilaaDKit11
import Derived.Test.YtlgipimjhfmilaaLawPt
namespace Go.Proofs.Ytlgipimjhfmilaa
open Go.RowKit Go.ChangeShapes

theorem szPartS_fit (a : Option Addr) (n cap : Nat) (left : Int) (w : World) (hn : (n : Int) ≤ left) (h1 : left ≤ 1048576) :
    Calls Try.prog 40 #[.slice a n cap, .int .i64 left] w fun e w' => e = .returned (.int .i64 (left - n)) ∧ w = w' := by
  go_enter Try.func40, Try.ntmps40
  go_wp2
  go_ret
  exact ⟨rfl, rfl⟩

theorem szPartS_big (a : Option Addr) (n cap : Nat) (left : Int) (w : World) (hn : left < (n : Int)) (h0 : 0 ≤ left) (h1 : n ≤ maxLen) :
    Calls Try.prog 40 #[.slice a n cap, .int .i64 left] w fun e w' => e = .returned (.int .i64 (-1)) ∧ w = w' := by
  unfold maxLen at h1
  go_enter Try.func40, Try.ntmps40
  go_wp2
  go_ret
  exact ⟨rfl, rfl⟩

theorem szDual_fit (s p : Int) (a : Option Addr) (n cap : Nat) (left : Int) (w : World) (hn : (n : Int) ≤ left) (h1 : left ≤ 1048576) :
    Calls Try.prog 13 #[.agg #[.int .i64 s, .int .i64 p, .slice a n cap], .int .i64 left] w fun e w' => e = .returned (.int .i64 (left - n)) ∧ Below w.heap.size w w' := by
  go_enter Try.func13, Try.ntmps13
  go_wp2_with (go_at_call 40; refine (szPartS_fit _ _ _ _ _ hn h1).mono ?_; rintro e w' ⟨rfl, rfl⟩)
  go_ret
  exact ⟨rfl, (Below.refl _ _).alloc (Nat.le_refl _) _⟩

theorem szDual_big (s p : Int) (a : Option Addr) (n cap : Nat) (left : Int) (w : World) (hn : left < (n : Int)) (h0 : 0 ≤ left) (h1 : n ≤ maxLen) :
    Calls Try.prog 13 #[.agg #[.int .i64 s, .int .i64 p, .slice a n cap], .int .i64 left] w fun e w' => e = .returned (.int .i64 (-1)) ∧ Below w.heap.size w w' := by
  go_enter Try.func13, Try.ntmps13
  go_wp2_with (go_at_call 40; refine (szPartS_big _ _ _ _ _ hn h0 h1).mono ?_; rintro e w' ⟨rfl, rfl⟩)
  go_ret
  exact ⟨rfl, (Below.refl _ _).alloc (Nat.le_refl _) _⟩

theorem infoPart : (Try.prog.info? 59).map (fun i => (i.zero, i.size, i.bytes)) = some (some (.agg #[Value.int .u8 0, .int .u8 0, .int .u8 0, .int .u8 0, .int .u8 0, .int .u8 0, .int .u8 0, .int .u8 0]), 8, 8) := by kernel_rfl

/-- What a function that makes a slice of rows hands back. -/
def MadeRows (w : World) (n : Nat) (rs : List (List Int)) (e : Ending) (w' : World) : Prop :=
  ∃ a cap, e = .returned (.slice a n cap) ∧ OwnA w.heap.size w' a n cap rs ∧ Below w.heap.size w w'

theorem setA_prefix (rs : List (List Int)) (n k : Nat) (hl : rs.length = n) (h : k < n) : (rs.take k ++ List.replicate (n - k) zeros8).set k (rowAt rs k) = rs.take (k + 1) ++ List.replicate (n - (k + 1)) zeros8 := by
  refine List.ext_getElem (by simp; omega) fun j h1 h2 => ?_
  simp only [List.getElem_set, List.getElem_append, List.length_take, List.getElem_replicate, List.getElem_take]
  simp only [List.length_set, List.length_append, List.length_take, List.length_replicate] at h1
  by_cases hjk : k = j
  · subst hjk
    rw [if_pos rfl, dif_pos (by omega)]
    simp [rowAt, List.getD, show k < rs.length by omega]
  · rw [if_neg hjk]
    by_cases hlt : j < k
    · rw [dif_pos (by omega), dif_pos (by omega)]
    · rw [dif_neg (by omega), dif_neg (by omega)]

/-- A whole array stored into the middle of a block of the call's own. -/
theorem below_fill8a {B : Nat} {w w' : World} (h : Below B w w') (g : Nat) (hg : B ≤ g) (o : Nat) (v0 v1 v2 v3 v4 v5 v6 v7 : Value) :
    Below B w ((((((((w'.setCell ⟨g, o, none⟩ v0).setCell ⟨g, o + 1, none⟩ v1).setCell ⟨g, o + 2, none⟩ v2).setCell ⟨g, o + 3, none⟩ v3).setCell ⟨g, o + 4, none⟩ v4).setCell ⟨g, o + 5, none⟩ v5).setCell ⟨g, o + 6, none⟩ v6).setCell ⟨g, o + 7, none⟩ v7) :=
  (((((((h.setCell (p := ⟨g, o, none⟩) hg v0).setCell (p := ⟨g, o + 1, none⟩) hg v1).setCell (p := ⟨g, o + 2, none⟩) hg v2).setCell (p := ⟨g, o + 3, none⟩) hg v3).setCell (p := ⟨g, o + 4, none⟩) hg v4).setCell (p := ⟨g, o + 5, none⟩) hg v5).setCell (p := ⟨g, o + 6, none⟩) hg v6).setCell (p := ⟨g, o + 7, none⟩) hg v7

set_option maxRecDepth 100000 in
set_option maxHeartbeats 1000000 in
theorem toPartS_any (a : Option Addr) (n cap : Nat) (rs : List (List Int)) (w : World) (hr : ReadsA w a n rs) (hn : n ≤ 1048576) :
    Calls Try.prog 42 #[.slice a n cap] w (MadeRows w n rs) := by
  obtain ⟨i0, hi, hz0, hz1, hz2⟩ := info_parts infoPart
  have HL := Lib.hid hr.len
  have H8 := Lib.hid hr.rows
  rcases Nat.eq_zero_or_pos n with h0 | h0
  · subst h0
    have HR := Lib.hid hr; clear hr
    go_enter Try.func42, Try.ntmps42
    go_wp2_with (at_make; refine wpList_make_full w rfl _ _ 22 rfl w.heap.size 59 i0 _ 8 Try.underlying22 hi hz0 hz1 .i64 .i64 _ _ 0 rfl rfl (by rfl) (by rfl) (by rw [hz2]; omega) (by unfold maxLen; omega) (Nat.le_refl _) ?_)
    intro w1 hown hgrow
    go_wp2
    refine wp_loop_rounds 1 ?_; rw [rounds_succ]
    go_wp2
    go_ret
    have hxs : rs = [] := List.eq_nil_of_length_eq_zero HL.out
    subst hxs
    exact ⟨_, _, rfl, own_madeA hown, Below.ofGrown hgrow⟩
  · obtain ⟨b, off, rfl, hb, hc⟩ := hr.cells h0
    have HC := Lib.hid hc; clear hc
    have HR := Lib.hid hr; clear hr
    go_enter Try.func42, Try.ntmps42
    go_wp2_with (at_make; refine wpList_make_full w rfl _ _ 22 rfl w.heap.size 59 i0 _ 8 Try.underlying22 hi hz0 hz1 .i64 .i64 _ _ n rfl rfl (by omega) (by omega) (by rw [hz2]; omega) (by unfold maxLen; omega) (Nat.le_refl _) ?_)
    intro w1 hown hgrow
    have hown1 := own_madeA hown
    have hbel := Below.ofGrown hgrow
    clear hown hgrow
    go_wp2
    go_loopw [4] (fun i wr => ∃ k : Nat, k ≤ n ∧ i = .int .i64 k ∧ OwnA w.heap.size wr (some ⟨w.heap.size, 0, none⟩) n n (rs.take k ++ List.replicate (n - k) zeros8) ∧ Below w.heap.size w wr) (fun i _ => n - (intOf i).toNat)
    case atStart => exact ⟨0, Nat.zero_le _, rfl, by simpa using hown1, hbel⟩
    case round =>
      obtain ⟨k, hk, rfl, ho, hbl⟩ := hrel
      clear hown1 hbel
      have HO := Lib.hid ho
      have BB := Lib.hid hbl
      clear ho hbl
      by_cases hlt : k < n
      · have hC : Cells8 wr b (off + k * 8) (rowAt rs k) := fun i hi => (BB.out.cell (by exact hb)).trans (HC.out k hlt i hi)
        obtain ⟨c0, c1, c2, c3, c4, c5, c6, c7⟩ := hC.flat
        clear hC
        have hrow := H8.out.at (j := k) (by rw [HL.out]; exact hlt)
        go_wp2_with fail
        refine (toPart_any (rowAt rs k) hrow _).mono ?_
        rintro e w2 ⟨rfl, hb2⟩
        clear c0 c1 c2 c3 c4 c5 c6 c7
        replace HO := Lib.hid (HO.out.below hb2)
        replace BB := Lib.hid (below_go BB.out hb2 BB.out.size)
        clear hb2
        obtain ⟨c0, c1, c2, c3, c4, c5, c6, c7⟩ := (HO.out.cellAt k hlt).flat
        have f0 := HO.out.frozenAt (k * 8)
        have f1 := HO.out.frozenAt (k * 8 + 1)
        have f2 := HO.out.frozenAt (k * 8 + 2)
        have f3 := HO.out.frozenAt (k * 8 + 3)
        have f4 := HO.out.frozenAt (k * 8 + 4)
        have f5 := HO.out.frozenAt (k * 8 + 5)
        have f6 := HO.out.frozenAt (k * 8 + 6)
        have f7 := HO.out.frozenAt (k * 8 + 7)
        go_wp2
        go_roundw
        case rel =>
          refine ⟨k + 1, by omega, by go_num, ?_, ?_⟩
          · rw [← setA_prefix rs n k HL.out hlt]
            exact HO.out.store k hlt (rowAt rs k) hrow
          · exact below_fill8a BB.out _ (Nat.le_refl _) _ _ _ _ _ _ _ _ _
        case measure => simp [intOf]; omega
      · have hkn : k = n := by omega
        go_wp2
        go_ret
        subst hkn
        refine ⟨_, _, rfl, ?_, BB.out⟩
        have hh := HL.out
        have ho := HO.out
        rw [Nat.sub_self, List.replicate_zero, List.append_nil, List.take_of_length_le (by omega)] at ho
        exact ho

/-- What a function that makes a normal form hands back. -/
def MadeDual (w : World) (s p : Int) (rs : List (List Int)) (e : Ending) (w' : World) : Prop :=
  ∃ a n cap, e = .returned (.agg #[.int .i64 s, .int .i64 p, .slice a n cap]) ∧ OwnA w.heap.size w' a n cap rs ∧ Below w.heap.size w w'

set_option maxRecDepth 100000 in
set_option maxHeartbeats 1000000 in
theorem toDual_any (s p : Int) (a : Option Addr) (n cap : Nat) (rs : List (List Int)) (w : World) (hr : ReadsA w a n rs) (hn : n ≤ 1048576) :
    Calls Try.prog 15 #[.agg #[.int .i64 s, .int .i64 p, .slice a n cap]] w (MadeDual w s p rs) := by
  have HR := Lib.hid hr; clear hr
  go_enter Try.func15, Try.ntmps15
  go_wp2_with fail
  refine (toPartS_any _ _ _ rs _ (((HR.out.alloc _).alloc _).alloc _) hn).mono ?_
  rintro e w1 ⟨a1, c1, rfl, ho, hb⟩
  obtain ⟨hc, hf⟩ := bcell hb
  have hz : w.heap.size + 2 < w1.heap.size := by have := hb.size; simp at this; omega
  have HO := Lib.hid ho; clear ho
  have HB := Lib.hid hb; clear hb
  go_wp2
  refine bodyPost_ret (v := .agg #[.int .i64 s, .int .i64 p, .slice a1 n c1]) (by simp [results, Try.results15, go_sem, hc]) rfl ⟨a1, n, c1, rfl, ?_, ?_⟩
  · exact ((((HO.out.setCell_below (by simp) _).setCell_below (by simp) _).setCell_below (by simp) _).setCell_below (by simp) _).mono (by simp; omega)
  · exact (((((below3 w _ _ _).trans (HB.out.mono (by simp; omega))).setCell (by simp; omega) _).setCell (by simp) _).setCell (by simp) _).setCell (by simp) _

end Go.Proofs.Ytlgipimjhfmilaa
