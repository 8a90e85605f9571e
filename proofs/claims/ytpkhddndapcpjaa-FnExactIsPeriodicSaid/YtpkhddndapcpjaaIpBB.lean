/- Merged texts. -/
import Derived.Test.YtpkhddndapcpjaaIpKit11
import Derived.Test.YtpkhddndapcpjaaIpLawA
import Derived.Deep.RegionHeld3
import Derived.Test.YtpkhddndapcpjaaIpQA
import Derived.Deep.LoopGhost

/- Contracts of the small functions that the laws on normal forms call: sizes, copies. -/
namespace Go.Proofs.Ytpkhddndapcpjaa
open Go.RowKit Go.ChangeShapes

theorem szSimpleS_fit (a : Option Addr) (n cap : Nat) (left : Int) (w : World) (hn : (n : Int) ≤ left) (h1 : left ≤ 1048576) :
  Calls Try.prog 20 #[.slice a n cap, .int .i64 left] w fun e w' => e = .returned (.int .i64 (left - n)) ∧ w = w' := by
 go_enter Try.func20, Try.ntmps20
 go_wp2
 go_ret
 exact ⟨rfl, rfl⟩

theorem szSimpleS_big (a : Option Addr) (n cap : Nat) (left : Int) (w : World) (hn : left < (n : Int)) (h0 : 0 ≤ left) (h1 : n ≤ maxLen) :
  Calls Try.prog 20 #[.slice a n cap, .int .i64 left] w fun e w' => e = .returned (.int .i64 (-1)) ∧ w = w' := by
 unfold maxLen at h1
 go_enter Try.func20, Try.ntmps20
 go_wp2
 go_ret
 exact ⟨rfl, rfl⟩

theorem szNormal_fit (s p : Int) (a : Option Addr) (n cap : Nat) (left : Int) (w : World) (hn : (n : Int) ≤ left) (h1 : left ≤ 1048576) :
  Calls Try.prog 6 #[.agg #[.int .i64 s, .int .i64 p, .slice a n cap], .int .i64 left] w fun e w' => e = .returned (.int .i64 (left - n)) ∧ Below w.heap.size w w' := by
 go_enter Try.func6, Try.ntmps6
 go_wp2_with (go_at_call 20; refine (szSimpleS_fit _ _ _ _ _ hn h1).mono ?_; rintro e w' ⟨rfl, rfl⟩)
 go_ret
 exact ⟨rfl, (Below.refl _ _).alloc (Nat.le_refl _) _⟩

theorem szNormal_big (s p : Int) (a : Option Addr) (n cap : Nat) (left : Int) (w : World) (hn : left < (n : Int)) (h0 : 0 ≤ left) (h1 : n ≤ maxLen) :
  Calls Try.prog 6 #[.agg #[.int .i64 s, .int .i64 p, .slice a n cap], .int .i64 left] w fun e w' => e = .returned (.int .i64 (-1)) ∧ Below w.heap.size w w' := by
 go_enter Try.func6, Try.ntmps6
 go_wp2_with (go_at_call 20; refine (szSimpleS_big _ _ _ _ _ hn h0 h1).mono ?_; rintro e w' ⟨rfl, rfl⟩)
 go_ret
 exact ⟨rfl, (Below.refl _ _).alloc (Nat.le_refl _) _⟩

theorem infoSimple : (Try.prog.info? 53).map (fun i => (i.zero, i.size, i.bytes)) = some (some (.agg #[Value.int .u8 0, .int .u8 0, .int .u8 0, .int .u8 0, .int .u8 0, .int .u8 0, .int .u8 0, .int .u8 0]), 8, 8) := by kernel_rfl

/-- What a function that makes a slice of rows hands back. -/
def MadeRows (w : World) (n : Nat) (rs : List (List Int)) (e : Ending) (w' : World) : Prop :=
 ∃ a cap, e = .returned (.slice a n cap) ∧ OwnA w.heap.size w' a n cap rs ∧ Below w.heap.size w w'

theorem setA_prefix (rs : List (List Int)) (n k : Nat) (hl : rs.length = n) (h : k < n) : (rs.take k ++ List.replicate (n - k) zeros8).set k (rowAt rs k) = rs.take (k + 1) ++ List.replicate (n - (k + 1)) zeros8 := by
 refine List.ext_getElem (by simp; omega) fun j h1 h2 => ?_
 simp only [List.getElem_set, List.getElem_append, List.length_take, List.getElem_replicate, List.getElem_take]
 simp only [List.length_set, List.length_append, List.length_take, List.length_replicate] at h1
 by_cases hjk : k = j
 ·subst hjk
  rw [if_pos rfl, dif_pos (by omega)]
  simp [rowAt, List.getD, show k < rs.length by omega]
 ·rw [if_neg hjk]
  by_cases hlt : j < k
  ·rw [dif_pos (by omega), dif_pos (by omega)]
  ·rw [dif_neg (by omega), dif_neg (by omega)]

/-- A whole array stored into the middle of a block of the call's own. -/
theorem below_fill8a {B : Nat} {w w' : World} (h : Below B w w') (g : Nat) (hg : B ≤ g) (o : Nat) (v0 v1 v2 v3 v4 v5 v6 v7 : Value) :
  Below B w ((((((((w'.setCell ⟨g, o, none⟩ v0).setCell ⟨g, o + 1, none⟩ v1).setCell ⟨g, o + 2, none⟩ v2).setCell ⟨g, o + 3, none⟩ v3).setCell ⟨g, o + 4, none⟩ v4).setCell ⟨g, o + 5, none⟩ v5).setCell ⟨g, o + 6, none⟩ v6).setCell ⟨g, o + 7, none⟩ v7) :=
 (((((((h.setCell (p := ⟨g, o, none⟩) hg v0).setCell (p := ⟨g, o + 1, none⟩) hg v1).setCell (p := ⟨g, o + 2, none⟩) hg v2).setCell (p := ⟨g, o + 3, none⟩) hg v3).setCell (p := ⟨g, o + 4, none⟩) hg v4).setCell (p := ⟨g, o + 5, none⟩) hg v5).setCell (p := ⟨g, o + 6, none⟩) hg v6).setCell (p := ⟨g, o + 7, none⟩) hg v7

set_option maxRecDepth 100000 in
set_option maxHeartbeats 1000000 in
theorem toSimpleS_any (a : Option Addr) (n cap : Nat) (rs : List (List Int)) (w : World) (hr : ReadsA w a n rs) (hn : n ≤ 1048576) :
  Calls Try.prog 25 #[.slice a n cap] w (MadeRows w n rs) := by
 obtain ⟨i0, hi, hz0, hz1, hz2⟩ := info_parts infoSimple
 have HL := Lib.hid hr.len
 have H8 := Lib.hid hr.rows
 rcases Nat.eq_zero_or_pos n with h0 | h0
 ·subst h0
  have HR := Lib.hid hr; clear hr
  go_enter Try.func25, Try.ntmps25
  go_wp2_with (at_make; refine wpList_make_full w rfl _ _ 26 rfl w.heap.size 53 i0 _ 8 Try.underlying26 hi hz0 hz1 .i64 .i64 _ _ 0 rfl rfl (by rfl) (by rfl) (by rw [hz2]; omega) (by unfold maxLen; omega) (Nat.le_refl _) ?_)
  intro w1 hown hgrow
  go_wp2
  refine wp_loop_rounds 1 ?_; rw [rounds_succ]
  go_wp2
  go_ret
  have hxs : rs = [] := List.eq_nil_of_length_eq_zero HL.out
  subst hxs
  exact ⟨_, _, rfl, own_madeA hown, Below.ofGrown hgrow⟩
 ·obtain ⟨b, off, rfl, hb, hc⟩ := hr.cells h0
  have HC := Lib.hid hc; clear hc
  have HR := Lib.hid hr; clear hr
  go_enter Try.func25, Try.ntmps25
  go_wp2_with (at_make; refine wpList_make_full w rfl _ _ 26 rfl w.heap.size 53 i0 _ 8 Try.underlying26 hi hz0 hz1 .i64 .i64 _ _ n rfl rfl (by omega) (by omega) (by rw [hz2]; omega) (by unfold maxLen; omega) (Nat.le_refl _) ?_)
  intro w1 hown hgrow
  have hown1 := own_madeA hown
  have hbel := Below.ofGrown hgrow
  clear hown hgrow
  go_wp2
  go_loopw [4] (fun i wr => ∃ k : Nat, k ≤ n ∧ i = .int .i64 k ∧ OwnA w.heap.size wr (some ⟨w.heap.size, 0, none⟩) n n (rs.take k ++ List.replicate (n - k) zeros8) ∧ Below w.heap.size w wr) (fun i _ => n - (intOf i).toNat)
  case atStart => exact ⟨0, Nat.zero_le _, rfl, by simpa using hown1, hbel⟩
  case round =>
   obtain ⟨k, hk, rfl, ho, hbl⟩ := hrel
   clear hown1 hbel
   have HO := Lib.hid ho
   have BB := Lib.hid hbl
   clear ho hbl
   by_cases hlt : k < n
   ·have hC : Cells8 wr b (off + k * 8) (rowAt rs k) := fun i hi => (BB.out.cell (by exact hb)).trans (HC.out k hlt i hi)
    obtain ⟨c0, c1, c2, c3, c4, c5, c6, c7⟩ := hC.flat
    clear hC
    have hrow := H8.out.at (j := k) (by rw [HL.out]; exact hlt)
    go_wp2_with fail
    refine (toSimple_any (rowAt rs k) hrow _).mono ?_
    rintro e w2 ⟨rfl, hb2⟩
    clear c0 c1 c2 c3 c4 c5 c6 c7
    replace HO := Lib.hid (HO.out.below hb2)
    replace BB := Lib.hid (below_go BB.out hb2 BB.out.size)
    clear hb2
    obtain ⟨c0, c1, c2, c3, c4, c5, c6, c7⟩ := (HO.out.cellAt k hlt).flat
    have f0 := HO.out.frozenAt (k * 8)
    have f1 := HO.out.frozenAt (k * 8 + 1)
    have f2 := HO.out.frozenAt (k * 8 + 2)
    have f3 := HO.out.frozenAt (k * 8 + 3)
    have f4 := HO.out.frozenAt (k * 8 + 4)
    have f5 := HO.out.frozenAt (k * 8 + 5)
    have f6 := HO.out.frozenAt (k * 8 + 6)
    have f7 := HO.out.frozenAt (k * 8 + 7)
    go_wp2
    go_roundw
    case rel =>
     refine ⟨k + 1, by omega, by go_num, ?_, ?_⟩
     ·rw [← setA_prefix rs n k HL.out hlt]
      exact HO.out.store k hlt (rowAt rs k) hrow
     ·exact below_fill8a BB.out _ (Nat.le_refl _) _ _ _ _ _ _ _ _ _
    case measure => simp [intOf]; omega
   ·have hkn : k = n := by omega
    go_wp2
    go_ret
    subst hkn
    refine ⟨_, _, rfl, ?_, BB.out⟩
    have hh := HL.out
    have ho := HO.out
    rw [Nat.sub_self, List.replicate_zero, List.append_nil, List.take_of_length_le (by omega)] at ho
    exact ho

/-- What a function that makes a normal form hands back. -/
def MadeNormal (w : World) (s p : Int) (rs : List (List Int)) (e : Ending) (w' : World) : Prop :=
 ∃ a n cap, e = .returned (.agg #[.int .i64 s, .int .i64 p, .slice a n cap]) ∧ OwnA w.heap.size w' a n cap rs ∧ Below w.heap.size w w'

set_option maxRecDepth 100000 in
set_option maxHeartbeats 1000000 in
theorem toNormal_any (s p : Int) (a : Option Addr) (n cap : Nat) (rs : List (List Int)) (w : World) (hr : ReadsA w a n rs) (hn : n ≤ 1048576) :
  Calls Try.prog 8 #[.agg #[.int .i64 s, .int .i64 p, .slice a n cap]] w (MadeNormal w s p rs) := by
 have HR := Lib.hid hr; clear hr
 go_enter Try.func8, Try.ntmps8
 go_wp2_with fail
 refine (toSimpleS_any _ _ _ rs _ (((HR.out.alloc _).alloc _).alloc _) hn).mono ?_
 rintro e w1 ⟨a1, c1, rfl, ho, hb⟩
 obtain ⟨hc, hf⟩ := bcell hb
 have hz : w.heap.size + 2 < w1.heap.size := by have := hb.size; simp at this; omega
 have HO := Lib.hid ho; clear ho
 have HB := Lib.hid hb; clear hb
 go_wp2
 refine bodyPost_ret (v := .agg #[.int .i64 s, .int .i64 p, .slice a1 n c1]) (by simp [results, Try.results8, go_sem, hc]) rfl ⟨a1, n, c1, rfl, ?_, ?_⟩
 ·exact ((((HO.out.setCell_below (by simp) _).setCell_below (by simp) _).setCell_below (by simp) _).setCell_below (by simp) _).mono (by simp; omega)
 ·exact (((((below3 w _ _ _).trans (HB.out.mono (by simp; omega))).setCell (by simp; omega) _).setCell (by simp) _).setCell (by simp) _).setCell (by simp) _

end Go.Proofs.Ytpkhddndapcpjaa

/- Contracts of the small functions that the laws on normal forms call, continued: comparisons. -/
namespace Go.Proofs.Ytpkhddndapcpjaa
open Go.RowKit Go.ChangeShapes

set_option maxRecDepth 100000 in
set_option maxHeartbeats 1000000 in
theorem eqSimpleS_yes (a b : Option Addr) (n ca cb : Nat) (rs : List (List Int)) (w : World) (ha : ReadsA w a n rs) (hb : ReadsA w b n rs) (hn : n ≤ 1048576) :
  Calls Try.prog 29 #[.slice a n ca, .slice b n cb] w fun e w' => e = .returned (.bool true) ∧ Below w.heap.size w w' := by
 have h1 : ((n : Int) != (n : Int)) = false := by simp
 have HL := Lib.hid ha.len
 have H8 := Lib.hid ha.rows
 rcases Nat.eq_zero_or_pos n with h0 | h0
 ·subst h0
  clear ha hb
  go_enter Try.func29, Try.ntmps29
  go_wp2
  refine wp_loop_rounds 1 ?_; rw [rounds_succ]
  go_wp2
  go_ret
  exact ⟨rfl, Below.refl _ _⟩
 ·obtain ⟨ba, oa, rfl, hba, hca⟩ := ha.cells h0
  obtain ⟨bb, ob, rfl, hbb, hcb⟩ := hb.cells h0
  have HCA := Lib.hid hca; clear hca
  have HCB := Lib.hid hcb; clear hcb
  clear ha hb
  go_enter Try.func29, Try.ntmps29
  go_wp2
  go_loopw [5] (fun i wr => ∃ k : Nat, k ≤ n ∧ i = .int .i64 k ∧ Below w.heap.size w wr) (fun i _ => n - (intOf i).toNat)
  case atStart => exact ⟨0, Nat.zero_le _, rfl, Below.refl _ _⟩
  case round =>
   obtain ⟨k, hk, rfl, hbl⟩ := hrel
   have BB := Lib.hid hbl
   clear hbl
   by_cases hlt : k < n
   ·have CA : Hid (∀ W, Below w.heap.size w W → Cells8 W ba (oa + k * 8) (rowAt rs k)) := Lib.hid fun W h i hi => (h.cell (by exact hba)).trans (HCA.out k hlt i hi)
    have CB : Hid (∀ W, Below w.heap.size w W → Cells8 W bb (ob + k * 8) (rowAt rs k)) := Lib.hid fun W h i hi => (h.cell (by exact hbb)).trans (HCB.out k hlt i hi)
    have hrow := Lib.hid (H8.out.at (j := k) (by rw [HL.out]; exact hlt))
    have g0 : 0 ≤ (k : Int) := by omega
    have g1 : (k : Int) < (n : Int) := by omega
    have hbI : Below w.heap.size w wr.drew := BB.out.drew
    go_wp2
    go_region_held3 (fun w' => (w'.cell? ⟨ba, oa + k * 8, none⟩ = some (.int .u8 (at8 (rowAt rs k) 0)) ∧ w'.cell? ⟨ba, oa + k * 8 + 1, none⟩ = some (.int .u8 (at8 (rowAt rs k) 1)) ∧ w'.cell? ⟨ba, oa + k * 8 + 2, none⟩ = some (.int .u8 (at8 (rowAt rs k) 2)) ∧ w'.cell? ⟨ba, oa + k * 8 + 3, none⟩ = some (.int .u8 (at8 (rowAt rs k) 3)) ∧ w'.cell? ⟨ba, oa + k * 8 + 4, none⟩ = some (.int .u8 (at8 (rowAt rs k) 4)) ∧ w'.cell? ⟨ba, oa + k * 8 + 5, none⟩ = some (.int .u8 (at8 (rowAt rs k) 5)) ∧ w'.cell? ⟨ba, oa + k * 8 + 6, none⟩ = some (.int .u8 (at8 (rowAt rs k) 6)) ∧ w'.cell? ⟨ba, oa + k * 8 + 7, none⟩ = some (.int .u8 (at8 (rowAt rs k) 7))) ∧ (w'.cell? ⟨bb, ob + k * 8, none⟩ = some (.int .u8 (at8 (rowAt rs k) 0)) ∧ w'.cell? ⟨bb, ob + k * 8 + 1, none⟩ = some (.int .u8 (at8 (rowAt rs k) 1)) ∧ w'.cell? ⟨bb, ob + k * 8 + 2, none⟩ = some (.int .u8 (at8 (rowAt rs k) 2)) ∧ w'.cell? ⟨bb, ob + k * 8 + 3, none⟩ = some (.int .u8 (at8 (rowAt rs k) 3)) ∧ w'.cell? ⟨bb, ob + k * 8 + 4, none⟩ = some (.int .u8 (at8 (rowAt rs k) 4)) ∧ w'.cell? ⟨bb, ob + k * 8 + 5, none⟩ = some (.int .u8 (at8 (rowAt rs k) 5)) ∧ w'.cell? ⟨bb, ob + k * 8 + 6, none⟩ = some (.int .u8 (at8 (rowAt rs k) 6)) ∧ w'.cell? ⟨bb, ob + k * 8 + 7, none⟩ = some (.int .u8 (at8 (rowAt rs k) 7)))) (first | with_reducible exact ⟨(CA.out _ hbI).flat, (CB.out _ hbI).flat⟩ | with_reducible exact ⟨(CA.out _ hb2).flat, (CB.out _ hb2).flat⟩)
     (first
      | (go_at_call 54; refine (eqSimple_yes (rowAt rs k) hrow.out _).mono ?_; rintro e w2 ⟨rfl, h2⟩; have hb2 : Below w.heap.size w w2 := below_go hbI h2 hbI.size))
    go_wp2
    go_roundw
    case rel => exact ⟨k + 1, by omega, by go_num, hb2⟩
    case measure => simp [intOf]; omega
   ·have hkn : k = n := by omega
    have HK := Lib.hid hkn; clear hkn
    go_wp2
    go_ret
    exact ⟨rfl, BB.out⟩

set_option maxRecDepth 100000 in
set_option maxHeartbeats 1000000 in
theorem eqNormal_yes (s p : Int) (a b : Option Addr) (n ca cb : Nat) (rs : List (List Int)) (w : World) (ha : ReadsA w a n rs) (hb : ReadsA w b n rs) (hn : n ≤ 1048576) :
  Calls Try.prog 10 #[.agg #[.int .i64 s, .int .i64 p, .slice a n ca], .agg #[.int .i64 s, .int .i64 p, .slice b n cb]] w fun e w' => e = .returned (.bool true) ∧ Below w.heap.size w w' := by
 have HA := Lib.hid ha; clear ha
 have HB := Lib.hid hb; clear hb
 have t1 : (s != s) = false := by simp
 have t2 : (p != p) = false := by simp
 go_enter Try.func10, Try.ntmps10
 go_wp2_with (go_at_call 29; refine (eqSimpleS_yes _ _ _ _ _ rs _ ((HA.out.alloc _).alloc _) ((HB.out.alloc _).alloc _) hn).mono ?_; rintro e w1 ⟨rfl, hb1⟩)
 go_ret
 exact ⟨rfl, (below2 w _ _).trans (hb1.mono (by simp; omega))⟩

theorem At3.cells {w : World} {g : Nat} {u v x : Value} (h : At3 w g u v x) : w.cell? ⟨g, 0, none⟩ = some u ∧ w.cell? ⟨g, 1, none⟩ = some v ∧ w.cell? ⟨g, 2, none⟩ = some x := h.2.1

theorem ReadsA.same {w : World} {a b : Option Addr} {n m : Nat} {rs : List (List Int)} (ha : ReadsA w a n rs) (hb : ReadsA w b m rs) : n = m := by rw [← ha.len, ← hb.len]

end Go.Proofs.Ytpkhddndapcpjaa

/- Contracts of the small functions that the laws on normal forms call, continued: numbers are written into the factors and found there again. -/
namespace Go.Proofs.Ytpkhddndapcpjaa
open Go.RowKit Go.ChangeShapes

theorem rows_ext {rs ts : List (List Int)} (hl : rs.length = ts.length) (h : ∀ j, j < rs.length → rowAt rs j = rowAt ts j) : rs = ts := by
 refine List.ext_getElem hl fun j h1 h2 => ?_
 have := h j h1
 unfold rowAt at this
 simpa [List.getD, h1, h2] using this

/-- The slice of rows is the call's own, in a block from lo to hi - 1. -/
def OwnAIn (lo hi : Nat) (w : World) (a : Option Addr) (n cap : Nat) (rs : List (List Int)) : Prop := OwnA lo w a n cap rs ∧ ∀ x, a = some x → x.block < hi

theorem OwnAIn.below {lo hi : Nat} {w w' : World} {a : Option Addr} {n cap : Nat} {rs : List (List Int)} (h : OwnAIn lo hi w a n cap rs) (k : Below w.heap.size w w') : OwnAIn lo hi w' a n cap rs := ⟨h.1.below k, h.2⟩
theorem OwnAIn.alloc {lo hi : Nat} {w : World} {a : Option Addr} {n cap : Nat} {rs : List (List Int)} (h : OwnAIn lo hi w a n cap rs) (o : Obj) : OwnAIn lo hi (w.alloc o) a n cap rs := ⟨h.1.alloc o, h.2⟩
theorem OwnAIn.drew {lo hi : Nat} {w : World} {a : Option Addr} {n cap : Nat} {rs : List (List Int)} (h : OwnAIn lo hi w a n cap rs) : OwnAIn lo hi w.drew a n cap rs := h
theorem OwnAIn.reads {lo hi : Nat} {w : World} {a : Option Addr} {n cap : Nat} {rs : List (List Int)} (h : OwnAIn lo hi w a n cap rs) : ReadsA w a n rs := h.1.reads
theorem OwnA.within {B : Nat} {w : World} {a : Option Addr} {n cap : Nat} {rs : List (List Int)} (h : OwnA B w a n cap rs) : OwnAIn B w.heap.size w a n cap rs := ⟨h, fun x hx => (h.lo x hx).2⟩

theorem OwnAIn.wrote {l r lo hi : Nat} {w w' : World} {a : Option Addr} {n cap : Nat} {rs : List (List Int)} (h : OwnAIn l r w a n cap rs) (k : Wrote lo hi w w') (hd : r ≤ lo ∨ hi ≤ l) : OwnAIn l r w' a n cap rs := by
 refine ⟨⟨h.1.1, h.1.2.1, ?_⟩, h.2⟩
 rcases h.1.2.2 with h2 | ⟨g, c, cur, hv, hg, hh, rr⟩
 ·exact .inl h2
 ·have hgr : g < r := by
   simp only [Value.slice.injEq] at hv
   exact h.2 _ hv.1
  exact .inr ⟨g, c, cur, hv, hg, by rw [k.block g (by obtain ⟨hlt, _⟩ := Array.getElem?_eq_some_iff.1 hh; exact hlt) (by omega)]; exact hh, rr⟩

theorem OwnAIn.writes {lo hi : Nat} {w w' : World} {a : Option Addr} {n cap : Nat} {rs : List (List Int)} (h : OwnAIn lo hi w a n cap rs) (k : w.grownBy w' (a.map (·.block))) : Wrote lo hi w w' := by
 refine ⟨k.os, k.tape, k.output, k.size, fun j hj hd => k.block j hj fun e => ?_⟩
 cases a with
 | none => cases e
 | some x =>
  simp only [Option.map_some, Option.some.injEq] at e
  have h1 := (h.1.lo x rfl).1
  have h2 := h.2 x rfl
  omega

/-- The slice of rows that was there before. -/
def ReadsAOld (hi : Nat) (w : World) (a : Option Addr) (n : Nat) (rs : List (List Int)) : Prop := ReadsA w a n rs ∧ (n = 0 ∨ ∃ b off, a = some ⟨b, off, none⟩ ∧ b < hi)

theorem ReadsA.old {w : World} {a : Option Addr} {n : Nat} {rs : List (List Int)} (h : ReadsA w a n rs) : ReadsAOld w.heap.size w a n rs := by
 refine ⟨h, ?_⟩
 rcases Nat.eq_zero_or_pos n with h0 | h0
 ·exact .inl h0
 ·obtain ⟨b, off, ha, hb, _⟩ := h.cells h0
  exact .inr ⟨b, off, ha, hb⟩

theorem ReadsAOld.below {hi : Nat} {w w' : World} {a : Option Addr} {n : Nat} {rs : List (List Int)} (h : ReadsAOld hi w a n rs) (k : Below w.heap.size w w') : ReadsAOld hi w' a n rs := ⟨h.1.below k, h.2⟩
theorem ReadsAOld.alloc {hi : Nat} {w : World} {a : Option Addr} {n : Nat} {rs : List (List Int)} (h : ReadsAOld hi w a n rs) (o : Obj) : ReadsAOld hi (w.alloc o) a n rs := ⟨h.1.alloc o, h.2⟩
theorem ReadsAOld.drew {hi : Nat} {w : World} {a : Option Addr} {n : Nat} {rs : List (List Int)} (h : ReadsAOld hi w a n rs) : ReadsAOld hi w.drew a n rs := h

theorem ReadsAOld.wrote {lo hi top : Nat} {w w' : World} {a : Option Addr} {n : Nat} {rs : List (List Int)} (h : ReadsAOld lo w a n rs) (k : Wrote hi top w w') (hd : lo ≤ hi) : ReadsAOld lo w' a n rs := by
 refine ⟨⟨h.1.1, h.1.2.1, ?_⟩, h.2⟩
 rcases h.1.2.2 with h0 | ⟨b, off, ha, hc⟩
 ·exact .inl h0
 ·rcases h.2 with h0 | ⟨b', off', ha', hb⟩
  ·exact .inl h0
  ·rw [ha] at ha'
   cases ha'
   refine .inr ⟨b, off, ha, fun j hj i hi => ?_⟩
   have := World.block_lt_of_cell? _ _ (hc j hj i hi)
   rw [World.cell?_of_block (w := w) (k.block b this (by omega))]
   exact hc j hj i hi

end Go.Proofs.Ytpkhddndapcpjaa

/- A slice of rows of the call's own that need not begin where its block begins: numbers are written into it. -/
namespace Go.Proofs.Ytpkhddndapcpjaa
open Go.RowKit Go.ChangeShapes

/-- The slice is empty, or leads to rows of the call's own in a block from B on, and holds the rows. -/
def OwnS (B : Nat) (w : World) (a : Option Addr) (n : Nat) (rs : List (List Int)) : Prop :=
 Rows8 rs ∧ rs.length = n ∧ (n = 0 ∨ ∃ g off, a = some ⟨g, off, none⟩ ∧ B ≤ g ∧ g < w.heap.size ∧ (∀ j, j < n → ∀ i, i < 8 → w.cell? ⟨g, off + j * 8 + i, none⟩ = some (.int .u8 (at8 (rowAt rs j) i))) ∧ ∀ k, w.frozen? ⟨g, k, none⟩ = false)

theorem OwnA.toS {B : Nat} {w : World} {a : Option Addr} {n cap : Nat} {rs : List (List Int)} (h : OwnA B w a n cap rs) : OwnS B w a n rs := by
 refine ⟨h.rows, h.len, ?_⟩
 rcases Nat.eq_zero_or_pos n with h0 | h0
 ·exact .inl h0
 ·obtain ⟨g, rfl, hB, hg⟩ := h.block h0
  exact .inr ⟨g, 0, rfl, hB, hg, fun j hj i hi => by rw [Nat.zero_add]; exact h.cellAt j hj i hi, fun k => h.frozenAt k⟩

theorem OwnS.nil (B : Nat) (w : World) (a : Option Addr) : OwnS B w a 0 [] := ⟨(fun _ hr => absurd hr List.not_mem_nil), rfl, .inl rfl⟩

theorem OwnS.heap {B : Nat} {w w' : World} {a : Option Addr} {n : Nat} {rs : List (List Int)} (h : OwnS B w a n rs) (hs : w.heap.size ≤ w'.heap.size) (hb : ∀ x, a = some x → x.block < w.heap.size → B ≤ x.block → w'.heap[x.block]? = w.heap[x.block]?) : OwnS B w' a n rs := by
 obtain ⟨h1, h2, h | ⟨g, off, ha, hB, hg, hc, hf⟩⟩ := h
 ·exact ⟨h1, h2, .inl h⟩
 ·have e := hb _ ha hg hB
  exact ⟨h1, h2, .inr ⟨g, off, ha, hB, Nat.lt_of_lt_of_le hg hs, fun j hj i hi => by rw [World.cell?_of_block (w := w) (a := ⟨g, off + j * 8 + i, none⟩) e]; exact hc j hj i hi, fun k => by rw [World.frozen?_of_block (w := w) (a := ⟨g, k, none⟩) e]; exact hf k⟩⟩

theorem OwnS.below {B : Nat} {w w' : World} {a : Option Addr} {n : Nat} {rs : List (List Int)} (h : OwnS B w a n rs) (k : Below w.heap.size w w') : OwnS B w' a n rs := h.heap k.size fun _ _ hx _ => k.block _ hx
theorem OwnS.alloc {B : Nat} {w : World} {a : Option Addr} {n : Nat} {rs : List (List Int)} (h : OwnS B w a n rs) (o : Obj) : OwnS B (w.alloc o) a n rs := h.below ((Below.refl _ _).alloc (Nat.le_refl _) o)
theorem OwnS.drew {B : Nat} {w : World} {a : Option Addr} {n : Nat} {rs : List (List Int)} (h : OwnS B w a n rs) : OwnS B w.drew a n rs := h
theorem OwnS.mono {B B' : Nat} {w : World} {a : Option Addr} {n : Nat} {rs : List (List Int)} (h : OwnS B w a n rs) (hB : B' ≤ B) : OwnS B' w a n rs := by
 obtain ⟨h1, h2, h | ⟨g, off, ha, hg, r⟩⟩ := h
 ·exact ⟨h1, h2, .inl h⟩
 ·exact ⟨h1, h2, .inr ⟨g, off, ha, Nat.le_trans hB hg, r⟩⟩
theorem OwnS.rows {B : Nat} {w : World} {a : Option Addr} {n : Nat} {rs : List (List Int)} (h : OwnS B w a n rs) : Rows8 rs := h.1
theorem OwnS.len {B : Nat} {w : World} {a : Option Addr} {n : Nat} {rs : List (List Int)} (h : OwnS B w a n rs) : rs.length = n := h.2.1
theorem OwnS.reads {B : Nat} {w : World} {a : Option Addr} {n : Nat} {rs : List (List Int)} (h : OwnS B w a n rs) : ReadsA w a n rs := by
 obtain ⟨h1, h2, h | ⟨g, off, ha, _, _, hc, _⟩⟩ := h
 ·exact ⟨h2, h1, .inl h⟩
 ·exact ⟨h2, h1, .inr ⟨g, off, ha, hc⟩⟩
theorem OwnS.setCell_below {B : Nat} {w : World} {a : Option Addr} {n : Nat} {rs : List (List Int)} (h : OwnS B w a n rs) {p : Addr} (hp : p.block < B) (u : Value) : OwnS B (w.setCell p u) a n rs :=
 h.heap (by simp [World.setCell]) fun x _ _ hx => Below.heap_setCell _ _ _ _ (fun e => by omega)
theorem OwnS.set3 {B : Nat} {w : World} {g2 : Nat} {a : Option Addr} {n : Nat} {rs : List (List Int)} (h : OwnS B w a n rs) (hg : g2 < B) (x y z : Value) : OwnS B (((w.setCell ⟨g2, 0, none⟩ x).setCell ⟨g2, 1, none⟩ y).setCell ⟨g2, 2, none⟩ z) a n rs :=
 ((h.setCell_below (p := ⟨g2, 0, none⟩) hg x).setCell_below (p := ⟨g2, 1, none⟩) hg y).setCell_below (p := ⟨g2, 2, none⟩) hg z

/-- .. in a block from lo to hi - 1. -/
def OwnSIn (lo hi : Nat) (w : World) (a : Option Addr) (n : Nat) (rs : List (List Int)) : Prop := OwnS lo w a n rs ∧ (n = 0 ∨ ∀ x, a = some x → x.block < hi)

theorem OwnSIn.below {lo hi : Nat} {w w' : World} {a : Option Addr} {n : Nat} {rs : List (List Int)} (h : OwnSIn lo hi w a n rs) (k : Below w.heap.size w w') : OwnSIn lo hi w' a n rs := ⟨h.1.below k, h.2⟩
theorem OwnSIn.alloc {lo hi : Nat} {w : World} {a : Option Addr} {n : Nat} {rs : List (List Int)} (h : OwnSIn lo hi w a n rs) (o : Obj) : OwnSIn lo hi (w.alloc o) a n rs := ⟨h.1.alloc o, h.2⟩
theorem OwnSIn.drew {lo hi : Nat} {w : World} {a : Option Addr} {n : Nat} {rs : List (List Int)} (h : OwnSIn lo hi w a n rs) : OwnSIn lo hi w.drew a n rs := h
theorem OwnSIn.reads {lo hi : Nat} {w : World} {a : Option Addr} {n : Nat} {rs : List (List Int)} (h : OwnSIn lo hi w a n rs) : ReadsA w a n rs := h.1.reads
theorem OwnS.within {B : Nat} {w : World} {a : Option Addr} {n : Nat} {rs : List (List Int)} (h : OwnS B w a n rs) : OwnSIn B w.heap.size w a n rs := by
 refine ⟨h, ?_⟩
 rcases h.2.2 with h0 | ⟨g, off, rfl, _, hg, _⟩
 ·exact .inl h0
 ·exact .inr fun x hx => by cases hx; exact hg
theorem OwnSIn.wrote {l r lo hi : Nat} {w w' : World} {a : Option Addr} {n : Nat} {rs : List (List Int)} (h : OwnSIn l r w a n rs) (k : Wrote lo hi w w') (hd : r ≤ lo ∨ hi ≤ l) : OwnSIn l r w' a n rs := by
 refine ⟨?_, h.2⟩
 rcases h.2 with h0 | h0
 ·exact ⟨h.1.1, h.1.2.1, .inl h0⟩
 ·exact h.1.heap k.size fun x hx hs hB => k.block _ hs (by have := h0 x hx; omega)

/-- One byte is stored. -/
theorem OwnS.store1 {B : Nat} {w : World} {g off n : Nat} {rs : List (List Int)} (h : OwnS B w (some ⟨g, off, none⟩) n rs) (k : Nat) (hk : k < n) (i : Nat) (hi : i < 8) (x : Int) :
  OwnS B (w.setCell ⟨g, off + k * 8 + i, none⟩ (.int .u8 x)) (some ⟨g, off, none⟩) n (rs.set k ((rowAt rs k).set i x)) := by
 obtain ⟨h1, h2, h | ⟨g', off', ha, hB, hg, hc, hf⟩⟩ := h
 ·omega
 ·cases ha
  have h8 := h1.at (j := k) (by omega)
  refine ⟨h1.set k _ (by rw [List.length_set]; exact h8), by rw [List.length_set]; exact h2, .inr ⟨g, off, rfl, hB, by simpa [World.setCell] using hg, fun j hj p hp => ?_, fun q => by simpa using hf q⟩⟩
  rw [rowAt_set _ _ _ _ (by omega)]
  by_cases e : k = j
  ·subst e
   rw [if_pos rfl, at8_set _ _ _ _ (by rw [h8]; exact hi)]
   by_cases e2 : i = p
   ·subst e2
    rw [if_pos rfl]
    exact World.cell?_setCell_same _ _ _ (hc k hj i hi)
   ·rw [if_neg e2]
    exact (World.cell?_setCell_other _ _ _ _ (by simp <;> omega)).trans (hc k hj p hp)
  ·rw [if_neg e]
   exact (World.cell?_setCell_other _ _ _ _ (by simp <;> omega)).trans (hc j hj p hp)

end Go.Proofs.Ytpkhddndapcpjaa
