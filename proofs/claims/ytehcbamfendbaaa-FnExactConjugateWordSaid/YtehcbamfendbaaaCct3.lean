/- slices.Concat over three lists of numbers. -/
import Derived.Test.YtehcbamfendbaaaCct
namespace Go.Proofs.Ytehcbamfendbaaa
open Go.RowKit Go.Shelf Go.ChangeShapes

set_option maxRecDepth 100000 in
set_option maxHeartbeats 1000000 in
theorem concat3_any (g : Nat) (a b c : Option Addr) (n m l ca cb cc : Nat) (xs ys zs : List Int) (w : World) (hg : g < w.heap.size) (h0 : w.cell? ⟨g, 0, none⟩ = some (.slice a n ca)) (h1 : w.cell? ⟨g, 1, none⟩ = some (.slice b m cb)) (h2 : w.cell? ⟨g, 2, none⟩ = some (.slice c l cc)) (hx : Reads w a n xs) (hy : Reads w b m ys) (hz : Reads w c l zs) (hn : n ≤ 1048576) (hm : m ≤ 1048576) (hl : l ≤ 1048576) :
    Calls Try.prog 72 #[.slice (some ⟨g, 0, none⟩) 3 3] w (MadeInts w (n + m + l) (xs ++ ys ++ zs)) := by
  obtain ⟨i0, hi, hz0, hz1, hz2⟩ := info_parts infoInt
  have hw1 : IntKind.i64.wrap (n : Int) = (n : Int) := IntWalk.i64_in _ (by omega)
  have hw2 : IntKind.i64.wrap ((n : Int) + (m : Int)) = ((n + m : Nat) : Int) := (IntWalk.i64_in _ (by omega)).trans (by omega)
  have hw3 : IntKind.i64.wrap (((n + m : Nat) : Int) + (l : Int)) = ((n + m + l : Nat) : Int) := (IntWalk.i64_in _ (by omega)).trans (by omega)
  have X := Lib.hid hx; have Y := Lib.hid hy; have ZR := Lib.hid hz; clear hx hy hz
  have hcell : ∀ v, Below w.heap.size w v → v.cell? ⟨g, 0, none⟩ = some (.slice a n ca) ∧ v.cell? ⟨g, 1, none⟩ = some (.slice b m cb) ∧ v.cell? ⟨g, 2, none⟩ = some (.slice c l cc) := fun v hb => ⟨(hb.cell (p := ⟨g, 0, none⟩) hg).trans h0, (hb.cell (p := ⟨g, 1, none⟩) hg).trans h1, (hb.cell (p := ⟨g, 2, none⟩) hg).trans h2⟩
  have HC := Lib.hid hcell; clear hcell
  have k1 : ¬ ((n + m : Nat) : Int) < 0 := by omega
  have k2 : ¬ (n : Int) < 0 := by omega
  have k3 : ¬ ((n + m + l : Nat) : Int) < 0 := by omega
  obtain ⟨u, hu⟩ : ∃ u, u = n + m := ⟨_, rfl⟩
  rw [← hu] at hw2 hw3 k1 k3
  have HU := Lib.hid hu
  have hu2 : u ≤ 2097152 := by omega
  obtain ⟨t, ht⟩ : ∃ t, t = n + m + l := ⟨_, rfl⟩
  rw [show u + l = t by omega] at hw3 k3
  have HT := Lib.hid ht
  have ht2 : t ≤ 3145728 := by omega
  rw [← ht]
  clear hu ht
  go_enter Try.func72, Try.ntmps72
  go_wp2
  refine wp_loop_rounds 4 ?_; rw [rounds_succ]
  go_wp2
  rw [rounds_succ]
  go_wp2
  rw [rounds_succ]
  go_wp2
  rw [rounds_succ]
  go_wp2_with fail
  refine (grow_any t _ (by omega)).mono ?_
  rintro e w1 ⟨av, cv, rfl, ho, hb⟩
  obtain ⟨c0, c1, c2⟩ := HC.out _ hb
  have X1 := Lib.hid (X.out.below hb)
  have Y1 := Lib.hid (Y.out.below hb)
  have Z1 := Lib.hid (ZR.out.below hb)
  have HB := Lib.hid hb; have HO := Lib.hid ho; clear hb ho
  have hs1 := HB.out.size
  clear h0 h1 h2
  go_wp2
  refine wp_loop_rounds 4 ?_; rw [rounds_succ]
  go_wp2_with (at_builtin; refine wpList_append_ints rfl _ _ 22 rfl w.heap.size i0 Try.underlying22 hi hz0 hz1 hz2 _ _ _ rfl HO.out _ _ _ xs rfl X1.out (by omega) (by omega) ?_)
  intro v2 w2 ho hg2
  have ho2 : OwnV w.heap.size w2 v2 n xs := by simpa using ho
  have HB2 := Lib.hid (below_appended5 HB.out hs1 HO.out hg2)
  clear ho hg2 c0 c1 c2
  have HO2 := Lib.hid ho2; clear ho2
  obtain ⟨c0, c1, c2⟩ := HC.out _ HB2.out
  have Y2 := Lib.hid (Y.out.below HB2.out)
  have hs2 := HB2.out.size
  go_wp2
  rw [rounds_succ]
  go_wp2_with (at_builtin; refine wpList_append_ints rfl _ _ 22 rfl w.heap.size i0 Try.underlying22 hi hz0 hz1 hz2 _ _ _ rfl HO2.out _ _ _ ys rfl Y2.out (by omega) (by omega) ?_)
  intro v3 w3 ho hg3
  have HB3 := Lib.hid (below_appended5 HB2.out hs2 HO2.out hg3)
  clear c0 c1 c2
  have HO3 := Lib.hid ho; clear ho hg3
  obtain ⟨c0, c1, c2⟩ := HC.out _ HB3.out
  have Z3 := Lib.hid (ZR.out.below HB3.out)
  have hs3 := HB3.out.size
  go_wp2
  rw [rounds_succ]
  go_wp2_with (at_builtin; refine wpList_append_ints rfl _ _ 22 rfl w.heap.size i0 Try.underlying22 hi hz0 hz1 hz2 _ _ _ rfl HO3.out _ _ _ zs rfl Z3.out (by omega) (by omega) ?_)
  intro v4 w4 ho hg4
  have HB4 := Lib.hid (below_appended5 HB3.out hs3 HO3.out hg4)
  have HO4 := Lib.hid ho; clear ho hg4
  go_wp2
  rw [rounds_succ]
  go_wp2
  go_ret
  obtain ⟨a4, c4, rfl, ho4⟩ := HO4.out.form
  rw [HT.out]
  rw [List.append_assoc]
  exact ⟨_, _, rfl, ho4, HB4.out⟩

end Go.Proofs.Ytehcbamfendbaaa
