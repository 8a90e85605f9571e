/- slices.Concat over numbers; free words within the limit. -/
import Derived.Test.YtehcbamfendbaaaCct
namespace Go.Proofs.Ytehcbamfendbaaa
open Go.RowKit Go.Shelf Go.ChangeShapes

set_option maxRecDepth 100000 in
set_option maxHeartbeats 1000000 in
theorem concat2_any (g : Nat) (a b : Option Addr) (n m ca cb : Nat) (xs ys : List Int) (w : World) (hg : g < w.heap.size) (h0 : w.cell? ⟨g, 0, none⟩ = some (.slice a n ca)) (h1 : w.cell? ⟨g, 1, none⟩ = some (.slice b m cb)) (hx : Reads w a n xs) (hy : Reads w b m ys) (hn : n ≤ 1048576) (hm : m ≤ 1048576) :
    Calls Try.prog 72 #[.slice (some ⟨g, 0, none⟩) 2 2] w (MadeInts w (n + m) (xs ++ ys)) := by
  obtain ⟨i0, hi, hz0, hz1, hz2⟩ := info_parts infoInt
  have hw1 : IntKind.i64.wrap (n : Int) = (n : Int) := IntWalk.i64_in _ (by omega)
  have hw2 : IntKind.i64.wrap ((n : Int) + (m : Int)) = ((n + m : Nat) : Int) := (IntWalk.i64_in _ (by omega)).trans (by omega)
  have X := Lib.hid hx; have Y := Lib.hid hy; clear hx hy
  have hcell : ∀ v, Below w.heap.size w v → v.cell? ⟨g, 0, none⟩ = some (.slice a n ca) ∧ v.cell? ⟨g, 1, none⟩ = some (.slice b m cb) := fun v hb => ⟨(hb.cell (p := ⟨g, 0, none⟩) hg).trans h0, (hb.cell (p := ⟨g, 1, none⟩) hg).trans h1⟩
  have HC := Lib.hid hcell; clear hcell
  have k1 : ¬ ((n + m : Nat) : Int) < 0 := by omega
  have k2 : ¬ (n : Int) < 0 := by omega
  go_enter Try.func72, Try.ntmps72
  go_wp2
  refine wp_loop_rounds 3 ?_; rw [rounds_succ]
  go_wp2
  rw [rounds_succ]
  go_wp2
  rw [rounds_succ]
  go_wp2_with fail
  refine (grow_any (n + m) _ (by omega)).mono ?_
  rintro e w1 ⟨av, cv, rfl, ho, hb⟩
  obtain ⟨c0, c1⟩ := HC.out _ hb
  have X1 := Lib.hid (X.out.below hb)
  have Y1 := Lib.hid (Y.out.below hb)
  have HB := Lib.hid hb; have HO := Lib.hid ho; clear hb ho
  have hs1 := HB.out.size
  clear h0 h1
  go_wp2
  refine wp_loop_rounds 3 ?_; rw [rounds_succ]
  go_wp2_with (at_builtin; refine wpList_append_ints rfl _ _ 22 rfl w.heap.size i0 Try.underlying22 hi hz0 hz1 hz2 _ _ _ rfl HO.out _ _ _ xs rfl X1.out (by omega) (by omega) ?_)
  intro v2 w2 ho hg2
  have ho2 : OwnV w.heap.size w2 v2 n xs := by simpa using ho
  have HB2 := Lib.hid (below_appended5 HB.out hs1 HO.out hg2)
  clear ho hg2 c0 c1
  have HO2 := Lib.hid ho2; clear ho2
  obtain ⟨c0, c1⟩ := HC.out _ HB2.out
  have Y2 := Lib.hid (Y.out.below HB2.out)
  have hs2 := HB2.out.size
  go_wp2
  rw [rounds_succ]
  go_wp2_with (at_builtin; refine wpList_append_ints rfl _ _ 22 rfl w.heap.size i0 Try.underlying22 hi hz0 hz1 hz2 _ _ _ rfl HO2.out _ _ _ ys rfl Y2.out (by omega) (by omega) ?_)
  intro v3 w3 ho hg3
  have HB3 := Lib.hid (below_appended5 HB2.out hs2 HO2.out hg3)
  have HO3 := Lib.hid ho; clear ho hg3
  go_wp2
  rw [rounds_succ]
  go_wp2
  go_ret
  obtain ⟨a4, c4, rfl, ho4⟩ := HO3.out.form
  exact ⟨_, _, rfl, ho4, HB3.out⟩

/-- Pairs taken away, and the code. -/
def mLim (ys : List Int) : List Int × Int := if 4000 < (joinF [] ys).length then ([], 3) else (joinF [] ys, 0)

/-- .. where the limit is another one. -/
def mLimM (c : Int) (ys : List Int) : List Int × Int := if c < ((joinF [] ys).length : Int) then ([], 3) else (joinF [] ys, 0)

theorem mLimM_4000 (ys : List Int) : mLimM 4000 ys = mLim ys := by
  unfold mLimM mLim
  by_cases h : 4000 < (joinF [] ys).length
  · rw [if_pos h, if_pos (by omega)]
  · rw [if_neg h, if_neg (by omega)]

theorem withoutPairs_ys {gf : Nat} {lb : Array Value} {zs : List Sm} {ys : List Int} (w : World) (hs : SeqI w.heap.size gf lb zs w) (hlen : zs.length ≤ 1048576) (hz : zs.map (·.1) = ys) (q : Nat) (hq : q = (joinF [] ys).length) :
    Calls Try.prog 160 #[.func (.func gf) #[] lb] w (MadeInts w q (joinF [] ys)) := by
  subst hz; subst hq
  exact withoutPairs_any w hs hlen

set_option maxRecDepth 100000 in
set_option maxHeartbeats 1000000 in
theorem limitedFree_any {gf : Nat} {lb : Array Value} {zs : List Sm} {ys : List Int} (c : Int) (w : World) (hs : SeqI w.heap.size gf lb zs w) (hlen : zs.length ≤ 1048576) (hz : zs.map (·.1) = ys) {fxs : List Int} {fc : Int} (hM : mLimM c ys = (fxs, fc)) :
    Calls Try.prog 153 #[.func (.func gf) #[] lb, .int .i64 c] w (RetInts w fxs fc) := by
  have hjl := joinF_len [] ys
  rw [← hz, List.length_map, hz, List.length_nil] at hjl
  have HS := Lib.hid hs; clear hs
  obtain ⟨q, hqe⟩ : ∃ q, q = (joinF [] ys).length := ⟨_, rfl⟩
  have HZ := Lib.hid hz; clear hz
  by_cases hq : c < ((joinF [] ys).length : Int)
  · simp only [mLimM, if_pos hq, Prod.mk.injEq] at hM
    obtain ⟨rfl, rfl⟩ := hM
    rw [← hqe] at hq hjl
    have HQ := Lib.hid hqe; clear hqe
    go_enter Try.func153, Try.ntmps153
    go_wp2_with fail
    refine (withoutPairs_ys w HS.out hlen HZ.out q HQ.out).mono ?_
    rintro e w1 ⟨a1, c1, rfl, ho, hb⟩
    have HB := Lib.hid hb; clear hb ho
    go_wp2
    go_ret2
    exact ⟨_, 0, 0, rfl, by omega, Own.nil _ _, HB.out⟩
  · simp only [mLimM, if_neg hq, Prod.mk.injEq] at hM
    obtain ⟨rfl, rfl⟩ := hM
    rw [← hqe] at hq hjl
    have HQ := Lib.hid hqe; clear hqe
    go_enter Try.func153, Try.ntmps153
    go_wp2_with fail
    refine (withoutPairs_ys w HS.out hlen HZ.out q HQ.out).mono ?_
    rintro e w1 ⟨a1, c1, rfl, ho, hb⟩
    have HB := Lib.hid hb; have HO := Lib.hid ho; clear hb ho
    go_wp2
    go_ret2
    exact ⟨_, q, _, rfl, by omega, HO.out, HB.out⟩

end Go.Proofs.Ytehcbamfendbaaa
