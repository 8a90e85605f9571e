/- slices.Concat over numbers; free words within the limit. -/
import Derived.Test.YtmlejlediflaaaaCct
namespace Go.Proofs.Ytmlejlediflaaaa
open Go.RowKit Go.Shelf Go.ChangeShapes

set_option maxRecDepth 100000 in
set_option maxHeartbeats 1000000 in
theorem concat2_any (g : Nat) (a b : Option Addr) (n m ca cb : Nat) (xs ys : List Int) (w : World) (hg : g < w.heap.size) (h0 : w.cell? ⟨g, 0, none⟩ = some (.slice a n ca)) (h1 : w.cell? ⟨g, 1, none⟩ = some (.slice b m cb)) (hx : Reads w a n xs) (hy : Reads w b m ys) (hn : n ≤ 1048576) (hm : m ≤ 1048576) :
    Calls Try.prog 115 #[.slice (some ⟨g, 0, none⟩) 2 2] w (MadeInts w (n + m) (xs ++ ys)) := by
  obtain ⟨i0, hi, hz0, hz1, hz2⟩ := info_parts infoInt
  have hw1 : IntKind.i64.wrap (n : Int) = (n : Int) := IntWalk.i64_in _ (by omega)
  have hw2 : IntKind.i64.wrap ((n : Int) + (m : Int)) = ((n + m : Nat) : Int) := (IntWalk.i64_in _ (by omega)).trans (by omega)
  have X := Lib.hid hx; have Y := Lib.hid hy; clear hx hy
  have hcell : ∀ v, Below w.heap.size w v → v.cell? ⟨g, 0, none⟩ = some (.slice a n ca) ∧ v.cell? ⟨g, 1, none⟩ = some (.slice b m cb) := fun v hb => ⟨(hb.cell (p := ⟨g, 0, none⟩) hg).trans h0, (hb.cell (p := ⟨g, 1, none⟩) hg).trans h1⟩
  have HC := Lib.hid hcell; clear hcell
  have k1 : ¬ ((n + m : Nat) : Int) < 0 := by omega
  have k2 : ¬ (n : Int) < 0 := by omega
  go_enter Try.func115, Try.ntmps115
  go_wp2
  refine wp_loop_rounds 3 ?_; rw [rounds_succ]
  go_wp2
  rw [rounds_succ]
  go_wp2
  rw [rounds_succ]
  go_wp2_with fail
  refine (grow_any (n + m) _ (by omega)).mono ?_
  rintro e w1 ⟨av, cv, rfl, ho, hb⟩
  obtain ⟨c0, c1⟩ := HC.out _ hb
  have X1 := Lib.hid (X.out.below hb)
  have Y1 := Lib.hid (Y.out.below hb)
  have HB := Lib.hid hb; have HO := Lib.hid ho; clear hb ho
  have hs1 := HB.out.size
  clear h0 h1
  go_wp2
  refine wp_loop_rounds 3 ?_; rw [rounds_succ]
  go_wp2_with (at_builtin; refine wpList_append_ints rfl _ _ 22 rfl w.heap.size i0 Try.underlying22 hi hz0 hz1 hz2 _ _ _ rfl HO.out _ _ _ xs rfl X1.out (by omega) (by omega) ?_)
  intro v2 w2 ho hg2
  have ho2 : OwnV w.heap.size w2 v2 n xs := by simpa using ho
  have HB2 := Lib.hid (below_appended5 HB.out hs1 HO.out hg2)
  clear ho hg2 c0 c1
  have HO2 := Lib.hid ho2; clear ho2
  obtain ⟨c0, c1⟩ := HC.out _ HB2.out
  have Y2 := Lib.hid (Y.out.below HB2.out)
  have hs2 := HB2.out.size
  go_wp2
  rw [rounds_succ]
  go_wp2_with (at_builtin; refine wpList_append_ints rfl _ _ 22 rfl w.heap.size i0 Try.underlying22 hi hz0 hz1 hz2 _ _ _ rfl HO2.out _ _ _ ys rfl Y2.out (by omega) (by omega) ?_)
  intro v3 w3 ho hg3
  have HB3 := Lib.hid (below_appended5 HB2.out hs2 HO2.out hg3)
  have HO3 := Lib.hid ho; clear ho hg3
  go_wp2
  rw [rounds_succ]
  go_wp2
  go_ret
  obtain ⟨a4, c4, rfl, ho4⟩ := HO3.out.form
  exact ⟨_, _, rfl, ho4, HB3.out⟩

/-- Pairs taken away, and the code. -/
def mLim (ys : List Int) : List Int × Int := if 4000 < (joinF [] ys).length then ([], 3) else (joinF [] ys, 0)

/-- .. where the limit is another one. -/
def mLimM (c : Int) (ys : List Int) : List Int × Int := if c < ((joinF [] ys).length : Int) then ([], 3) else (joinF [] ys, 0)

theorem mLimM_4000 (ys : List Int) : mLimM 4000 ys = mLim ys := by
  unfold mLimM mLim
  by_cases h : 4000 < (joinF [] ys).length
  · rw [if_pos h, if_pos (by omega)]
  · rw [if_neg h, if_neg (by omega)]

theorem withoutPairs_ys {gf : Nat} {lb : Array Value} {zs : List Sm} {ys : List Int} (w : World) (hs : SeqI w.heap.size gf lb zs w) (hlen : zs.length ≤ 1048576) (hz : zs.map (·.1) = ys) (q : Nat) (hq : q = (joinF [] ys).length) :
    Calls Try.prog 131 #[.func (.func gf) #[] lb] w (MadeInts w q (joinF [] ys)) := by
  subst hz; subst hq
  exact withoutPairs_any w hs hlen

set_option maxRecDepth 100000 in
set_option maxHeartbeats 1000000 in
theorem limitedFree_any {gf : Nat} {lb : Array Value} {zs : List Sm} {ys : List Int} (c : Int) (w : World) (hs : SeqI w.heap.size gf lb zs w) (hlen : zs.length ≤ 1048576) (hz : zs.map (·.1) = ys) {fxs : List Int} {fc : Int} (hM : mLimM c ys = (fxs, fc)) :
    Calls Try.prog 113 #[.func (.func gf) #[] lb, .int .i64 c] w (RetInts w fxs fc) := by
  have hjl := joinF_len [] ys
  rw [← hz, List.length_map, hz, List.length_nil] at hjl
  have HS := Lib.hid hs; clear hs
  obtain ⟨q, hqe⟩ : ∃ q, q = (joinF [] ys).length := ⟨_, rfl⟩
  have HZ := Lib.hid hz; clear hz
  by_cases hq : c < ((joinF [] ys).length : Int)
  · simp only [mLimM, if_pos hq, Prod.mk.injEq] at hM
    obtain ⟨rfl, rfl⟩ := hM
    rw [← hqe] at hq hjl
    have HQ := Lib.hid hqe; clear hqe
    go_enter Try.func113, Try.ntmps113
    go_wp2_with fail
    refine (withoutPairs_ys w HS.out hlen HZ.out q HQ.out).mono ?_
    rintro e w1 ⟨a1, c1, rfl, ho, hb⟩
    have HB := Lib.hid hb; clear hb ho
    go_wp2
    go_ret2
    exact ⟨_, 0, 0, rfl, by omega, Own.nil _ _, HB.out⟩
  · simp only [mLimM, if_neg hq, Prod.mk.injEq] at hM
    obtain ⟨rfl, rfl⟩ := hM
    rw [← hqe] at hq hjl
    have HQ := Lib.hid hqe; clear hqe
    go_enter Try.func113, Try.ntmps113
    go_wp2_with fail
    refine (withoutPairs_ys w HS.out hlen HZ.out q HQ.out).mono ?_
    rintro e w1 ⟨a1, c1, rfl, ho, hb⟩
    have HB := Lib.hid hb; have HO := Lib.hid ho; clear hb ho
    go_wp2
    go_ret2
    exact ⟨_, q, _, rfl, by omega, HO.out, HB.out⟩

set_option maxRecDepth 100000 in
set_option maxHeartbeats 1000000 in
theorem multipliedFree_any (a b : Option Addr) (n m ca cb : Nat) (xs ys : List Int) (w : World) (hx : Reads w a n xs) (hy : Reads w b m ys) (hsx : Small xs) (hsy : Small ys) (hn : n ≤ 100000) (hm : m ≤ 100000) {fxs : List Int} {fc : Int} (hM : mLim (xs ++ ys) = (fxs, fc)) :
    Calls Try.prog 85 #[.slice a n ca, .slice b m cb] w (RetInts w fxs fc) := by
  have hsm : Small (xs ++ ys) := fun z hz => (List.mem_append.1 hz).elim (hsx z) (hsy z)
  obtain ⟨zs, hz⟩ := sm_of _ hsm
  have hzl : zs.length = n + m := by rw [← List.length_map (f := fun x : Sm => x.1), hz, List.length_append, hx.len, hy.len]
  have X := Lib.hid hx; have Y := Lib.hid hy; clear hx hy
  have HM := Lib.hid hM; clear hM
  have HZ := Lib.hid hz; have HZL := Lib.hid hzl; clear hz hzl
  go_enter Try.func85, Try.ntmps85
  go_wp2_with fail
  refine (concat2_any w.heap.size a b n m ca cb xs ys _ (by simp) (At2.new w (.slice a n ca) (.slice b m cb) 22).2.1 (At2.new w (.slice a n ca) (.slice b m cb) 22).2.2.1 (X.out.alloc _) (Y.out.alloc _) (by omega) (by omega)).mono ?_
  rintro e w1 ⟨a1, c1, rfl, ho, hb⟩
  have HO := Lib.hid ho
  have HB := Lib.hid (below_go (below1 w (.cells #[.slice a n ca, .slice b m cb] 22)) hb (by simp))
  clear ho hb
  have hs1 := HB.out.size
  go_wp2_with fail
  refine (values_any _ _ _ _).mono ?_
  rintro e w2 ⟨rfl, hw2⟩
  have hsq := values_seq (w1.heap.size + 1) a1 (n + m) c1 (xs ++ ys) zs w1 HO.out.reads HZ.out (by omega) (by omega)
  have hb2 := below1 w1 (.cells #[.slice a1 (n + m) c1] 22)
  have hs2 : w2.heap.size = w1.heap.size + 1 := by rw [hw2]; simp
  rw [← hw2] at hsq hb2
  rw [← hs2] at hsq
  have HSQ := Lib.hid hsq
  have HB2 := Lib.hid (HB.out.trans (hb2.mono hs1))
  clear hsq hw2 hb2 hs2
  have hs3 := HB2.out.size
  go_wp2_with fail
  refine (limitedFree_any 4000 w2 HSQ.out (by have := HZL.out; omega) HZ.out ((mLimM_4000 _).trans HM.out)).mono ?_
  rintro e w3 ⟨a3, n3, c3, rfl, hl3, ho3, hb3⟩
  have HO3 := Lib.hid ho3; have HB3 := Lib.hid hb3; clear ho3 hb3
  go_wp2
  go_ret2
  exact ⟨a3, n3, c3, rfl, hl3, HO3.out.mono hs3, HB2.out.trans (HB3.out.mono hs3)⟩

end Go.Proofs.Ytmlejlediflaaaa
