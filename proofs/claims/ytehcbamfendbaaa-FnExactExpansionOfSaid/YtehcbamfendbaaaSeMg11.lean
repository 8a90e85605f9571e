/- Merged texts. -/
import Derived.Test.YtehcbamfendbaaaSeActP
import Derived.Test.YtehcbamfendbaaaSeWPn

/- What letters put for numbers of free words: the program. -/
namespace Go.Proofs.Ytehcbamfendbaaa
open Go.RowKit Go.ChangeShapes

theorem generators_any (l : Int) (w : World) (h1 : -100 < l) (h2 : l < 100) :
  Calls Try.prog 163 #[.int .i64 l] w fun e w' => e = .returned (.tuple #[.int .i64 (genW l), .int .i64 (genP l)]) ∧ w' = w := by
 have i1 := fun W => index_any l W (by omega) (by omega)
 have I1 := Lib.hid i1; clear i1
 by_cases h : l < 0
 ·have e1 : l * cnt l = -l := by rw [cnt_neg h]; omega
  have e2 : IntKind.i64.wrap (-l + 1) = -l + 1 := IntWalk.i64_in _ (by omega)
  have E1 := Lib.hid e1; clear e1
  go_enter Try.func163, Try.ntmps163
  go_wp2_with (go_at_call 111; refine (I1.out _).mono ?_; rintro e w' ⟨rfl, rfl⟩; rw [E1.out])
  go_ret2
  simp [genW, genP, h]
 ·have e1 : l * cnt l = l := by rw [cnt_pos h]; omega
  have e2 : IntKind.i64.wrap (l + 1) = l + 1 := IntWalk.i64_in _ (by omega)
  have E1 := Lib.hid e1; clear e1
  go_enter Try.func163, Try.ntmps163
  go_wp2_with (go_at_call 111; refine (I1.out _).mono ?_; rintro e w' ⟨rfl, rfl⟩; rw [E1.out])
  go_ret2
  simp [genW, genP]
  omega

theorem genW_bd (l : Int) (h1 : -100 < l) (h2 : l < 100) : -101 < genW l ∧ genW l < 101 ∧ -101 < genP l ∧ genP l < 101 := by
 unfold genW genP
 split <;> omega

set_option maxRecDepth 100000 in
set_option maxHeartbeats 1000000 in
theorem puts_any (l x : Int) (w : World) (h1 : -100 < l) (h2 : l < 100) (g1 : -1000 < x) (g2 : x < 1000) :
  Calls Try.prog 159 #[.int .i64 l, .int .i64 x] w fun e w' => e = .returned (.slice (some ⟨w.heap.size, 0, none⟩) (putsL l x).length (putsL l x).length) ∧ w' = w.alloc (.cells ((putsL l x).map (Value.int .i64)).toArray 102) := by
 have hb := genW_bd l h1 h2
 have i1 := fun W => index_any x W g1 g2
 have I1 := Lib.hid i1; clear i1
 obtain ⟨W, hW⟩ : ∃ W, W = genW l := ⟨_, rfl⟩
 obtain ⟨Q, hQ⟩ : ∃ Q, Q = genP l := ⟨_, rfl⟩
 rw [← hW, ← hQ] at hb
 obtain ⟨b1, b2, b3, b4⟩ := hb
 have p1 := fun V => withIndex_any l W V (by omega) (by omega)
 have p2 := fun V => withIndex_any x Q V (by omega) (by omega)
 have p3 := fun V => withIndex_any x W V (by omega) (by omega)
 have hc : cnt l = -1 ∨ cnt l = 1 := by unfold cnt; split <;> simp
 have p4 := fun V => inverse_any (W * cnt l) V (by rcases hc with e | e <;> rw [e] <;> omega) (by rcases hc with e | e <;> rw [e] <;> omega)
 have P1 := Lib.hid p1; have P2 := Lib.hid p2; have P3 := Lib.hid p3; have P4 := Lib.hid p4; clear p1 p2 p3 p4 hc
 have HW := Lib.hid hW; have HQ := Lib.hid hQ
 have G := Lib.hid (fun V => generators_any l V h1 h2)
 rw [← hW, ← hQ] at G
 clear hW hQ
 obtain ⟨i, hi⟩ : ∃ i, i = x * cnt x := ⟨_, rfl⟩
 rw [← hi] at I1
 have HI := Lib.hid hi; clear hi
 by_cases c1 : i = W
 ·have t1 : (i == W) = true := by simp [c1]
  have hp : putsL l x = [W * cnt l, Q * cnt x, -(W * cnt l)] := by rw [putsL, ← HI.out, ← HW.out, ← HQ.out, if_pos c1]
  have HP := Lib.hid hp; clear hp c1
  rw [HP.out]
  go_enter Try.func159, Try.ntmps159
  go_wp2_with (first
   | (go_at_call 163; refine (G.out _).mono ?_; rintro e w' ⟨rfl, rfl⟩)
   | (go_at_call 111; refine (I1.out _).mono ?_; rintro e w' ⟨rfl, rfl⟩)
   | (go_at_call 108; refine (P4.out _).mono ?_; rintro e w' ⟨rfl, rfl⟩)
   | (go_at_call_of 142 (Value.int .i64 l); refine (P1.out _).mono ?_; rintro e w' ⟨rfl, rfl⟩)
   | (go_at_call_of 142 (Value.int .i64 x); refine (P2.out _).mono ?_; rintro e w' ⟨rfl, rfl⟩))
  go_ret
  exact ⟨rfl, rfl⟩
 ·have t1 : (i == W) = false := by simp [c1]
  by_cases c2 : i = Q
  ·have t2 : (i == Q) = true := by simp [c2]
   have hp : putsL l x = [W * cnt x] := by rw [putsL, ← HI.out, ← HW.out, ← HQ.out, if_neg c1, if_pos c2]
   have HP := Lib.hid hp; clear hp c1 c2
   rw [HP.out]
   go_enter Try.func159, Try.ntmps159
   go_wp2_with (first
    | (go_at_call 163; refine (G.out _).mono ?_; rintro e w' ⟨rfl, rfl⟩)
    | (go_at_call 111; refine (I1.out _).mono ?_; rintro e w' ⟨rfl, rfl⟩)
    | (go_at_call 142; refine (P3.out _).mono ?_; rintro e w' ⟨rfl, rfl⟩))
   go_ret
   exact ⟨rfl, rfl⟩
  ·have t2 : (i == Q) = false := by simp [c2]
   have hp : putsL l x = [x] := by rw [putsL, ← HI.out, ← HW.out, ← HQ.out, if_neg c1, if_neg c2]
   have HP := Lib.hid hp; clear hp c1 c2
   rw [HP.out]
   go_enter Try.func159, Try.ntmps159
   go_wp2_with (first
    | (go_at_call 163; refine (G.out _).mono ?_; rintro e w' ⟨rfl, rfl⟩)
    | (go_at_call 111; refine (I1.out _).mono ?_; rintro e w' ⟨rfl, rfl⟩))
   go_ret
   exact ⟨rfl, rfl⟩

end Go.Proofs.Ytehcbamfendbaaa

/- The step of a letter: numbers that are produced out of numbers. -/
namespace Go.Proofs.Ytehcbamfendbaaa
open Go.RowKit Go.Shelf Go.ChangeShapes

attribute [local go_sem] Oper.semAt_some

theorem yield_in {l' m m' l : Nat} {P : Program} {args : Array Value} {W : World} {R : Ending → World → Prop} (h : YieldAt Fence.wide m P l args W R) : YieldAt (Fence.wide.inRound l') m' P l args W R := by
 obtain ⟨fn, tmps, assign, body, hy, hR⟩ := h
 exact ⟨fn, tmps, assign, body, hy, hR.1, fun c cs _ => hR.2 c cs (fun _ h => by simp [Fence.wide] at h)⟩

/-- Small numbers as such. -/
def liftS : (xs : List Int) → Small xs → List Sm
 | [], _ => []
 | x :: xs, h => ⟨x, h x List.mem_cons_self⟩ :: liftS xs (fun y hy => h y (List.mem_cons_of_mem _ hy))

theorem liftS_val : ∀ (xs : List Int) (h : Small xs), (liftS xs h).map (fun y : Sm => y.1) = xs
 | [], _ => rfl
 | x :: xs, _ => congrArg (x :: ·) (liftS_val xs _)

/-- What comes of a number. -/
def psS (l : Int) (h1 : -100 < l) (h2 : l < 100) (x : Sm) : List Sm := liftS (putsL l x.1) (putsL_small l x.1 h1 h2 x.2.1 x.2.2)

theorem psS_val (l : Int) (h1 : -100 < l) (h2 : l < 100) (x : Sm) : (psS l h1 h2 x).map (fun y : Sm => y.1) = putsL l x.1 := liftS_val _ _

theorem flat_val (l : Int) (h1 : -100 < l) (h2 : l < 100) (zs : List Sm) : (zs.flatMap (psS l h1 h2)).map (fun y : Sm => y.1) = actL l (zs.map (fun y : Sm => y.1)) := by
 induction zs with
 | nil => rfl
 | cons x zs ih =>
  rw [List.flatMap_cons, List.map_append, ih, psS_val]
  simp [actL]

theorem flat_len (l : Int) (h1 : -100 < l) (h2 : l < 100) (zs : List Sm) : (zs.flatMap (psS l h1 h2)).length ≤ 3 * zs.length := by
 have := actL_len l (zs.map (fun y : Sm => y.1))
 rw [List.length_map] at this
 rw [← List.length_map (f := fun y : Sm => y.1), flat_val]
 exact this

set_option maxRecDepth 100000 in
set_option maxHeartbeats 2000000 in
/-- The step of a letter produces, for each number that comes, what the letter puts for it. -/
theorem act_seq {n₀ gf : Nat} {lb : Array Value} {zs : List Sm} {w : World} (l : Int) (h1 : -100 < l) (h2 : l < 100) (hs : SeqI n₀ gf lb zs w) (bw bl : Nat) (hbw : bw < n₀) (hbl : bl < n₀) (hn : n₀ ≤ w.heap.size)
  (cw : w.cell? ⟨bw, 0, none⟩ = some (.func (.func gf) #[] lb)) (cl : w.cell? ⟨bl, 0, none⟩ = some (.int .i64 l)) (n : Nat) :
  SeqAt n 158 #[.pointer (some ⟨bw, 0, none⟩), .pointer (some ⟨bl, 0, none⟩)] (fun x : Sm => #[Value.int .i64 x.1]) n₀ (zs.flatMap (psS l h1 h2)) (3 * zs.length) w := by
 intro L J W hL hW hJ hY h0
 refine callsIn_wide.2 ((callsIn_wide (n := 9)).1 ?_)
 have kw : W.cell? ⟨bw, 0, none⟩ = some (.func (.func gf) #[] lb) := (hW.cell (p := ⟨bw, 0, none⟩) (by show bw < _; omega)).trans cw
 have kl : W.cell? ⟨bl, 0, none⟩ = some (.int .i64 l) := (hW.cell (p := ⟨bl, 0, none⟩) (by show bl < _; omega)).trans cl
 have hWs := hW.size
 have bY := Boxed.new W 108 (.func (.yield L) #[] #[])
 have hB0 : Below n₀ W (W.alloc (.cells #[.func (.yield L) #[] #[]] 108)) := (Below.refl n₀ W).alloc (by omega) _
 refine callsIn_of_wp_marks Try.func158 rfl trivial ?_ rfl
 simp only [Try.ntmps158, List.size_toArray, List.length_cons, List.length_nil, Nat.reduceAdd, Nat.reduceSub, Array.replicate_succ, Array.replicate_zero, List.push_toArray, List.append_toArray, List.nil_append, List.cons_append]
 have kw2 := (hB0.cell (p := ⟨bw, 0, none⟩) hbw).trans kw
 gi_wp2
 refine wpIn_rangeFunc_ownG (F := Fence.wide) rfl (by omega) (gf := gf) (lb := lb) rfl trivial hs.run (hs.stops _ (by omega)) belowK_t (belowK_b (by simp; omega)) (hW.trans (((Below.refl W.heap.size W).alloc (Nat.le_refl _) _).mono hWs)) (fun _ => rfl)
  (fun pre Wx => J (pre.flatMap (psS l h1 h2)) Wx ∧ Boxed Wx W.heap.size 108 (.func (.yield L) #[] #[]) ∧ Below n₀ W Wx)
  (fun _ _ _ => False)
  (OwnFrom.and (fun s A B row hs hg hr => hJ _ A B row hs hg (fun r e => ⟨by have := (hr r e).1; simp at this; omega, (hr r e).2⟩)) (OwnFrom.and (Own.from (boxed_own _ _ _) _) (ownFrom_below (by omega) (by simp; omega))))
  (fun _ _ _ _ _ h _ _ => h)
  ⟨hJ.alloc _ h0, bY, hB0⟩
  (fun x => { tmps := #[.func (.yield L) #[] #[], .pointer (some ⟨bw, 0, none⟩), .pointer (some ⟨bl, 0, none⟩), .pointer (some ⟨W.heap.size, 0, none⟩), .int .i64 x.1, undef, undef, .func (.func gf) #[] lb, .int .i64 x.1, undef, undef, undef, undef, undef, undef, undef, undef, undef, undef, undef, undef, undef], defers := [] }) ?assign ?body ?done ?stop
 case assign =>
  intro l x W K hK
  gi_wp2
  exact hK
 case body =>
  rintro l' pre x Wx ⟨hj, hy, hb⟩ hlt
  have kl3 := (hb.cell (p := ⟨bl, 0, none⟩) hbl).trans kl
  have hwx : n₀ ≤ Wx.heap.size := by have := hb.size; omega
  gi_wp2_with fail
  refine ⟨trivial, ?_⟩
  gi_at_call 159
  refine (CallsIn.inRound l' (callsIn_wide.2 (puts_any l x.1 _ h1 h2 x.2.1 x.2.2))).mono ?_
  rintro e W2 ⟨rfl, hW2⟩
  have hg : W2.heap[Wx.heap.size]? = some (.cells ((putsL l x.1).map (Value.int .i64)).toArray 102 (0, 0)) := by rw [hW2]; exact World.alloc_heap_new Wx _
  have hj2 : J (pre.flatMap (psS l h1 h2)) W2 := by rw [hW2]; exact hJ.alloc _ hj
  have hy2 : Boxed W2 W.heap.size 108 (.func (.yield L) #[] #[]) := by rw [hW2]; exact hy.alloc _
  have hb2 : Below n₀ W W2 := by rw [hW2]; exact hb.alloc hwx _
  have hk2 : KeepsFrom (W.alloc (.cells #[.func (.yield L) #[] #[]] 108)).heap.size Wx W2 := by rw [hW2]; exact (KeepsOthers.alloc _ _).from _
  have hb3 : Below n₀ Wx W2 := by rw [hW2]; exact (Below.refl n₀ Wx).alloc hwx _
  clear hW2 hj hy hb kl3
  obtain ⟨zl, hzl⟩ : ∃ zl, zl = psS l h1 h2 x := ⟨_, rfl⟩
  have hzv := psS_val l h1 h2 x
  rw [← hzl] at hzv
  obtain ⟨m, hm⟩ : ∃ m, m = (putsL l x.1).length := ⟨_, rfl⟩
  have hzm : zl.length = m := by rw [hm, ← hzv, List.length_map]
  have hm3 : m ≤ 3 := by rw [hm]; exact (putsL_len l x.1).1
  rw [← hzv] at hg
  rw [← hm]
  have HM := Lib.hid hm; have HZV := Lib.hid hzv; have HZL := Lib.hid hzl; clear hm hzv hzl
  gi_wp2
  gi_loopw [13] (fun i wr => ∃ k : Nat, k ≤ m ∧ i = .int .i64 k ∧ J (pre.flatMap (psS l h1 h2) ++ zl.take k) wr ∧ KeepY n₀ L W2 wr) (fun i _ => m - (intOf i).toNat)
  case atStart => exact ⟨0, Nat.zero_le _, rfl, by simpa using hj2, KeepY.refl _ _ _⟩
  case round =>
   obtain ⟨k, hk, rfl, hJs, hky⟩ := hrel
   by_cases hlt2 : k < m
   ·have hkz : k < zl.length := by omega
    have hgr := hky.cells.cells _ _ _ _ (by decide) (by decide) hg
    have hyr := (hky.cells.boxed (by decide) (by decide) hy2).cell
    have hc1 : wr.cell? ⟨Wx.heap.size, k, none⟩ = some (.int .i64 zl[k].1) := by
     simp [World.cell?, hgr, hkz]
    have hfl := flat_len l h1 h2 pre
    obtain ⟨fn, tmps, assign, body, hyy, hR⟩ := yield_in (l' := l') (m' := 9 - 1 - 1 - 1) (hY _ zl[k] wr hJs (by rw [List.length_append, List.length_take]; omega))
    have k0 : 0 ≤ (k : Int) := by omega
    have k1 : (k : Int) < (m : Int) := by omega
    gi_wp2
    refine hR.mono ?_
    rintro e W3 ⟨rfl, hJ3, hk3⟩
    gi_wp2
    go_roundw
    case rel => exact ⟨k + 1, by omega, by simp, by rw [List.take_succ_eq_append_getElem hkz, ← List.append_assoc]; exact hJ3, hky.trans hk3⟩
    case measure => simp [intOf] <;> omega
   ·obtain rfl : k = m := by omega
    gi_wp2
    rw [List.take_of_length_le (by omega), HZL.out] at hJs
    refine ⟨hk2.trans ⟨(hky.cells.below).size, fun i o hB hi ho => hky.others i o (fun e => by subst e; simp at hB; omega) hi ho⟩, hb3.trans hky.cells.below, ?_, hky.cells.boxed (by decide) (by decide) hy2, hb2.trans hky.cells.below⟩
    rw [List.flatMap_append, List.flatMap_singleton]
    exact hJs
 case done =>
  rintro D ys V hD rfl ⟨hj, hy, hb⟩ hK
  gi_wp2
  refine ⟨by simp, .inl ⟨_, _, rfl, run_takeDeferred hK, ?_⟩⟩
  refine ⟨_, results_none rfl _ _ _, ⟨_, rfl⟩, ?_⟩
  exact hJ.putObj _ hj (by simp at hD; omega) hK rfl
 case stop =>
  rintro D c pre W _ _ h _
  exact h.elim

end Go.Proofs.Ytehcbamfendbaaa
