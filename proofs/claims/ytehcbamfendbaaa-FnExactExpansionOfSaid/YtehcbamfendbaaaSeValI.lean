/- Numbers that are produced: slices.Values. -/
import Derived.RangeFuncNested
import Derived.RangeFuncBound
import Derived.RangeFuncCalls
import Derived.RangeFuncLeaves
import Derived.RangeFuncBox
import Derived.Shelf.Abstract
import Derived.Shelf.RegionOpen
import Derived.OwnWalkIn
import Derived.TacticsInMore
import Derived.LoopNIn
import Derived.LoopIn
import Derived.Maps.AppendAt
import Derived.Test.YtehcbamfendbaaaSeFreP
namespace Go.Proofs.Ytehcbamfendbaaa
open Go.RowKit Go.Shelf Go.ChangeShapes

attribute [local go_sem] Oper.semAt_some

/-- A number without wraps. -/
abbrev Sm := { x : Int // -1000 < x ∧ x < 1000 }

theorem sm_of (xs : List Int) (h : Small xs) : ∃ zs : List Sm, zs.map (·.1) = xs := by
 induction xs with
 | nil => exact ⟨[], rfl⟩
 | cons x xs ih =>
  obtain ⟨zs, hz⟩ := ih (fun y hy => h y (List.mem_cons_of_mem _ hy))
  exact ⟨⟨x, h x List.mem_cons_self⟩ :: zs, by simp [hz]⟩

/-- The function value produces the numbers zs, whatever is done that leaves what lies below n₀. -/
structure SeqI (n₀ gf : Nat) (lb : Array Value) (zs : List Sm) (w : World) : Prop where
 run : ∀ args w, (callFunc gf args).run Try.prog w = .ok (.enter gf args) w
 stops : ∀ n, 1 ≤ n → SeqStopsK Fence.wide n Try.prog gf lb (fun x : Sm => #[Value.int .i64 x.1]) (Below n₀) (fun ys => ys = zs) (fun pre => pre <+: zs) zs.length w

theorem SeqI.below {n₀ gf : Nat} {lb : Array Value} {zs : List Sm} {w w' : World} (h : SeqI n₀ gf lb zs w) (k : Below w.heap.size w w') : SeqI n₀ gf lb zs w' :=
 ⟨h.run, fun n hn l J Jx W hW hJ hJx hY h0 => h.stops n hn l J Jx W (k.trans (hW.mono k.size)) hJ hJx hY h0⟩

set_option maxRecDepth 100000 in
set_option maxHeartbeats 2000000 in
/-- The closure of slices.Values, over a slice that is not empty. -/
theorem val1_in (n : Nat) (hn : 1 ≤ n) (l Bs n₀ b off len cap : Nat) (zs : List Sm) (hz : zs.length = len) (hlen : len ≤ 1048576) (hbn : b < n₀) (J Jx : List Sm → World → Prop)
  (hY : ∀ pre x W, J pre W → pre.length < len → YieldAt Fence.wide (n - 1) Try.prog l #[.int .i64 x.1] W fun e W' =>
   (e = .returned (.bool true) ∧ J (pre ++ [x]) W' ∧ Below n₀ W W') ∨ (e = .returned (.bool false) ∧ Jx (pre ++ [x]) W'))
  (W : World) (hBs : W.cell? ⟨Bs, 0, none⟩ = some (.slice (some ⟨b, off, none⟩) len cap)) (hc : ∀ k (h : k < zs.length), W.cell? ⟨b, off + k, none⟩ = some (.int .i64 zs[k].1)) (h0 : J [] W) :
  CallsIn Fence.wide n Try.prog 161 #[.func (.yield l) #[] #[], .pointer (some ⟨Bs, 0, none⟩)] W fun e W' => (∃ v, e = .returned v) ∧
   ((∃ ys, ys = zs ∧ J ys W') ∨ (∃ pre, pre <+: zs ∧ Jx pre W')) := by
 refine callsIn_of_wp Try.func161 rfl trivial ?_ rfl
 simp only [Try.ntmps161, List.size_toArray, List.length_cons, List.length_nil, Nat.reduceAdd, Nat.reduceSub, Array.replicate_succ, Array.replicate_zero, List.push_toArray, List.append_toArray, List.nil_append, List.cons_append]
 gi_wp2
 gi_loopw [7] (fun i wr => ∃ k : Nat, k ≤ len ∧ i = .int .i64 k ∧ J (zs.take k) wr ∧ Below n₀ W wr)
  (fun i _ => len - (intOf i).toNat)
 case atStart => exact ⟨0, Nat.zero_le _, rfl, by simpa using h0, Below.refl _ _⟩
 case round =>
  obtain ⟨k, hk, rfl, hJs, hnb⟩ := hrel
  by_cases hlt : k < len
  ·have hlz : k < zs.length := by omega
   have hcx : wr.cell? ⟨b, off + k, none⟩ = some (.int .i64 zs[k].1) := (hnb.cell (p := ⟨b, off + k, none⟩) hbn).trans (hc k hlz)
   obtain ⟨fn, tmps, assign, body, hy, hR⟩ := hY _ zs[k] wr hJs (by rw [List.length_take]; omega)
   gi_wp2
   refine hR.mono ?_
   rintro e W3 (⟨rfl, hJ3, hk3⟩ | ⟨rfl, hJx3⟩)
   ·gi_wp2
    go_roundw
    case rel => exact ⟨k + 1, by omega, by simp, by rw [List.take_succ_eq_append_getElem hlz]; exact hJ3, hnb.trans hk3⟩
    case measure => simp [intOf] <;> omega
   ·gi_wp2
    refine bodyPost_ret (results_none rfl _ _ _) rfl ?_
    exact ⟨⟨_, rfl⟩, .inr ⟨_, by rw [← List.take_succ_eq_append_getElem hlz]; exact List.take_prefix _ _, hJx3⟩⟩
  ·obtain rfl : k = len := by omega
   gi_wp2
   go_end0
   rw [List.take_of_length_le (by omega)] at hJs
   exact ⟨⟨_, rfl⟩, .inl ⟨zs, rfl, hJs⟩⟩

set_option maxRecDepth 100000 in
set_option maxHeartbeats 1000000 in
/-- The same over no numbers. -/
theorem val1_nil_in (n : Nat) (l Bs : Nat) (a : Option Addr) (cap : Nat) (J : List Sm → World → Prop) (W : World) (hBs : W.cell? ⟨Bs, 0, none⟩ = some (.slice a 0 cap)) (h0 : J [] W) :
  CallsIn Fence.wide n Try.prog 161 #[.func (.yield l) #[] #[], .pointer (some ⟨Bs, 0, none⟩)] W fun e W' => (∃ v, e = .returned v) ∧ J [] W' := by
 refine callsIn_of_wp Try.func161 rfl trivial ?_ rfl
 simp only [Try.ntmps161, List.size_toArray, List.length_cons, List.length_nil, Nat.reduceAdd, Nat.reduceSub, Array.replicate_succ, Array.replicate_zero, List.push_toArray, List.append_toArray, List.nil_append, List.cons_append]
 gi_wp2
 gi_loopw [7] (fun i wr => i = .int .i64 0 ∧ J [] wr) (fun _ _ => 0)
 case atStart => exact ⟨rfl, h0⟩
 case round =>
  obtain ⟨rfl, hJs⟩ := hrel
  gi_wp2
  go_end0
  exact ⟨⟨_, rfl⟩, hJs⟩

set_option maxHeartbeats 1000000 in
/-- slices.Values: the slice is boxed; the function value captures the box. -/
theorem values_any (a : Option Addr) (len cap : Nat) (w : World) :
  Calls Try.prog 154 #[.slice a len cap] w fun e w' => e = .returned (.func (.func 161) #[] #[.pointer (some ⟨w.heap.size, 0, none⟩)]) ∧ w' = w.alloc (.cells #[.slice a len cap] 22) := by
 go_enter Try.func154, Try.ntmps154
 go_wp2
 go_ret
 exact ⟨rfl, rfl⟩

/-- slices.Values produces the numbers of its slice. -/
theorem values_seq (n₀ : Nat) (a : Option Addr) (len cap : Nat) (xs : List Int) (zs : List Sm) (w : World) (hr : Reads w a len xs) (hz : zs.map (·.1) = xs) (hlen : len ≤ 1048576) (hn : w.heap.size < n₀) :
  SeqI n₀ 161 #[.pointer (some ⟨w.heap.size, 0, none⟩)] zs (w.alloc (.cells #[.slice a len cap] 22)) := by
 refine ⟨enters_of Try.func161 (by kernel_rfl) rfl, fun n hn1 l J Jx W hW _ _ hY h0 => ?_⟩
 have hBs : W.cell? ⟨w.heap.size, 0, none⟩ = some (.slice a len cap) := (hW.cell (p := ⟨w.heap.size, 0, none⟩) (by simp)).trans (by have := (Boxed.new w 22 (.slice a len cap)).cell; exact this)
 have hl : zs.length = len := by rw [← hr.len, ← hz, List.length_map]
 rcases Nat.eq_zero_or_pos len with h | h
 ·subst h
  have hz0 : zs = [] := List.eq_nil_of_length_eq_zero hl
  exact (val1_nil_in n l _ a cap J W hBs h0).mono fun e W' ⟨he, hj⟩ => ⟨he, .inl ⟨_, rfl, by rw [hz0]; exact hj⟩⟩
 ·obtain ⟨b, off, rfl, hb, hc⟩ := hr.cells h
  refine val1_in n hn1 l _ n₀ b off len cap zs hl hlen (by omega) J Jx (by rw [hl] at hY; exact hY) W hBs (fun k hk => ?_) h0
  have hk' : k < len := by omega
  rw [hW.cell (p := ⟨b, off + k, none⟩) (by simp; omega)]
  have := (Below.alloc (Below.refl w.heap.size w) (Nat.le_refl _) (.cells #[.slice (some ⟨b, off, none⟩) len cap] 22)).cell (p := ⟨b, off + k, none⟩) hb
  rw [this, hc k hk', ← hz]
  simp [List.getD, hk]

end Go.Proofs.Ytehcbamfendbaaa

