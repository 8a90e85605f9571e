/- slices.Backward over letters. -/
import Derived.RangeFuncNested
import Derived.RangeFuncBound
import Derived.RangeFuncCalls
import Derived.RangeFuncLeaves
import Derived.RangeFuncBox
import Derived.Shelf.Abstract
import Derived.Shelf.RegionOpen
import Derived.OwnWalkIn
import Derived.TacticsInMore
import Derived.LoopNIn
import Derived.LoopIn
import Derived.Test.YteffndmifogicaaNfSTim
namespace Go.Proofs.Yteffndmifogicaa
open Go.RowKit Go.Shelf Go.ChangeShapes

attribute [local go_sem] Oper.semAt_some

/-- Two blocks lie as they lay. -/
def Keeps2 (b c : Nat) (W W' : World) : Prop := W'.heap[b]? = W.heap[b]? ∧ W'.heap[c]? = W.heap[c]?

theorem Keeps2.trans {b c : Nat} {A B C : World} (h : Keeps2 b c A B) (k : Keeps2 b c B C) : Keeps2 b c A C := ⟨k.1.trans h.1, k.2.trans h.2⟩

theorem keeps2_b {b c : Nat} {w : World} (hb : b < w.heap.size) (hc : c < w.heap.size) (W : World) (l : Nat) (o o' : Obj) (hl : w.heap.size ≤ l) (h : W.heap[l]? = some o) (h1 : o.isCells = false) (h2 : o.isWalk = false) : Keeps2 b c W (W.putObj l o') := by
 have h := belowK_b (Nat.le_refl _) W l o o' hl h h1 h2
 exact ⟨h.block b hb, h.block c hc⟩

set_option maxRecDepth 100000 in
set_option maxHeartbeats 2000000 in
/-- The closure of slices.Backward, over a slice that is not empty. -/
theorem back1_in {α : Type} (fi : α → Nat) (fx : α → Int) (F : Fence) (n : Nat) (h8 : F.fn 107) (hro : F.round = none) (hn : 1 ≤ n) (l Bs b off len cap : Nat) (zs : List α) (hz : zs.length = len) (hlen : len ≤ 1000) (hi : ∀ k (h : k < zs.length), fi zs[k] = len - 1 - k) (J Jx : List α → World → Prop)
  (hY : ∀ pre x W, J pre W → pre.length < len → YieldAt F (n - 1) Try.prog l #[.int .i64 (fi x : Int), .int .i64 (fx x)] W fun e W' =>
   (e = .returned (.bool true) ∧ J (pre ++ [x]) W' ∧ Keeps2 b Bs W W') ∨ (e = .returned (.bool false) ∧ Jx (pre ++ [x]) W'))
  (W : World) (hBs : W.cell? ⟨Bs, 0, none⟩ = some (.slice (some ⟨b, off, none⟩) len cap)) (hc : ∀ k (h : k < zs.length), W.cell? ⟨b, off + (len - 1 - k), none⟩ = some (.int .i64 (fx zs[k]))) (h0 : J [] W) :
  CallsIn F n Try.prog 107 #[.func (.yield l) #[] #[], .pointer (some ⟨Bs, 0, none⟩)] W fun e W' => (∃ v, e = .returned v) ∧
   ((∃ ys, ys = zs ∧ J ys W') ∨ (∃ pre, pre <+: zs ∧ Jx pre W')) := by
 refine callsIn_of_wp Try.func107 rfl h8 ?_ hro
 simp only [Try.ntmps107, List.size_toArray, List.length_cons, List.length_nil, Nat.reduceAdd, Nat.reduceSub, Array.replicate_succ, Array.replicate_zero, List.push_toArray, List.append_toArray, List.nil_append, List.cons_append]
 have hw1 : IntKind.i64.wrap ((len : Int) - 1) = (len : Int) - 1 := IntWalk.i64_in _ (by omega)
 gi_wp2
 gi_loopw [3] (fun i wr => ∃ k : Nat, k ≤ len ∧ i = .int .i64 ((len : Int) - 1 - k) ∧ J (zs.take k) wr ∧ wr.heap[b]? = W.heap[b]? ∧ wr.heap[Bs]? = W.heap[Bs]?)
  (fun i _ => (intOf i + 1).toNat)
 case atStart => exact ⟨0, Nat.zero_le _, by simp, by simpa using h0, rfl, rfl⟩
 case round =>
  obtain ⟨k, hk, rfl, hJs, hnb, hns⟩ := hrel
  have hbs : wr.cell? ⟨Bs, 0, none⟩ = some (.slice (some ⟨b, off, none⟩) len cap) := (World.cell?_of_block (a := ⟨Bs, 0, none⟩) hns).trans hBs
  by_cases hlt : k < len
  ·have hlz : k < zs.length := by omega
   obtain ⟨q, hq⟩ : ∃ q : Nat, (len : Int) - 1 - k = (q : Int) ∧ q = len - 1 - k := ⟨len - 1 - k, by omega, rfl⟩
   have hcx : wr.cell? ⟨b, off + q, none⟩ = some (.int .i64 (fx zs[k])) := by rw [hq.2]; exact (World.cell?_of_block (a := ⟨b, off + (len - 1 - k), none⟩) hnb).trans (hc k hlz)
   obtain ⟨fn, tmps, assign, body, hy, hR⟩ := hY _ zs[k] wr hJs (by rw [List.length_take]; omega)
   rw [hi k hlz, ← hq.2] at hy
   rw [hq.1]
   have hql : (q : Int) < (len : Int) := by omega
   have hq0 : (0 : Int) ≤ (q : Int) := by omega
   clear hi hc
   have HQ := Lib.hid hq
   clear hq
   gi_wp2
   refine hR.mono ?_
   rintro e W3 (⟨rfl, hJ3, hk3⟩ | ⟨rfl, hJx3⟩)
   ·have hq := HQ.out
    have hw2 : IntKind.i64.wrap ((q : Int) - 1) = (q : Int) - 1 := IntWalk.i64_in _ (by omega)
    clear hq
    gi_wp2
    go_roundw
    case rel => have hq := HQ.out; exact ⟨k + 1, by omega, by rw [show ((len : Int) - 1 - ((k + 1 : Nat) : Int)) = (q : Int) - 1 by omega], by rw [List.take_succ_eq_append_getElem hlz]; exact hJ3, hk3.1.trans hnb, hk3.2.trans hns⟩
    case measure => simp [intOf] <;> omega
   ·gi_wp2
    refine bodyPost_ret (results_none rfl _ _ _) rfl ?_
    exact ⟨⟨_, rfl⟩, .inr ⟨_, by rw [← List.take_succ_eq_append_getElem hlz]; exact List.take_prefix _ _, hJx3⟩⟩
  ·obtain rfl : k = len := by omega
   have hneg : ¬ (0 : Int) ≤ (k : Int) - 1 - k := by omega
   gi_wp2
   go_end0
   rw [List.take_of_length_le (by omega)] at hJs
   exact ⟨⟨_, rfl⟩, .inl hJs⟩

set_option maxRecDepth 100000 in
set_option maxHeartbeats 1000000 in
/-- The same over no letters. -/
theorem back1_nil_in {α : Type} (F : Fence) (n : Nat) (h8 : F.fn 107) (hro : F.round = none) (l Bs : Nat) (a : Option Addr) (cap : Nat) (J : List α → World → Prop) (W : World) (hBs : W.cell? ⟨Bs, 0, none⟩ = some (.slice a 0 cap)) (h0 : J [] W) :
  CallsIn F n Try.prog 107 #[.func (.yield l) #[] #[], .pointer (some ⟨Bs, 0, none⟩)] W fun e W' => (∃ v, e = .returned v) ∧ J [] W' := by
 refine callsIn_of_wp Try.func107 rfl h8 ?_ hro
 simp only [Try.ntmps107, List.size_toArray, List.length_cons, List.length_nil, Nat.reduceAdd, Nat.reduceSub, Array.replicate_succ, Array.replicate_zero, List.push_toArray, List.append_toArray, List.nil_append, List.cons_append]
 gi_wp2
 gi_loopw [3] (fun i wr => i = .int .i64 (-1) ∧ J [] wr) (fun _ _ => 0)
 case atStart => exact ⟨rfl, h0⟩
 case round =>
  obtain ⟨rfl, hJs⟩ := hrel
  gi_wp2
  go_end0
  exact ⟨⟨_, rfl⟩, hJs⟩

set_option maxHeartbeats 1000000 in
/-- slices.Backward: the slice is boxed; the function value captures the box. -/
theorem back_in (F : Fence) (n : Nat) (h6 : F.fn 73) (hro : F.round = none) (a : Option Addr) (len cap : Nat) (w : World) :
  CallsIn F n Try.prog 73 #[.slice a len cap] w fun e w' => e = .returned (.func (.func 107) #[] #[.pointer (some ⟨w.heap.size, 0, none⟩)]) ∧ w' = w.alloc (.cells #[.slice a len cap] 35) := by
 refine callsIn_of_wp Try.func73 rfl h6 ?_ hro
 simp only [Try.ntmps73, List.size_toArray, List.length_cons, List.length_nil, Nat.reduceAdd, Nat.reduceSub, Array.replicate_succ, Array.replicate_zero, List.push_toArray, List.append_toArray, List.nil_append, List.cons_append]
 gi_wp2
 go_ret
 exact ⟨rfl, rfl⟩

/-- slices.Backward stops: from the last letter to the first. -/
theorem back_stops {α : Type} (fi : α → Nat) (fx : α → Int) (F : Fence) (n : Nat) (h8 : F.fn 107) (hro : F.round = none) (hn : 1 ≤ n) (Bs b off len cap : Nat) (a : Option Addr) (ha : len = 0 ∨ a = some ⟨b, off, none⟩) (zs : List α) (hz : zs.length = len) (hlen : len ≤ 1000) (hi : ∀ k (h : k < zs.length), fi zs[k] = len - 1 - k) (w : World) (hBl : Bs < w.heap.size) (hbl : len = 0 ∨ b < w.heap.size)
  (hBs : w.cell? ⟨Bs, 0, none⟩ = some (.slice a len cap)) (hc : ∀ k (h : k < zs.length), w.cell? ⟨b, off + (len - 1 - k), none⟩ = some (.int .i64 (fx zs[k]))) :
  SeqStopsK F n Try.prog 107 #[.pointer (some ⟨Bs, 0, none⟩)] (fun x : α => #[Value.int .i64 (fi x : Int), Value.int .i64 (fx x)]) (Keeps2 b Bs) (fun ys => ys = zs) (fun pre => pre <+: zs) len w := fun l J Jx W hW _ _ hY h0 => by
 have hc' := (hW.cell (p := ⟨Bs, 0, none⟩) hBl).trans hBs
 by_cases h : len = 0
 ·subst h
  have hz0 : zs = [] := List.eq_nil_of_length_eq_zero hz
  exact (back1_nil_in F n h8 hro l Bs a cap J W hc' h0).mono fun e W' ⟨he, hj⟩ => ⟨he, .inl ⟨_, rfl, by rw [hz0]; exact hj⟩⟩
 ·obtain rfl : a = some ⟨b, off, none⟩ := ha.resolve_left h
  have hbl' : b < w.heap.size := by omega
  exact back1_in fi fx F n h8 hro hn l Bs b off len cap zs hz hlen hi J Jx hY W hc' (fun k hk => (hW.cell (p := ⟨b, off + (len - 1 - k), none⟩) hbl').trans (hc k hk)) h0

end Go.Proofs.Yteffndmifogicaa

