/- Numbers that are produced by functions over functions: an iterator that ranges over another one turns the loops' records that it lays itself; so what a caller says must hold whatever becomes of objects, other than cells, that are laid since: the law of a range for such iterators, where no round leaves the loop. -/
import Derived.Test.YtehcbamfendbaaaSeValI
namespace Go.Proofs.Ytehcbamfendbaaa
open Go.RowKit Go.Shelf Go.ChangeShapes

/-- A round of a loop over numbers: what lies below n₀ stays, and so do all cells that are neither numbers nor a slice of numbers. -/
structure KeepT (n₀ : Nat) (W W' : World) : Prop where
 below : Below n₀ W W'
 cells : ∀ (k : Nat) cs t fr, t ≠ 2 → t ≠ 22 → W.heap[k]? = some (Obj.cells cs t fr) → W'.heap[k]? = some (Obj.cells cs t fr)

theorem KeepT.refl (n₀ : Nat) (W : World) : KeepT n₀ W W := ⟨Below.refl _ _, fun _ _ _ _ _ _ h => h⟩
theorem KeepT.trans {n₀ : Nat} {A B C : World} (h : KeepT n₀ A B) (k : KeepT n₀ B C) : KeepT n₀ A C := ⟨h.below.trans k.below, fun i cs t fr h1 h2 hk => k.cells i cs t fr h1 h2 (h.cells i cs t fr h1 h2 hk)⟩
theorem KeepT.putObj {n₀ : Nat} {W : World} {l : Nat} {o : Obj} (o' : Obj) (hl : W.heap[l]? = some o) (ho : o.isCells = false) (hn : n₀ ≤ l) : KeepT n₀ W (W.putObj l o') :=
 ⟨(Below.refl n₀ W).grown (grownBy_putObj' W l o') (by have := (Array.getElem?_eq_some_iff.1 hl).1; omega) (fun k e => by cases e; omega), fun k cs t fr _ _ hk => by
  refine (World.putObj_heap_other (fun e => ?_)).trans hk
  subst e
  rw [hk] at hl
  cases hl
  cases ho⟩
theorem KeepT.boxed {n₀ : Nat} {W W' : World} (h : KeepT n₀ W W') {B : Nat} {t : TypeId} {v : Value} (h1 : t ≠ 2) (h2 : t ≠ 22) (hb : Boxed W B t v) : Boxed W' B t v := h.cells _ _ _ _ h1 h2 hb

/-- A slice of numbers in a box of its own gets another value. -/
theorem KeepT.set {n₀ : Nat} {W : World} {B : Nat} {u : Value} (hb : Boxed W B 22 u) (hn : n₀ ≤ B) (v : Value) : KeepT n₀ W (W.setCell ⟨B, 0, none⟩ v) :=
 ⟨(Below.refl n₀ W).setCell (p := ⟨B, 0, none⟩) hn _, fun k cs t fr _ h2 hk => by
  refine (Below.heap_setCell W ⟨B, 0, none⟩ v k (fun e => ?_)).trans hk
  have hb' : W.heap[k]? = some (.cells #[u] 22 (0, 0)) := by rw [e]; exact hb
  rw [hb'] at hk
  cases hk
  exact h2 rfl⟩

/-- Numbers are appended to a slice of numbers of one's own. -/
theorem KeepT.grow {n₀ : Nat} {W w1 : World} {tmp : Obj} {v : Value} {n : Nat} {xs : List Value} (hs : n₀ ≤ W.heap.size) (hr : W.ownsRow n₀ 2 1 v n xs) (hg : (W.alloc tmp).grownBy w1 v.ownBlock) : KeepT n₀ W w1 := by
 refine ⟨((Below.refl n₀ W).alloc hs tmp).grown hg (by simp; omega) fun j ej => ?_, fun k cs t fr h1 _ hk => ?_⟩
 ·rcases hr.2 with ⟨rfl, _⟩ | ⟨g, cap, cur, rfl, hb, _, _⟩
  ·simp [Value.ownBlock] at ej
  ·obtain rfl : g = j := by simpa [Value.ownBlock] using ej
   exact hb
 ·have lt := (Array.getElem?_eq_some_iff.1 hk).1
  refine (hg.block k (by simp; omega) fun e => ?_).trans ((Below.heap_alloc W tmp k lt).trans hk)
  rcases hr.2 with ⟨rfl, _⟩ | ⟨g, cap, cur, rfl, _, hgb, _⟩
  ·simp [Value.ownBlock] at e
  ·obtain rfl : k = g := by simpa [Value.ownBlock] using e
   rw [hk] at hgb
   cases hgb
   exact h1 rfl

/-- A round as the iterator sees it: but for the loop's own record, no object other than cells turns. -/
structure KeepY (n₀ L : Nat) (W W' : World) : Prop where
 cells : KeepT n₀ W W'
 others : ∀ (k : Nat) (o : Obj), k ≠ L → W.heap[k]? = some o → o.isCells = false → W'.heap[k]? = some o

theorem KeepY.refl (n₀ L : Nat) (W : World) : KeepY n₀ L W W := ⟨KeepT.refl _ _, fun _ _ _ h _ => h⟩
theorem KeepY.trans {n₀ L : Nat} {A B C : World} (h : KeepY n₀ L A B) (k : KeepY n₀ L B C) : KeepY n₀ L A C := ⟨h.cells.trans k.cells, fun i o hi ho hc => k.others i o hi (h.others i o hi ho hc) hc⟩

/-- What a range asks of the function value, where no round leaves the loop: the numbers zs come, in order. -/
def SeqAt {α : Type} (n : Nat) (gf : Nat) (lb : Array Value) (encs : α → Array Value) (n₀ : Nat) (zs : List α) (N : Nat) (w : World) : Prop :=
 ∀ (l : Nat) (J : List α → World → Prop) (W : World), l < W.heap.size → Below w.heap.size w W → OwnFrom W.heap.size J →
  (∀ pre x W1, J pre W1 → pre.length < N → YieldAt Fence.wide (n - 1) Try.prog l (encs x) W1 fun e W' => e = .returned (.bool true) ∧ J (pre ++ [x]) W' ∧ KeepY n₀ l W1 W') →
  J [] W → CallsIn Fence.wide n Try.prog gf (#[.func (.yield l) #[] #[]] ++ lb) W fun e W' => (∃ v, e = .returned v) ∧ J zs W'

theorem abides_of {β : Type} {B : Nat} {J : β → World → Prop} (h : OwnFrom B J) : AbidesFrom B J :=
 fun s W W' row hs hg hr => h s W W' row hs hg (fun r e => by obtain ⟨h1, o, ho, hw⟩ := hr r e; exact ⟨h1, o, ho, Obj.not_cells_of_walk hw⟩)

theorem SeqI.at {n₀ gf : Nat} {lb : Array Value} {zs : List Sm} {w : World} (h : SeqI n₀ gf lb zs w) (n : Nat) (hn : 1 ≤ n) : SeqAt n gf lb (fun x : Sm => #[Value.int .i64 x.1]) n₀ zs zs.length w :=
 fun l J W _ hW hJ hY h0 => (h.stops n hn l J (fun _ _ => False) W hW (abides_of hJ) (fun _ _ _ _ hf _ _ => hf) (fun pre x W1 hj hl => (hY pre x W1 hj hl).mono fun _ _ ⟨h1, h2, h3⟩ => .inl ⟨h1, h2, h3.cells.below⟩) h0).mono
  fun _ _ ⟨hv, hc⟩ => ⟨hv, hc.elim (fun ⟨ys, hy, hj⟩ => by subst hy; exact hj) (fun ⟨_, _, hf⟩ => hf.elim)⟩

theorem heap_kept {W W' : World} {row : Option Nat} {k B : Nat} {o : Obj} (hg : W.grownBy W' row) (hr : ∀ r, row = some r → B ≤ r) (hk : W.heap[k]? = some o) (hB : k < B) : W'.heap[k]? = some o :=
 (hg.block k (Array.getElem?_eq_some_iff.1 hk).1 (fun e => by have := hr k e.symm; omega)).trans hk

/-- A round goes on. -/
def goesOn {α : Type} (n₀ : Nat) (I : List α → World → Prop) (xs : List α) (W : World) : Exit → Act → World → Prop
 | .normal, _, W' => KeepsOthers W W' ∧ KeepT n₀ W W' ∧ I xs W'
 | .ret, _, _ => False
 | .exit _, _, _ => False
 | .goto _, _, _ => False
 | .panic _, _, _ => False
 | .outgrown, _, _ => False

set_option maxHeartbeats 1000000 in
/-- A range over a function value, no round of which leaves the loop. -/
theorem range_all {α : Type} {n : Nat} {g : Operand} {ps : Array Tmp} {assign body : Code} {Q : Exit → Act → World → Prop} {a : Act} {w : World} {gf : Nat} {lb : Array Value}
  (hg : a.eval g = .func (.func gf) #[] lb) (eg : ∀ args W, (callFunc gf args).run Try.prog W = .ok (.enter gf args) W)
  {encs : α → Array Value} {n₀ N : Nat} {zs : List α} (hseq : SeqAt (n - 1) gf lb encs n₀ zs N w) (hn₀ : n₀ ≤ w.heap.size) (hps : ∀ x, (encs x).size = ps.size)
  (I : List α → World → Prop) (hI : OwnFrom w.heap.size I) (h0 : I [] w) (a₁ : α → Act)
  (hassign : ∀ (l : Nat) (x : α) (W : World) (K : Act → World → Prop), K (a₁ x) W →
   assign.wpIn (Fence.wide.inRound l) (n - 1 - 1) Try.prog (Exit.then K (fun _ _ _ => False)) { tmps := (ps.zip (encs x)).foldl (fun t (p, v) => t.setIfInBounds p v) a.tmps, defers := [] } W)
  (hbody : ∀ (l : Nat) (pre : List α) (x : α) (W : World), I pre W → pre.length < N →
   body.wpIn (Fence.wide.inRound l) (n - 1 - 1) Try.prog (goesOn n₀ I (pre ++ [x]) W) (a₁ x) W)
  (hdone : ∀ (D : Nat) (W : World), w.heap.size ≤ D → I zs W → W.heap[D]? = some (.deferred (some [])) → Q .normal { a with defers := { target := .collected D, args := #[] } :: a.defers } W) :
  (Code.rangeFunc g ps assign body).wpIn Fence.wide n Try.prog Q a w := by
 refine wpIn_rangeFunc fun fn hfn => ?_
 -- the loop's record, as it is at each time
 let R : LoopState → Option Code → Loop := fun st pe => { state := st, pending := pe, fn, tmps := a.tmps, params := ps, assign, body, defers := w.heap.size }
 let L := w.heap.size + 1
 let W1 := (w.alloc (.deferred (some []))).alloc (.loop (R .ready none))
 have s1 : W1.heap.size = w.heap.size + 1 + 1 := by simp [W1]
 have hL : W1.heap[L]? = some (.loop (R .ready none)) := by
  have := World.alloc_heap_new (w.alloc (.deferred (some []))) (.loop (R .ready none)); rwa [World.size_alloc] at this
 have hD : W1.heap[w.heap.size]? = some (.deferred (some [])) := (Below.heap_alloc _ _ _ (by simp)).trans (World.alloc_heap_new w _)
 have hb1 : Below w.heap.size w W1 := ((Below.refl _ w).alloc (Nat.le_refl _) _).alloc (by simp) _
 have turn : ∀ (W : World) (o o' : Obj), W.heap[L]? = some o → o.isCells = false → KeepT n₀ W (W.putObj L o') := fun W o o' ho hc =>
  KeepT.putObj o' ho hc (by omega)
 -- what holds between two rounds
 let J : List α → World → Prop := fun pre W => I pre W ∧ W.heap[L]? = some (.loop (R .ready none)) ∧ W.heap[w.heap.size]? = some (.deferred (some []))
 have hJ : OwnFrom W1.heap.size J := fun s A B row hs hgr hr =>
  ⟨hI s A B row hs.1 hgr (fun r e => by obtain ⟨h1, h2⟩ := hr r e; exact ⟨by omega, h2⟩), heap_kept (B := W1.heap.size) hgr (fun r e => (hr r e).1) hs.2.1 (by omega), heap_kept (B := W1.heap.size) hgr (fun r e => (hr r e).1) hs.2.2 (by omega)⟩
 refine ⟨L, [{ target := .collected w.heap.size, args := #[] }], W1, { target := .fn (.func gf) lb, args := #[.func (.yield L) #[] #[]] }, W1, gf, #[.func (.yield L) #[] #[]] ++ lb, W1, run_enterLoop_outer _ _ _ _ _, ?_, ?_, ?_, ?_, ?_⟩
 ·simp only [resolve, hg]; simp [go_sem, L]
 ·intro _ _; trivial
 ·simp [invoke, go_sem, eg]
 ·intro e; simp [Fence.wide] at e
 refine (hseq L J W1 (by omega) hb1 hJ ?_ ⟨hI.alloc _ (hI.alloc _ h0), hL, hD⟩).mono ?_
 ·-- a round
  rintro pre x W ⟨hi, hl, hd⟩ hlt
  have lt := (Array.getElem?_eq_some_iff.1 hl).1
  refine ⟨fn, _, assign, body, run_yield hl (hps x), roundIn_of_wpIn hfn (hassign L x W _ ⟨_, run_beginRound hl rfl, ?_⟩)⟩
  refine wpIn_mono (hbody L pre x _ (hI.putObj _ hi (by omega) hl rfl) hlt) ?_
  rintro e a3 W3 hp
  cases e <;> first | exact (show False from hp).elim | skip
  obtain ⟨hk, hB3, hi3⟩ := hp
  have hl3 : W3.heap[L]? = some (.loop { R .ready none with state := .busy }) := hk.same _ _ (World.putObj_heap_same lt) rfl
  have hd3 : W3.heap[w.heap.size]? = some (.deferred (some [])) := hk.same _ _ ((World.putObj_heap_other (by omega)).trans hd) rfl
  refine ⟨_, _, run_endRound none hl3, rfl, ⟨hI.putObj _ hi3 (by omega) hl3 rfl, World.putObj_heap_same (Array.getElem?_eq_some_iff.1 hl3).1, (World.putObj_heap_other (by omega)).trans hd3⟩, ⟨?_, fun k o hne ho hc => ?_⟩⟩
  ·exact ((turn _ _ _ hl rfl).trans hB3).trans (turn _ _ _ hl3 rfl)
  ·exact (World.putObj_heap_other hne).trans (hk.same k o ((World.putObj_heap_other hne).trans ho) hc)
 ·-- behind the iterator
  rintro e W2 ⟨⟨v, rfl⟩, hi, hl, hd⟩
  exact ⟨none, _, run_endLoop hl (by simp [R]), hdone _ _ (Nat.le_refl _) (hI.putObj _ hi (by omega) hl rfl) ((World.putObj_heap_other (by omega)).trans hd)⟩

end Go.Proofs.Ytehcbamfendbaaa

