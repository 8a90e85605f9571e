/- A range over an iterator that hands out memory of its own: what a round may read (Rd) comes with each value; a round goes on or returns. -/
import Derived.Test.YtehcbamfendbaaaSeNst
namespace Go.Proofs.Ytehcbamfendbaaa
open Go.RowKit Go.Shelf Go.ChangeShapes

/-- What abides the turn of cells in the iterator's own blocks T; which blocks that are may change where new ones are laid. -/
def OwnT {α : Type} (J : List α → (Nat → Prop) → World → Prop) : Prop :=
 (∀ s T W W' row, J s T W → W.grownBy W' row → (∀ r, row = some r → T r ∧ ∃ o : Obj, W.heap[r]? = some o ∧ o.isCells = true) → J s T W') ∧
 (∀ s T T' W, J s T W → (∀ r, T' r → T r ∨ W.heap.size ≤ r) → J s T' W)

theorem OwnT.alloc {α : Type} {J : List α → (Nat → Prop) → World → Prop} (h : OwnT J) {s : List α} {T : Nat → Prop} {W : World} (o : Obj) (hs : J s T W) : J s T (W.alloc o) :=
 h.1 s T W _ none hs (World.grownBy_alloc W o none) (fun r e => by cases e)

/-- What a range asks of the function value: the values come, each readable as it comes; what the body keeps is the iterator's to say (Kp). -/
def SeqRd {α : Type} (n : Nat) (gf : Nat) (lb : Array Value) (encs : α → Array Value) (Rd : α → World → Prop) (Kp : World → World → Prop) (S Sp : List α → Prop) (N : Nat) (w : World) : Prop :=
 ∀ (l : Nat) (J Jx : List α → (Nat → Prop) → World → Prop) (W : World), l < W.heap.size → w.heap.size ≤ l → Below w.heap.size w W → OwnT J →
  (∀ pre T x W1, J pre T W1 → pre.length < N → Rd x W1 → (∀ r, T r → r < W1.heap.size) → YieldAt Fence.wide (n - 1) Try.prog l (encs x) W1 fun e W' =>
   (e = .returned (.bool true) ∧ J (pre ++ [x]) T W' ∧ Kp W1 W') ∨ (e = .returned (.bool false) ∧ Jx (pre ++ [x]) T W')) →
  J [] (fun _ => False) W → CallsIn Fence.wide n Try.prog gf (#[.func (.yield l) #[] #[]] ++ lb) W fun e W' => (∃ v, e = .returned v) ∧ ((∃ xs T, S xs ∧ J xs T W') ∨ (∃ pre T, Sp pre ∧ Jx pre T W'))

/-- A round goes on, or returns. -/
def goesRet {α : Type} (B : Nat) (Kp : World → World → Prop) (I Ir : List α → (Nat → Prop) → World → Prop) (xs : List α) (T : Nat → Prop) (W : World) : Exit → Act → World → Prop
 | .normal, _, W' => KeepsFrom B W W' ∧ Kp W W' ∧ I xs T W'
 | .ret, _, W' => KeepsFrom B W W' ∧ Ir xs T W'
 | .exit _, _, _ => False
 | .goto _, _, _ => False
 | .panic _, _, _ => False
 | .outgrown, _, _ => False

set_option maxHeartbeats 1000000 in
theorem range_ret {α : Type} {n : Nat} {g : Operand} {ps : Array Tmp} {assign body : Code} {Q : Exit → Act → World → Prop} {a : Act} {w : World} {gf : Nat} {lb : Array Value}
  (hg : a.eval g = .func (.func gf) #[] lb) (eg : ∀ args W, (callFunc gf args).run Try.prog W = .ok (.enter gf args) W)
  {encs : α → Array Value} {Rd : α → World → Prop} {Kp : World → World → Prop} {S Sp : List α → Prop} {N : Nat} (hseq : SeqRd (n - 1) gf lb encs Rd Kp S Sp N w) (hps : ∀ x, (encs x).size = ps.size)
  (hKt : ∀ {A B C : World}, Kp A B → Kp B C → Kp A C) (hKb : ∀ (W : World) (l : Nat) (o o' : Obj), w.heap.size ≤ l → W.heap[l]? = some o → o.isCells = false → Kp W (W.putObj l o'))
  (hRd : ∀ (x : α) (W : World) (l : Nat) (o o' : Obj), w.heap.size ≤ l → W.heap[l]? = some o → o.isCells = false → Rd x W → Rd x (W.putObj l o'))
  (I Ir : List α → (Nat → Prop) → World → Prop) (hI : OwnT I) (hIf : ∀ T, OwnFrom w.heap.size (fun s => I s T)) (hIr : ∀ T, OwnFrom w.heap.size (fun s => Ir s T)) (h0 : I [] (fun _ => False) w) (a₁ : α → Act)
  (hassign : ∀ (l : Nat) (x : α) (W : World) (K : Act → World → Prop), K (a₁ x) W →
   assign.wpIn (Fence.wide.inRound l) (n - 1 - 1) Try.prog (Exit.then K (fun _ _ _ => False)) { tmps := (ps.zip (encs x)).foldl (fun t (p, v) => t.setIfInBounds p v) a.tmps, defers := [] } W)
  (hbody : ∀ (l : Nat) (pre : List α) (T : Nat → Prop) (x : α) (W : World), I pre T W → pre.length < N → Rd x W → (∀ r, T r → r < W.heap.size) → w.heap.size < W.heap.size →
   body.wpIn (Fence.wide.inRound l) (n - 1 - 1) Try.prog (goesRet w.heap.size Kp I Ir (pre ++ [x]) T W) (a₁ x) W)
  (hdone : ∀ (D : Nat) (xs : List α) (T : Nat → Prop) (W : World), w.heap.size ≤ D → S xs → I xs T W → W.heap[D]? = some (.deferred (some [])) → Q .normal { a with defers := { target := .collected D, args := #[] } :: a.defers } W)
  (hstop : ∀ (D : Nat) (pre : List α) (T : Nat → Prop) (W : World), w.heap.size ≤ D → Sp pre → Ir pre T W → W.heap[D]? = some (.deferred (some [])) → Code.ret.wpIn Fence.wide n Try.prog Q { a with defers := { target := .collected D, args := #[] } :: a.defers } W) :
  (Code.rangeFunc g ps assign body).wpIn Fence.wide n Try.prog Q a w := by
 refine wpIn_rangeFunc fun fn hfn => ?_
 let R : LoopState → Option Code → Loop := fun st pe => { state := st, pending := pe, fn, tmps := a.tmps, params := ps, assign, body, defers := w.heap.size }
 let L := w.heap.size + 1
 let W1 := (w.alloc (.deferred (some []))).alloc (.loop (R .ready none))
 have s1 : W1.heap.size = w.heap.size + 1 + 1 := by simp [W1]
 have hL : W1.heap[L]? = some (.loop (R .ready none)) := by
  have := World.alloc_heap_new (w.alloc (.deferred (some []))) (.loop (R .ready none)); rwa [World.size_alloc] at this
 have hD : W1.heap[w.heap.size]? = some (.deferred (some [])) := (Below.heap_alloc _ _ _ (by simp)).trans (World.alloc_heap_new w _)
 have hb1 : Below w.heap.size w W1 := ((Below.refl _ w).alloc (Nat.le_refl _) _).alloc (by simp) _
 let J : List α → (Nat → Prop) → World → Prop := fun pre T W => I pre T W ∧ W.heap[L]? = some (.loop (R .ready none)) ∧ W.heap[w.heap.size]? = some (.deferred (some []))
 let Jx : List α → (Nat → Prop) → World → Prop := fun pre T W => Ir pre T W ∧ W.heap[L]? = some (.loop (R .done (some .ret))) ∧ W.heap[w.heap.size]? = some (.deferred (some []))
 have kept : ∀ (T : Nat → Prop) (A B : World) (row : Option Nat) (k : Nat) (o : Obj), A.grownBy B row → (∀ r, row = some r → T r ∧ ∃ o : Obj, A.heap[r]? = some o ∧ o.isCells = true) → A.heap[k]? = some o → o.isCells = false → B.heap[k]? = some o := by
  intro T A B row k o hg hr hk ho
  refine (hg.block k (Array.getElem?_eq_some_iff.1 hk).1 (fun e => ?_)).trans hk
  obtain ⟨_, o', h1, h2⟩ := hr k e.symm
  rw [hk] at h1
  cases h1
  rw [ho] at h2
  cases h2
 have hJ : OwnT J := ⟨fun s T A B row hs hgr hr => ⟨hI.1 s T A B row hs.1 hgr hr, kept T A B row _ _ hgr hr hs.2.1 rfl, kept T A B row _ _ hgr hr hs.2.2 rfl⟩,
  fun s T T' A hs ht => ⟨hI.2 s T T' A hs.1 ht, hs.2⟩⟩
 refine ⟨L, [{ target := .collected w.heap.size, args := #[] }], W1, { target := .fn (.func gf) lb, args := #[.func (.yield L) #[] #[]] }, W1, gf, #[.func (.yield L) #[] #[]] ++ lb, W1, run_enterLoop_outer _ _ _ _ _, ?_, ?_, ?_, ?_, ?_⟩
 ·simp only [resolve, hg]; simp [go_sem, L]
 ·intro _ _; trivial
 ·simp [invoke, go_sem, eg]
 ·intro e; simp [Fence.wide] at e
 refine (hseq L J Jx W1 (by omega) (by omega) hb1 hJ ?_ ⟨hI.alloc _ (hI.alloc _ h0), hL, hD⟩).mono ?_
 ·rintro pre T x W ⟨hi, hl, hd⟩ hlt hrd htl
  have lt := (Array.getElem?_eq_some_iff.1 hl).1
  refine ⟨fn, _, assign, body, run_yield hl (hps x), roundIn_of_wpIn hfn (hassign L x W _ ⟨_, run_beginRound hl rfl, ?_⟩)⟩
  have hkp : Kp W (W.putObj L (.loop { R .ready none with state := .busy })) := hKb _ _ _ _ (by omega) hl rfl
  have hpz : (W.putObj L (.loop { R .ready none with state := .busy })).heap.size = W.heap.size := by simp [World.putObj]
  have hsz : w.heap.size < (W.putObj L (.loop { R .ready none with state := .busy })).heap.size := by
   rw [hpz]
   omega
  refine wpIn_mono (hbody L pre T x _ ((hIf T).putObj _ hi (by omega) hl rfl) hlt (hRd x _ _ _ _ (by omega) hl rfl hrd) (fun r hr => by rw [hpz]; exact htl r hr) hsz) ?_
  have hl2 : (W.putObj L (.loop { R .ready none with state := .busy })).heap[L]? = some (.loop { R .ready none with state := .busy }) := World.putObj_heap_same lt
  have hd2 : (W.putObj L (.loop { R .ready none with state := .busy })).heap[w.heap.size]? = some (.deferred (some [])) := (World.putObj_heap_other (by omega)).trans hd
  rintro e a3 W3 hp
  cases e <;> first | exact (show False from hp).elim | skip
  ·obtain ⟨hk, hB3, hi3⟩ := hp
   have hl3 := hk.same _ _ (by omega) hl2 rfl
   have hd3 := hk.same _ _ (Nat.le_refl _) hd2 rfl
   exact ⟨_, _, run_endRound none hl3, .inl ⟨rfl, ⟨(hIf T).putObj _ hi3 (by omega) hl3 rfl, World.putObj_heap_same (Array.getElem?_eq_some_iff.1 hl3).1, (World.putObj_heap_other (by omega)).trans hd3⟩, hKt (hKt hkp hB3) (hKb _ _ _ _ (by omega) hl3 rfl)⟩⟩
  ·obtain ⟨hk, hi3⟩ := hp
   have hl3 := hk.same _ _ (by omega) hl2 rfl
   have hd3 := hk.same _ _ (Nat.le_refl _) hd2 rfl
   exact ⟨_, _, run_endRound (some .ret) hl3, .inr ⟨rfl, (hIr T).putObj _ hi3 (by omega) hl3 rfl, World.putObj_heap_same (Array.getElem?_eq_some_iff.1 hl3).1, (World.putObj_heap_other (by omega)).trans hd3⟩⟩
 ·rintro e W2 ⟨⟨v, rfl⟩, (⟨xs, T, hS, hi, hl, hd⟩ | ⟨pre, T, hSp, hi, hl, hd⟩)⟩
  ·exact ⟨none, _, run_endLoop hl (by simp [R]), hdone _ xs T _ (Nat.le_refl _) hS ((hIf T).putObj _ hi (by omega) hl rfl) ((World.putObj_heap_other (by omega)).trans hd)⟩
  ·exact ⟨some .ret, _, run_endLoop hl (by simp [R]), hstop _ pre T _ (Nat.le_refl _) hSp ((hIr T).putObj _ hi (by omega) hl rfl) ((World.putObj_heap_other (by omega)).trans hd)⟩

end Go.Proofs.Ytehcbamfendbaaa

