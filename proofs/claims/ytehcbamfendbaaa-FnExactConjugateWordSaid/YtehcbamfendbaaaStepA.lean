/- A slice of numbers is appended inside of a statement that draws its order. -/
import Derived.Test.YtehcbamfendbaaaQA
import Derived.Deep.RegionHeld3
namespace Go.Proofs.Ytehcbamfendbaaa
open Go.RowKit Go.ChangeShapes

theorem At2.k0 {w : World} {g : Nat} {u v : Value} (h : At2 w g u v) : w.cell? ⟨g, 0, none⟩ = some u := h.2.1
theorem At2.k1 {w : World} {g : Nat} {u v : Value} (h : At2 w g u v) : w.cell? ⟨g, 1, none⟩ = some v := h.2.2.1

theorem At2.setCell2 {w : World} {g z : Nat} {u v : Value} (h : At2 w g u v) (hz : z ≠ g) (x y : Value) : At2 ((w.setCell ⟨z, 0, none⟩ x).setCell ⟨z, 1, none⟩ y) g u v :=
  (h.setCell (p := ⟨z, 0, none⟩) hz x).setCell (p := ⟨z, 1, none⟩) hz y

/-- A block of structs is no row of numbers: a store into it leaves a slice of numbers as it is. -/
theorem OwnV.setCell_other {B : Nat} {w : World} {v : Value} {n : Nat} {xs : List Int} (h : OwnV B w v n xs) {p : Addr} {cs : Array Value} (hp : w.heap[p.block]? = some (.cells cs 29)) (u : Value) : OwnV B (w.setCell p u) v n xs := by
  refine ownsRow_setCell_other h ?_ u
  rcases h.2 with ⟨hv, _⟩ | ⟨g, cap, cur, hv, hg, hh, r⟩
  · rw [hv]
    intro e
    cases e
  · rw [hv]
    intro e
    simp only [Value.ownBlock, Option.some.injEq] at e
    rw [e, hp] at hh
    simp at hh

/-- An append to a slice that lies below k leaves the block k as it is. -/
theorem Own.far {B : Nat} {w : World} {a : Option Addr} {n c k : Nat} {xs : List Int} (h : Own B w a n c xs) (hk : w.heap.size ≤ k) : some k ≠ (Value.slice a n c).ownBlock := by
  cases a with
  | none => intro e; cases e
  | some x =>
    intro e
    simp only [Value.ownBlock, Option.some.injEq] at e
    have := (h.lo x rfl).2
    omega

theorem wp_append_ints {P : Program} {w : World} {o : Oper} {a : Act} {K : Act → World → Prop} {Q : Exit → Act → World → Prop} (s x : Operand) (t : TypeId)
    (ho : o.op = .call { callee := .builtin .append, args := #[s, x], argTypes := #[t, t] })
    (base : Nat) (i : TypeInfo) (ht : P.underlying t = some (.slice 2)) (hi : P.info? 2 = some i) (hz : i.zero = some (.int .i64 0)) (hsize : i.size = 1) (hby : i.bytes = 8)
    (v : Value) (n : Nat) (xs : List Int) (hs : a.eval s = v) (hown : OwnV base w v n xs)
    (ao : Option Addr) (m c : Nat) (ys : List Int) (hx : a.eval x = .slice ao m c) (hr : Reads w ao m ys)
    (hlen : n + m ≤ 4294967296) (hbase : base ≤ w.heap.size)
    (h : ∀ v' w', OwnV base w' v' (n + m) (xs ++ ys) → w.grownBy w' v.ownBlock → K (a.put o.dst v') w') : o.wp P a w K Q := by
  cases ao with
  | some ad =>
    have hl : (ints ys).length = m * 1 := by simp [ints, hr.len]
    refine wp_append_own w s x t ho base 2 i (.int .i64 0) 1 8 ht hi hz hsize hby rfl (by decide) v n (ints xs) hs hown ad m c (ints ys) hx hl hr.news (ints_cells ys) (by unfold maxLen; omega) (by omega) hbase ?_
    intro v' w' h1 h2 _
    refine h v' w' ?_ h2
    unfold OwnV ints at *
    rw [List.map_append]
    exact h1
  | none =>
    have hm : m = 0 := by
      rcases hr.2 with h0 | ⟨b, off, ha, _⟩
      · exact h0
      · cases ha
    subst hm
    have hy : ys = [] := List.eq_nil_of_length_eq_zero hr.len
    subst hy
    have hrun := run_append_none (P := P) (w := w) base t o.type 2 i 1 ht hi v n c (ints xs) hown
    unfold Oper.wp
    simp [execOp, ho, resolve, invoke, builtin, hs, hx, hrun, Result.andThen]
    exact h v w (by simpa using hown) (World.grownBy.refl _ _)

theorem step_append_ints {P : Program} {w : World} {ops : Array Oper} {o : Oper} {a : Act} {K : Act → World → Prop} {Q : Exit → Act → World → Prop} {E : Prop} (hgd : o.guard = none) (s x : Operand) (t : TypeId)
    (ho : o.op = .call { callee := .builtin .append, args := #[s, x], argTypes := #[t, t] })
    (base : Nat) (i : TypeInfo) (ht : P.underlying t = some (.slice 2)) (hi : P.info? 2 = some i) (hz : i.zero = some (.int .i64 0)) (hsize : i.size = 1) (hby : i.bytes = 8)
    (v : Value) (n : Nat) (xs : List Int) (hs : a.eval s = v) (hown : OwnV base w v n xs)
    (ao : Option Addr) (m c : Nat) (ys : List Int) (hx : a.eval x = .slice ao m c) (hr : Reads w ao m ys)
    (hlen : n + m ≤ 4294967296) (hbase : base ≤ w.heap.size)
    (h : ∀ av cv w', Own base w' av (n + m) cv (xs ++ ys) → w.grownBy w' v.ownBlock → K (a.put o.dst (.slice av (n + m) cv)) w') :
    if Region.wanted o (yielded ops a.tmps) = true then Oper.wp P o a w K Q else E := by
  have hw : Region.wanted o (yielded ops a.tmps) = true := by simp [Region.wanted, hgd]
  rw [if_pos hw]
  refine wp_append_ints s x t ho base i ht hi hz hsize hby v n xs hs hown ao m c ys hx hr hlen hbase ?_
  intro v' w' h1 h2
  obtain ⟨av, cv, rfl, h3⟩ := h1.form
  exact h av cv w' h3 h2

end Go.Proofs.Ytehcbamfendbaaa
