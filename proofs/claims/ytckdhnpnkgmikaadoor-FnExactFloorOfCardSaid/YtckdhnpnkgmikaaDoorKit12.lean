/- Laws for the walk: numbers are appended to a slice that is the call's own, beside another slice that stays. No function of the program is spoken of. -/
import Derived.Test.YtckdhnpnkgmikaaDoorKit5
import Derived.Maps.AppendAt
namespace Go.Proofs.YtckdhnpnkgmikaaDoor
open Go.RowKit

/-- The slice at a lies in another block than the growing slice v. -/
def Sep (w : World) (v : Value) (a : Option Addr) : Prop := ∀ x, a = some x → x.block < w.heap.size ∧ v.ownBlock ≠ some x.block

theorem Sep.grown {w w' : World} {v v' : Value} {a : Option Addr} (h : Sep w v a) (hg : w.grownBy w' v.ownBlock) (hv : v'.ownBlock = v.ownBlock ∨ v'.ownBlock = some w.heap.size) : Sep w' v' a := by
  intro x hx
  obtain ⟨h1, h2⟩ := h x hx
  refine ⟨Nat.lt_of_lt_of_le h1 hg.size, fun e => ?_⟩
  rcases hv with hv | hv
  · exact h2 (hv ▸ e)
  · rw [hv] at e
    simp only [Option.some.injEq] at e
    omega

theorem Sep.below {w w' : World} {v : Value} {a : Option Addr} (h : Sep w v a) (hs : w.heap.size ≤ w'.heap.size) : Sep w' v a := fun x hx => ⟨Nat.lt_of_lt_of_le (h x hx).1 hs, (h x hx).2⟩

theorem Reads.sep {w w' : World} {v : Value} {a : Option Addr} {n : Nat} {xs : List Int} (h : Reads w a n xs) (k : Sep w v a) (hg : w.grownBy w' v.ownBlock) : Reads w' a n xs := by
  obtain ⟨h1, h | ⟨b, off, ha, hc⟩⟩ := h
  · exact ⟨h1, .inl h⟩
  · refine ⟨h1, .inr ⟨b, off, ha, fun j hj => ?_⟩⟩
    exact hg.cell (hc j hj) (fun e => (k _ ha).2 e.symm)

theorem wp_append_ints_at {P : Program} {w : World} {o : Oper} {a : Act} {K : Act → World → Prop} {Q : Exit → Act → World → Prop} (s x : Operand) (t : TypeId)
    (ho : o.op = .call { callee := .builtin .append, args := #[s, x], argTypes := #[t, t] })
    (base : Nat) (i : TypeInfo) (ht : P.underlying t = some (.slice 2)) (hi : P.info? 2 = some i) (hz : i.zero = some (.int .i64 0)) (hsize : i.size = 1) (hby : i.bytes = 8)
    (v : Value) (n : Nat) (xs : List Int) (hs : a.eval s = v) (hown : OwnV base w v n xs)
    (ao : Option Addr) (m c : Nat) (ys : List Int) (hx : a.eval x = .slice ao m c) (hr : Reads w ao m ys)
    (hlen : n + m ≤ 4294967296) (hbase : base ≤ w.heap.size)
    (h : ∀ v' w', OwnV base w' v' (n + m) (xs ++ ys) → w.grownBy w' v.ownBlock → (v'.ownBlock = v.ownBlock ∨ v'.ownBlock = some w.heap.size) → K (a.put o.dst v') w') : o.wp P a w K Q := by
  cases ao with
  | some ad =>
    have hl : (ints ys).length = m * 1 := by simp [ints, hr.len]
    obtain ⟨v', w', hrun, h2, h3, h4, h5⟩ := run_append_own_at (P := P) w base t o.type 2 i (.int .i64 0) 1 8 ht hi hz hsize hby rfl (by decide) v n (ints xs) hown ad m c (ints ys) hl hr.news (ints_cells ys) (by unfold maxLen; omega) (by omega) hbase
    unfold Oper.wp execOp
    simp only [ho, resolve, invoke, builtin, Sem.run_bind, Sem.run_pure, Result.andThen_ok, List.map_toArray, List.map_cons, List.map_nil, hs, hx, hrun]
    refine h v' w' ?_ h3 h5
    unfold OwnV ints at *
    rw [List.map_append]
    exact h2
  | none =>
    have hm : m = 0 := by
      rcases hr.2 with h0 | ⟨b, off, ha, _⟩
      · exact h0
      · cases ha
    subst hm
    have hy : ys = [] := List.eq_nil_of_length_eq_zero hr.len
    subst hy
    have hrun := run_append_none (P := P) (w := w) base t o.type 2 i 1 ht hi v n c (ints xs) hown
    unfold Oper.wp
    simp [execOp, ho, resolve, invoke, builtin, hs, hx, hrun, Result.andThen]
    exact h v w (by simpa using hown) (World.grownBy.refl _ _) (.inl rfl)

theorem wpList_append_ints_at {P : Program} {w : World} {ops : Array Oper} {rest : List Oper} {o : Oper} {a : Act} {Q : Exit → Act → World → Prop} (hgd : o.guard = none) (s x : Operand) (t : TypeId)
    (ho : o.op = .call { callee := .builtin .append, args := #[s, x], argTypes := #[t, t] })
    (base : Nat) (i : TypeInfo) (ht : P.underlying t = some (.slice 2)) (hi : P.info? 2 = some i) (hz : i.zero = some (.int .i64 0)) (hsize : i.size = 1) (hby : i.bytes = 8)
    (v : Value) (n : Nat) (xs : List Int) (hs : a.eval s = v) (hown : OwnV base w v n xs)
    (ao : Option Addr) (m c : Nat) (ys : List Int) (hx : a.eval x = .slice ao m c) (hr : Reads w ao m ys)
    (hlen : n + m ≤ 4294967296) (hbase : base ≤ w.heap.size)
    (h : ∀ v' w', OwnV base w' v' (n + m) (xs ++ ys) → w.grownBy w' v.ownBlock → (v'.ownBlock = v.ownBlock ∨ v'.ownBlock = some w.heap.size) → wpList P ops Q rest (a.put o.dst v') w') : wpList P ops Q (o :: rest) a w :=
  wpList_plain hgd fun _ hK => wp_append_ints_at s x t ho base i ht hi hz hsize hby v n xs hs hown ao m c ys hx hr hlen hbase fun v' w' h1 h2 h3 => hK _ _ (h v' w' h1 h2 h3)

theorem step_append_ints_at {P : Program} {w : World} {ops : Array Oper} {o : Oper} {a : Act} {K : Act → World → Prop} {Q : Exit → Act → World → Prop} {E : Prop} (hgd : o.guard = none) (s x : Operand) (t : TypeId)
    (ho : o.op = .call { callee := .builtin .append, args := #[s, x], argTypes := #[t, t] })
    (base : Nat) (i : TypeInfo) (ht : P.underlying t = some (.slice 2)) (hi : P.info? 2 = some i) (hz : i.zero = some (.int .i64 0)) (hsize : i.size = 1) (hby : i.bytes = 8)
    (v : Value) (n : Nat) (xs : List Int) (hs : a.eval s = v) (hown : OwnV base w v n xs)
    (ao : Option Addr) (m c : Nat) (ys : List Int) (hx : a.eval x = .slice ao m c) (hr : Reads w ao m ys)
    (hlen : n + m ≤ 4294967296) (hbase : base ≤ w.heap.size)
    (h : ∀ v' w', OwnV base w' v' (n + m) (xs ++ ys) → w.grownBy w' v.ownBlock → (v'.ownBlock = v.ownBlock ∨ v'.ownBlock = some w.heap.size) → K (a.put o.dst v') w') :
    if Region.wanted o (yielded ops a.tmps) = true then Oper.wp P o a w K Q else E := by
  have hw : Region.wanted o (yielded ops a.tmps) = true := by simp [Region.wanted, hgd]
  rw [if_pos hw]
  exact wp_append_ints_at s x t ho base i ht hi hz hsize hby v n xs hs hown ao m c ys hx hr hlen hbase h

/-- One number's own slice. -/
theorem reads_one (w : World) (x : Int) (t : TypeId) : Reads (w.alloc (.cells #[.int .i64 x] t)) (some ⟨w.heap.size, 0, none⟩) 1 [x] := by
  refine ⟨rfl, .inr ⟨w.heap.size, 0, rfl, fun j hj => ?_⟩⟩
  have : j = 0 := by omega
  subst this
  simp

theorem below_own {B C : Nat} {w wr w1 : World} {v : Value} {n : Nat} {xs : List Int} (hbl : Below B w wr) (hs : B ≤ wr.heap.size) (hc : B ≤ C) (ho : OwnV C wr v n xs) (hg : wr.grownBy w1 v.ownBlock) : Below B w w1 :=
  hbl.grown hg hs (fun k hk => Nat.le_trans hc (World.ownsRow.lt ho k hk).1)

end Go.Proofs.YtckdhnpnkgmikaaDoor
