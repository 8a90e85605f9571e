/- A law for the walk: a slice of numbers is appended to one that is the call's own; the appended one may be nil or empty. No function of the program is spoken of. -/
import Derived.Test.YthelncibpoijoaaKit4
import Derived.Laws.AppendOwnNone
namespace Go.Proofs.Ythelncibpoijoaa
open Go.RowKit

theorem run_append_none {P : Program} {w : World} (base : Nat) (t ty e : TypeId) (i : TypeInfo) (size : Nat) (ht : P.underlying t = some (.slice e)) (hi : P.info? e = some i)
    (v : Value) (n c : Nat) (xs : List Value) (hown : w.ownsRow base e size v n xs) :
    (Builtin.append_ #[t, t] ty #[v, .slice none 0 c]).run P w = .ok v w := by
  rcases hown.2 with ⟨rfl, rfl⟩ | ⟨g, cap, cur, rfl, _, _, hnc, _⟩
  · simp [Builtin.append_, run_underlying ht, sizeOf, typeInfo, hi, Builtin.lenOf, Builtin.firstCells]
  · simp [Builtin.append_, run_underlying ht, sizeOf, typeInfo, hi, Builtin.lenOf, Builtin.firstCells, hnc, storeCells]

theorem Reads.news {w : World} {ad : Addr} {m : Nat} {ys : List Int} (h : Reads w (some ad) m ys) : ∀ j u, (ints ys)[j]? = some u → w.cell? (ad.add j) = some u := by
  intro j u hj
  have hl := h.len
  have hjm : j < m := by
    have := (List.getElem?_eq_some_iff.1 hj).1
    simp [ints] at this
    omega
  rcases h.2 with h0 | ⟨b, off, ha, hc⟩
  · omega
  · cases ha
    rw [Addr.add_lit, hc j hjm, ← hj]
    simp [ints, List.getD, show j < ys.length by omega]

theorem ints_cells (ys : List Int) : ∀ u ∈ ints ys, u.oneCell' = true := ints_oneCell .i64 ys

/-- 'append(out, ys...)', out nil or the call's own; ys whatever slice of numbers. -/
theorem wpList_append_ints {P : Program} {w : World} {ops : Array Oper} {rest : List Oper} {o : Oper} {a : Act} {Q : Exit → Act → World → Prop} (hgd : o.guard = none) (s x : Operand) (t : TypeId)
    (ho : o.op = .call { callee := .builtin .append, args := #[s, x], argTypes := #[t, t] })
    (base : Nat) (i : TypeInfo) (ht : P.underlying t = some (.slice 2)) (hi : P.info? 2 = some i) (hz : i.zero = some (.int .i64 0)) (hsize : i.size = 1) (hby : i.bytes = 8)
    (v : Value) (n : Nat) (xs : List Int) (hs : a.eval s = v) (hown : OwnV base w v n xs)
    (ao : Option Addr) (m c : Nat) (ys : List Int) (hx : a.eval x = .slice ao m c) (hr : Reads w ao m ys)
    (hlen : n + m ≤ 4294967296) (hbase : base ≤ w.heap.size)
    (h : ∀ v' w', OwnV base w' v' (n + m) (xs ++ ys) → w.grownBy w' v.ownBlock → wpList P ops Q rest (a.put o.dst v') w') : wpList P ops Q (o :: rest) a w := by
  cases ao with
  | some ad =>
    have hl : (ints ys).length = m * 1 := by simp [ints, hr.len]
    refine wpList_append_own w hgd s x t ho base 2 i (.int .i64 0) 1 8 ht hi hz hsize hby rfl (by decide) v n (ints xs) hs hown ad m c (ints ys) hx hl hr.news (ints_cells ys) (by unfold maxLen; omega) (by omega) hbase ?_
    intro v' w' h1 h2 _
    refine h v' w' ?_ h2
    unfold OwnV ints at *
    rw [List.map_append]
    exact h1
  | none =>
    have hm : m = 0 := by
      rcases hr.2 with h0 | ⟨b, off, ha, _⟩
      · exact h0
      · cases ha
    subst hm
    have hy : ys = [] := List.eq_nil_of_length_eq_zero hr.len
    subst hy
    refine wpList_plain hgd fun K hK => ?_
    have hrun := run_append_none (P := P) (w := w) base t o.type 2 i 1 ht hi v n c (ints xs) hown
    unfold Oper.wp
    simp [execOp, ho, resolve, invoke, builtin, hs, hx, hrun, Result.andThen]
    exact hK _ _ (h v w (by simpa using hown) (World.grownBy.refl _ _))

/-- Below B nothing has turned behind such an append. -/
theorem below_appended5 {B : Nat} {w wr w1 : World} {v : Value} {n : Nat} {xs : List Int} (hbl : Below B w wr) (hs : B ≤ wr.heap.size) (ho : OwnV B wr v n xs) (hg : wr.grownBy w1 v.ownBlock) : Below B w w1 :=
  hbl.grown hg hs (fun k hk => (World.ownsRow.lt ho k hk).1)

end Go.Proofs.Ythelncibpoijoaa
