/- Merged texts. -/
import Derived.Test.YtpkhddndapcpjaaSmQA
import Derived.Maps.AppendAt
import Derived.Test.YtpkhddndapcpjaaSmKit11

/- Laws for the walk: numbers are appended to a slice that is the call's own, beside another slice that stays. No function of the program is spoken of. -/
namespace Go.Proofs.Ytpkhddndapcpjaa
open Go.RowKit

/-- The slice at a lies in another block than the growing slice v. -/
def Sep (w : World) (v : Value) (a : Option Addr) : Prop := ∀ x, a = some x → x.block < w.heap.size ∧ v.ownBlock ≠ some x.block

theorem Sep.grown {w w' : World} {v v' : Value} {a : Option Addr} (h : Sep w v a) (hg : w.grownBy w' v.ownBlock) (hv : v'.ownBlock = v.ownBlock ∨ v'.ownBlock = some w.heap.size) : Sep w' v' a := by
 intro x hx
 obtain ⟨h1, h2⟩ := h x hx
 refine ⟨Nat.lt_of_lt_of_le h1 hg.size, fun e => ?_⟩
 rcases hv with hv | hv
 ·exact h2 (hv ▸ e)
 ·rw [hv] at e
  simp only [Option.some.injEq] at e
  omega

theorem Sep.below {w w' : World} {v : Value} {a : Option Addr} (h : Sep w v a) (hs : w.heap.size ≤ w'.heap.size) : Sep w' v a := fun x hx => ⟨Nat.lt_of_lt_of_le (h x hx).1 hs, (h x hx).2⟩

theorem Reads.sep {w w' : World} {v : Value} {a : Option Addr} {n : Nat} {xs : List Int} (h : Reads w a n xs) (k : Sep w v a) (hg : w.grownBy w' v.ownBlock) : Reads w' a n xs := by
 obtain ⟨h1, h | ⟨b, off, ha, hc⟩⟩ := h
 ·exact ⟨h1, .inl h⟩
 ·refine ⟨h1, .inr ⟨b, off, ha, fun j hj => ?_⟩⟩
  exact hg.cell (hc j hj) (fun e => (k _ ha).2 e.symm)

end Go.Proofs.Ytpkhddndapcpjaa

/- Laws for the walk: rows of eight bytes are appended to a slice that is the call's own. No function of the program is spoken of. -/
namespace Go.Proofs.Ytpkhddndapcpjaa
open Go.RowKit Go.ChangeShapes

/-- The slice value v of n rows is the call's own, in blocks from B on. -/
def OwnAV (B : Nat) (w : World) (v : Value) (n : Nat) (rs : List (List Int)) : Prop := Rows8 rs ∧ w.ownsRow B 53 8 v n (flat8 rs)

theorem OwnAV.form {B : Nat} {w : World} {v : Value} {n : Nat} {rs : List (List Int)} (h : OwnAV B w v n rs) : ∃ a cap, v = .slice a n cap ∧ OwnA B w a n cap rs := by
 obtain ⟨h8, hh⟩ := h
 have h1 := hh
 rcases h1.2 with ⟨hv, h0⟩ | ⟨g, c, cur, hv, _⟩
 ·subst h0
  exact ⟨none, 0, hv, h8, by rw [hv] at hh; exact hh⟩
 ·exact ⟨_, c, hv, h8, by rw [hv] at hh; exact hh⟩

theorem OwnAV.of {B : Nat} {w : World} {a : Option Addr} {n cap : Nat} {rs : List (List Int)} (h : OwnA B w a n cap rs) : OwnAV B w (.slice a n cap) n rs := h

theorem OwnAV.rows {B : Nat} {w : World} {v : Value} {n : Nat} {rs : List (List Int)} (h : OwnAV B w v n rs) : Rows8 rs := h.1

theorem OwnAV.len {B : Nat} {w : World} {v : Value} {n : Nat} {rs : List (List Int)} (h : OwnAV B w v n rs) : rs.length = n := by
 have := h.2.1
 rw [flat8_len] at this
 omega

theorem OwnAV.nil (B : Nat) (w : World) : OwnAV B w (.slice none 0 0) 0 [] := OwnA.nil B w

theorem OwnAV.empty (w : World) : OwnAV w.heap.size (w.alloc (.cells #[] 53)) (.slice (some ⟨w.heap.size, 0, none⟩) 0 0) 0 [] := by
 have := World.ownsRow_lit (base := w.heap.size) (size := 8) (e := 53) w #[] 0 (Nat.le_refl _) (Nat.zero_le _) rfl
 exact ⟨(fun _ hr => absurd hr List.not_mem_nil), this⟩

theorem OwnAV.drawn {B : Nat} {w w1 : World} {v : Value} {n : Nat} {rs : List (List Int)} (h : OwnAV B w v n rs) (k : Below w.heap.size w w1) : OwnAV B w1 v n rs := by
 obtain ⟨a, cap, rfl, ho⟩ := h.form
 exact ho.below k

theorem OwnAV.low {B B' : Nat} {w : World} {v : Value} {n : Nat} {rs : List (List Int)} (h : OwnAV B w v n rs) (hB : B' ≤ B) : OwnAV B' w v n rs := by
 obtain ⟨a, cap, rfl, ho⟩ := h.form
 exact ho.mono hB

theorem OwnAV.drew {B : Nat} {w : World} {v : Value} {n : Nat} {rs : List (List Int)} (h : OwnAV B w v n rs) : OwnAV B w.drew v n rs := h

theorem flat8_append (xs ys : List (List Int)) : flat8 (xs ++ ys) = flat8 xs ++ flat8 ys := List.flatMap_append

theorem flat8_cells (ys : List (List Int)) : ∀ u ∈ flat8 ys, u.oneCell' = true := by
 intro u hu
 obtain ⟨r, _, h⟩ := List.mem_flatMap.1 hu
 simp only [bytes8, List.mem_cons, List.not_mem_nil, or_false] at h
 rcases h with rfl | rfl | rfl | rfl | rfl | rfl | rfl | rfl <;> rfl

theorem ReadsA.news {w : World} {ad : Addr} {m : Nat} {ys : List (List Int)} (h : ReadsA w (some ad) m ys) : ∀ j u, (flat8 ys)[j]? = some u → w.cell? (ad.add j) = some u := by
 intro j u hj
 have hl := h.len
 have hjm : j < m * 8 := by
  have := (List.getElem?_eq_some_iff.1 hj).1
  rw [flat8_len] at this
  omega
 rcases h.2.2 with h0 | ⟨b, off, ha, hc⟩
 ·omega
 ·cases ha
  have h1 := hc (j / 8) (by omega) (j % 8) (by omega)
  have h2 := flat8_get ys (j / 8) (j % 8) (by omega) (by omega)
  rw [show j / 8 * 8 + j % 8 = j by omega, hj] at h2
  rw [Addr.add_lit, h2, ← h1, show off + j / 8 * 8 + j % 8 = off + j by omega]

theorem wp_append_rows_at {P : Program} {w : World} {o : Oper} {a : Act} {K : Act → World → Prop} {Q : Exit → Act → World → Prop} (s x : Operand) (t : TypeId)
  (ho : o.op = .call { callee := .builtin .append, args := #[s, x], argTypes := #[t, t] })
  (base : Nat) (i : TypeInfo) (ht : P.underlying t = some (.slice 53)) (hi : P.info? 53 = some i) (hz : i.zero = some (.agg #[Value.int .u8 0, .int .u8 0, .int .u8 0, .int .u8 0, .int .u8 0, .int .u8 0, .int .u8 0, .int .u8 0])) (hsize : i.size = 8) (hby : i.bytes = 8)
  (v : Value) (n : Nat) (xs : List (List Int)) (hs : a.eval s = v) (hown : OwnAV base w v n xs)
  (ao : Option Addr) (m c : Nat) (ys : List (List Int)) (hx : a.eval x = .slice ao m c) (hr : ReadsA w ao m ys)
  (hlen : n + m ≤ 4294967296) (hbase : base ≤ w.heap.size)
  (h : ∀ v' w', OwnAV base w' v' (n + m) (xs ++ ys) → w.grownBy w' v.ownBlock → (v'.ownBlock = v.ownBlock ∨ v'.ownBlock = some w.heap.size) → K (a.put o.dst v') w') : o.wp P a w K Q := by
 have h8 : Rows8 (xs ++ ys) := fun r hr' => by
  rcases List.mem_append.1 hr' with h1 | h1
  ·exact hown.1 r h1
  ·exact hr.rows r h1
 cases ao with
 | some ad =>
  have hl : (flat8 ys).length = m * 8 := by rw [flat8_len, hr.len]
  obtain ⟨v', w', hrun, h2, h3, h4, h5⟩ := run_append_own_at (P := P) w base t o.type 53 i _ 8 8 ht hi hz hsize hby rfl (by decide) v n (flat8 xs) hown.2 ad m c (flat8 ys) hl hr.news (flat8_cells ys) (by unfold maxLen; omega) (by omega) hbase
  unfold Oper.wp execOp
  simp only [ho, resolve, invoke, builtin, Sem.run_bind, Sem.run_pure, Result.andThen_ok, List.map_toArray, List.map_cons, List.map_nil, hs, hx, hrun]
  refine h v' w' ⟨h8, ?_⟩ h3 h5
  rw [flat8_append]
  exact h2
 | none =>
  have hm : m = 0 := by
   rcases hr.2.2 with h0 | ⟨b, off, ha, _⟩
   ·exact h0
   ·cases ha
  subst hm
  have hy : ys = [] := List.eq_nil_of_length_eq_zero hr.len
  subst hy
  have hrun := run_append_none (P := P) (w := w) base t o.type 53 i 8 ht hi v n c (flat8 xs) hown.2
  unfold Oper.wp
  simp [execOp, ho, resolve, invoke, builtin, hs, hx, hrun, Result.andThen]
  exact h v w (by simpa using hown) (World.grownBy.refl _ _) (.inl rfl)

theorem wpList_append_rows_at {P : Program} {w : World} {ops : Array Oper} {rest : List Oper} {o : Oper} {a : Act} {Q : Exit → Act → World → Prop} (hgd : o.guard = none) (s x : Operand) (t : TypeId)
  (ho : o.op = .call { callee := .builtin .append, args := #[s, x], argTypes := #[t, t] })
  (base : Nat) (i : TypeInfo) (ht : P.underlying t = some (.slice 53)) (hi : P.info? 53 = some i) (hz : i.zero = some (.agg #[Value.int .u8 0, .int .u8 0, .int .u8 0, .int .u8 0, .int .u8 0, .int .u8 0, .int .u8 0, .int .u8 0])) (hsize : i.size = 8) (hby : i.bytes = 8)
  (v : Value) (n : Nat) (xs : List (List Int)) (hs : a.eval s = v) (hown : OwnAV base w v n xs)
  (ao : Option Addr) (m c : Nat) (ys : List (List Int)) (hx : a.eval x = .slice ao m c) (hr : ReadsA w ao m ys)
  (hlen : n + m ≤ 4294967296) (hbase : base ≤ w.heap.size)
  (h : ∀ v' w', OwnAV base w' v' (n + m) (xs ++ ys) → w.grownBy w' v.ownBlock → (v'.ownBlock = v.ownBlock ∨ v'.ownBlock = some w.heap.size) → wpList P ops Q rest (a.put o.dst v') w') : wpList P ops Q (o :: rest) a w :=
 wpList_plain hgd fun _ hK => wp_append_rows_at s x t ho base i ht hi hz hsize hby v n xs hs hown ao m c ys hx hr hlen hbase fun v' w' h1 h2 h3 => hK _ _ (h v' w' h1 h2 h3)

theorem step_append_rows_at {P : Program} {w : World} {ops : Array Oper} {o : Oper} {a : Act} {K : Act → World → Prop} {Q : Exit → Act → World → Prop} {E : Prop} (hgd : o.guard = none) (s x : Operand) (t : TypeId)
  (ho : o.op = .call { callee := .builtin .append, args := #[s, x], argTypes := #[t, t] })
  (base : Nat) (i : TypeInfo) (ht : P.underlying t = some (.slice 53)) (hi : P.info? 53 = some i) (hz : i.zero = some (.agg #[Value.int .u8 0, .int .u8 0, .int .u8 0, .int .u8 0, .int .u8 0, .int .u8 0, .int .u8 0, .int .u8 0])) (hsize : i.size = 8) (hby : i.bytes = 8)
  (v : Value) (n : Nat) (xs : List (List Int)) (hs : a.eval s = v) (hown : OwnAV base w v n xs)
  (ao : Option Addr) (m c : Nat) (ys : List (List Int)) (hx : a.eval x = .slice ao m c) (hr : ReadsA w ao m ys)
  (hlen : n + m ≤ 4294967296) (hbase : base ≤ w.heap.size)
  (h : ∀ v' w', OwnAV base w' v' (n + m) (xs ++ ys) → w.grownBy w' v.ownBlock → (v'.ownBlock = v.ownBlock ∨ v'.ownBlock = some w.heap.size) → K (a.put o.dst v') w') :
  if Region.wanted o (yielded ops a.tmps) = true then Oper.wp P o a w K Q else E := by
 have hw : Region.wanted o (yielded ops a.tmps) = true := by simp [Region.wanted, hgd]
 rw [if_pos hw]
 exact wp_append_rows_at s x t ho base i ht hi hz hsize hby v n xs hs hown ao m c ys hx hr hlen hbase h

/-- One row's own slice. -/
theorem readsA_one (w : World) (r : List Int) (h : r.length = 8) (t : TypeId) : ReadsA (w.alloc (.cells #[.int .u8 (at8 r 0), .int .u8 (at8 r 1), .int .u8 (at8 r 2), .int .u8 (at8 r 3), .int .u8 (at8 r 4), .int .u8 (at8 r 5), .int .u8 (at8 r 6), .int .u8 (at8 r 7)] t)) (some ⟨w.heap.size, 0, none⟩) 1 [r] := by
 refine ⟨rfl, fun x hx => by rw [List.mem_singleton.1 hx]; exact h, .inr ⟨w.heap.size, 0, rfl, fun j hj i hi => ?_⟩⟩
 have : j = 0 := by omega
 subst this
 have : i = 0 ∨ i = 1 ∨ i = 2 ∨ i = 3 ∨ i = 4 ∨ i = 5 ∨ i = 6 ∨ i = 7 := by omega
 rcases this with rfl | rfl | rfl | rfl | rfl | rfl | rfl | rfl <;> simp [rowAt]

theorem below_ownA {B C : Nat} {w wr w1 : World} {v : Value} {n : Nat} {xs : List (List Int)} (hbl : Below B w wr) (hs : B ≤ wr.heap.size) (hc : B ≤ C) (ho : OwnAV C wr v n xs) (hg : wr.grownBy w1 v.ownBlock) : Below B w w1 :=
 hbl.grown hg hs (fun k hk => Nat.le_trans hc (World.ownsRow.lt ho.2 k hk).1)

end Go.Proofs.Ytpkhddndapcpjaa

/- Predicates on memory: a slice of rows of the call's own beside boxes of rows. No function of the program is spoken of. -/
namespace Go.Proofs.Ytpkhddndapcpjaa
open Go.RowKit Go.ChangeShapes

/-- The slice at gb holds the rows; below the size of w all is as it was. -/
structure AtWei (w wx : World) (gb n c : Nat) (rows : List (List Int)) : Prop where
 own : OwnA w.heap.size wx (some ⟨gb, 0, none⟩) n c rows
 bel : Below w.heap.size w wx
 lo : w.heap.size ≤ gb
 hi : gb < wx.heap.size

theorem AtWei.below {w wx W : World} {gb n c : Nat} {rows : List (List Int)} (h : AtWei w wx gb n c rows) (hb : Below wx.heap.size wx W) : AtWei w W gb n c rows :=
 ⟨h.own.below hb, below_go h.bel hb h.bel.size, h.lo, Nat.lt_of_lt_of_le h.hi hb.size⟩
theorem AtWei.drew {w wx : World} {gb n c : Nat} {rows : List (List Int)} (h : AtWei w wx gb n c rows) : AtWei w wx.drew gb n c rows := h.below (Below.refl _ _).drew
theorem AtWei.alloc {w wx : World} {gb n c : Nat} {rows : List (List Int)} (h : AtWei w wx gb n c rows) (o : Obj) : AtWei w (wx.alloc o) gb n c rows := h.below ((Below.refl _ _).alloc (Nat.le_refl _) o)

theorem AtWei.setCell {w wx : World} {gb n c : Nat} {rows : List (List Int)} (h : AtWei w wx gb n c rows) {p : Addr} (hp : p.block ≠ gb) (hl : w.heap.size ≤ p.block) (v : Value) : AtWei w (wx.setCell p v) gb n c rows := by
 refine ⟨?_, h.bel.setCell hl v, h.lo, by simpa [World.setCell] using h.hi⟩
 obtain ⟨h0, h1, h2⟩ := h.own
 refine ⟨h0, h1, ?_⟩
 rcases h2 with h2 | ⟨g, c', cur, hv, hg, hh, r⟩
 ·exact .inl h2
 ·refine .inr ⟨g, c', cur, hv, hg, ?_, r⟩
  simp only [Value.slice.injEq, Option.some.injEq, Addr.mk.injEq] at hv
  rw [Below.heap_setCell _ _ _ _ (fun e => hp (by rw [hv.1.1]; exact e.symm)), hh]

theorem AtWei.fill {w wx : World} {gb n c : Nat} {rows : List (List Int)} (h : AtWei w wx gb n c rows) (g : Nat) (hg : g ≠ gb) (hl : w.heap.size ≤ g) (v0 v1 v2 v3 v4 v5 v6 v7 : Value) :
  AtWei w ((((((((wx.setCell ⟨g, 0, none⟩ v0).setCell ⟨g, 1, none⟩ v1).setCell ⟨g, 2, none⟩ v2).setCell ⟨g, 3, none⟩ v3).setCell ⟨g, 4, none⟩ v4).setCell ⟨g, 5, none⟩ v5).setCell ⟨g, 6, none⟩ v6).setCell ⟨g, 7, none⟩ v7) gb n c rows :=
 (((((((h.setCell (p := ⟨g, 0, none⟩) hg hl v0).setCell (p := ⟨g, 1, none⟩) hg hl v1).setCell (p := ⟨g, 2, none⟩) hg hl v2).setCell (p := ⟨g, 3, none⟩) hg hl v3).setCell (p := ⟨g, 4, none⟩) hg hl v4).setCell (p := ⟨g, 5, none⟩) hg hl v5).setCell (p := ⟨g, 6, none⟩) hg hl v6).setCell (p := ⟨g, 7, none⟩) hg hl v7

/-- A row is stored. -/
theorem AtWei.store {w wx : World} {gb n c : Nat} {rows : List (List Int)} (h : AtWei w wx gb n c rows) (k : Nat) (hk : k < n) (r : List Int) (hr : r.length = 8) :
  AtWei w ((((((((wx.setCell ⟨gb, k * 8, none⟩ (.int .u8 (at8 r 0))).setCell ⟨gb, k * 8 + 1, none⟩ (.int .u8 (at8 r 1))).setCell ⟨gb, k * 8 + 2, none⟩ (.int .u8 (at8 r 2))).setCell ⟨gb, k * 8 + 3, none⟩ (.int .u8 (at8 r 3))).setCell ⟨gb, k * 8 + 4, none⟩ (.int .u8 (at8 r 4))).setCell ⟨gb, k * 8 + 5, none⟩ (.int .u8 (at8 r 5))).setCell ⟨gb, k * 8 + 6, none⟩ (.int .u8 (at8 r 6))).setCell ⟨gb, k * 8 + 7, none⟩ (.int .u8 (at8 r 7))) gb n c (rows.set k r) :=
 ⟨h.own.store k hk r hr, (((((((h.bel.setCell (p := ⟨gb, k * 8, none⟩) h.lo _).setCell (p := ⟨gb, k * 8 + 1, none⟩) h.lo _).setCell (p := ⟨gb, k * 8 + 2, none⟩) h.lo _).setCell (p := ⟨gb, k * 8 + 3, none⟩) h.lo _).setCell (p := ⟨gb, k * 8 + 4, none⟩) h.lo _).setCell (p := ⟨gb, k * 8 + 5, none⟩) h.lo _).setCell (p := ⟨gb, k * 8 + 6, none⟩) h.lo _).setCell (p := ⟨gb, k * 8 + 7, none⟩) h.lo _, h.lo, by have := h.hi; simpa [World.setCell] using this⟩

theorem AtWei.row {w wx : World} {gb n c : Nat} {rows : List (List Int)} (h : AtWei w wx gb n c rows) (k : Nat) (hk : k < n) : Cells8 wx gb (k * 8) (rowAt rows k) := h.own.cellAt k hk

/-- A row beside a row of another block that is stored. -/
theorem Row8.pastAt {w : World} {g : Nat} {k : IntKind} {l : List Int} (h : Row8 w g k l) (g2 o : Nat) (hg : g2 ≠ g) (v0 v1 v2 v3 v4 v5 v6 v7 : Value) :
  Row8 ((((((((w.setCell ⟨g2, o, none⟩ v0).setCell ⟨g2, o + 1, none⟩ v1).setCell ⟨g2, o + 2, none⟩ v2).setCell ⟨g2, o + 3, none⟩ v3).setCell ⟨g2, o + 4, none⟩ v4).setCell ⟨g2, o + 5, none⟩ v5).setCell ⟨g2, o + 6, none⟩ v6).setCell ⟨g2, o + 7, none⟩ v7) g k l :=
 (((((((h.setCell (p := ⟨g2, o, none⟩) hg v0).setCell (p := ⟨g2, o + 1, none⟩) hg v1).setCell (p := ⟨g2, o + 2, none⟩) hg v2).setCell (p := ⟨g2, o + 3, none⟩) hg v3).setCell (p := ⟨g2, o + 4, none⟩) hg v4).setCell (p := ⟨g2, o + 5, none⟩) hg v5).setCell (p := ⟨g2, o + 6, none⟩) hg v6).setCell (p := ⟨g2, o + 7, none⟩) hg v7

theorem AtWei.cap {w wx : World} {gb n c : Nat} {rows : List (List Int)} (h : AtWei w wx gb n c rows) : n ≤ c := by
 rcases h.own.2.2 with ⟨hv, h0⟩ | ⟨g, c', cur, hv, _, _, h1, _⟩
 ·omega
 ·simp only [Value.slice.injEq] at hv
  omega

/-- A part of the slice. -/
theorem AtWei.sub {w wx : World} {gb n c : Nat} {rows : List (List Int)} (h : AtWei w wx gb n c rows) (f j : Nat) (hf : f ≤ j) (hj : j ≤ n) : ReadsA wx (some ⟨gb, f * 8, none⟩) (j - f) ((rows.take j).drop f) := by
 have hl := h.own.len
 refine ⟨by simp; omega, fun r hr => h.own.rows r (List.mem_of_mem_take (List.mem_of_mem_drop hr)), .inr ⟨gb, f * 8, rfl, fun t ht i hi => ?_⟩⟩
 have h1 := h.row (f + t) (by omega) i hi
 rw [show f * 8 + t * 8 + i = (f + t) * 8 + i by omega, h1]
 congr 3
 simp [rowAt, List.getD, List.getElem?_drop, show f + t < j by omega]

end Go.Proofs.Ytpkhddndapcpjaa
