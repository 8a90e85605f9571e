/- Slices of slices of numbers whose rows have any capacity: how they lie in memory; the marks. -/
import Derived.Test.YtehcbamfendbaaaSbJnP
import Derived.Test.YtehcbamfendbaaaSbQA
namespace Go.Proofs.Ytehcbamfendbaaa
open Go.RowKit Go.ChangeShapes

theorem OwnP.own {B : Nat} {w : World} {a : Option Addr} {n : Nat} {xs : List Int} (h : OwnP B w a n xs) (hn : n ≠ 0) : ∃ c g, a = some ⟨g, 0, none⟩ ∧ B ≤ g ∧ Own B w a n c xs := by
 obtain ⟨hl, h | ⟨g, cur, rfl, hb, hh, e1, e2, e3⟩⟩ := h
 ·exact absurd h.1 hn
 ·refine ⟨cur.size, g, rfl, hb, ?_, .inr ⟨g, cur.size, cur, rfl, hb, hh, e1, e2, by omega, by rw [Nat.mul_one]; exact e3⟩⟩
  simp [hl]

/-- A row of a block of its own, whatever its capacity. -/
def OwnR (w : World) (x : RowV) : Prop := OwnP x.b w x.a x.n x.xs ∧ (x.n = 0 ∨ ∀ ad, x.a = some ad → ad.block = x.b)

theorem OwnR.below {w w' : World} {x : RowV} (h : OwnR w x) (k : Below w.heap.size w w') : OwnR w' x := ⟨h.1.below k, h.2⟩
theorem OwnR.wrote {l r : Nat} {w w' : World} {x : RowV} (h : OwnR w x) (k : Wrote l r w w') (hd : x.n = 0 ∨ x.b < l ∨ r ≤ x.b) : OwnR w' x := by
 refine ⟨?_, h.2⟩
 by_cases hn : x.n = 0
 ·obtain ⟨hl, _⟩ := h.1
  exact ⟨hl, .inl ⟨hn, List.eq_nil_of_length_eq_zero (by omega)⟩⟩
 ·refine h.1.heap fun g _ ha hl => k.block g hl ?_
  cases hx : x.a with
  | none => rw [hx] at ha; cases ha
  | some ad =>
   rw [hx] at ha
   simp at ha
   have := (h.2.resolve_left hn) ad hx
   omega

/-- The slice of slices is the call's own, in blocks from lo to hi - 1; no two of its rows share a block. -/
def OwnSP (lo hi : Nat) (w : World) (ad : Option Addr) (m : Nat) (rs : List RowV) : Prop :=
 rs.length = m ∧ (m = 0 ∨ ∃ g off, ad = some ⟨g, off, none⟩ ∧ lo ≤ g ∧ g < hi ∧ (∀ x ∈ rs, x.b ≠ g) ∧ ∀ j (h : j < rs.length), w.cell? ⟨g, off + j, none⟩ = some (.slice rs[j].a rs[j].n rs[j].cap)) ∧
 (∀ x ∈ rs, OwnR w x ∧ x.n ≤ 1048576 ∧ (x.n = 0 ∨ (lo ≤ x.b ∧ x.b < hi))) ∧
 ∀ i j (hi : i < rs.length) (hj : j < rs.length), i ≠ j → rs[i].b ≠ rs[j].b

theorem OwnSP.reads {lo hi : Nat} {w : World} {ad : Option Addr} {m : Nat} {rs : List RowV} (h : OwnSP lo hi w ad m rs) : ReadsSS w ad m rs := by
 refine ⟨h.1, ?_, fun x hx => ⟨(h.2.2.1 x hx).1.1.reads, (h.2.2.1 x hx).2.1⟩⟩
 rcases h.2.1 with h0 | ⟨g, off, ha, _, _, _, hc⟩
 ·exact .inl h0
 ·exact .inr ⟨g, off, ha, hc⟩

theorem OwnSP.below {lo hi : Nat} {w w' : World} {ad : Option Addr} {m : Nat} {rs : List RowV} (h : OwnSP lo hi w ad m rs) (k : Below w.heap.size w w') : OwnSP lo hi w' ad m rs := by
 refine ⟨h.1, ?_, fun x hx => ⟨(h.2.2.1 x hx).1.below k, (h.2.2.1 x hx).2⟩, h.2.2.2⟩
 rcases h.2.1 with h0 | ⟨g, off, ha, h1, h2, h3, hc⟩
 ·exact .inl h0
 ·exact .inr ⟨g, off, ha, h1, h2, h3, fun j hj => (k.cell (World.block_lt_of_cell? _ _ (hc j hj))).trans (hc j hj)⟩

theorem OwnSP.alloc {lo hi : Nat} {w : World} {ad : Option Addr} {m : Nat} {rs : List RowV} (h : OwnSP lo hi w ad m rs) (o : Obj) : OwnSP lo hi (w.alloc o) ad m rs := h.below ((Below.refl _ _).alloc (Nat.le_refl _) o)

/-- Another interval of blocks is written. -/
theorem OwnSP.wrote {lo hi l r : Nat} {w w' : World} {ad : Option Addr} {m : Nat} {rs : List RowV} (h : OwnSP lo hi w ad m rs) (k : Wrote l r w w') (hd : hi ≤ l ∨ r ≤ lo) : OwnSP lo hi w' ad m rs := by
 refine ⟨h.1, ?_, fun x hx => ⟨?_, (h.2.2.1 x hx).2⟩, h.2.2.2⟩
 ·rcases h.2.1 with h0 | ⟨g, off, ha, h1, h2, h3, hc⟩
  ·exact .inl h0
  ·exact .inr ⟨g, off, ha, h1, h2, h3, fun j hj => (World.cell?_of_block (w := w) (a := ⟨g, off + j, none⟩) (k.block g (World.block_lt_of_cell? _ _ (hc j hj)) (by omega))).trans (hc j hj)⟩
 ·obtain ⟨h1, _, h3⟩ := h.2.2.1 x hx
  rcases h3 with h3 | ⟨h4, h5⟩
  ·exact h1.wrote k (.inl h3)
  ·exact h1.wrote k (.inr (by omega))

/-- One row is written. -/
theorem OwnSP.row {lo hi : Nat} {w w' : World} {ad : Option Addr} {m : Nat} {rs : List RowV} (h : OwnSP lo hi w ad m rs) (i : Nat) (hi' : i < rs.length) (ys : List Int) (ho : OwnP rs[i].b w' rs[i].a rs[i].n ys) (k : w.grownBy w' (if rs[i].n = 0 then none else rs[i].a.map (·.block))) :
  OwnSP lo hi w' ad m (rs.set i { rs[i] with xs := ys }) ∧ Wrote lo hi w w' := by
 obtain ⟨h1, h2, h3, h4⟩ := h
 obtain ⟨x1, x2, x3⟩ := h3 _ (List.getElem_mem hi')
 have hk : Wrote rs[i].b (rs[i].b + 1) w w' := by
  by_cases hn : rs[i].n = 0
  ·rw [if_pos hn] at k
   exact wrote_none k
  ·rw [if_neg hn] at k
   refine ⟨k.os, k.tape, k.output, k.size, fun j hj hd => k.block j hj (fun e => ?_)⟩
   cases hx : rs[i].a with
   | none => rw [hx] at e; cases e
   | some ad =>
    rw [hx] at e
    simp at e
    have := (x1.2.resolve_left hn) ad hx
    omega
 have hw : Wrote lo hi w w' := by
  rcases x3 with x3 | ⟨x4, x5⟩
  ·rw [if_pos x3] at k
   exact wrote_none k
  ·exact wrote_wide hk ⟨x4, by omega⟩
 refine ⟨⟨by rw [List.length_set]; exact h1, ?_, ?_, ?_⟩, hw⟩
 ·rcases h2 with h0 | ⟨g, off, ha, g1, g2, g3, hc⟩
  ·exact .inl h0
  ·refine .inr ⟨g, off, ha, g1, g2, fun x hx => ?_, fun j hj => ?_⟩
   ·rcases List.mem_or_eq_of_mem_set hx with hx | hx
    ·exact g3 x hx
    ·rw [hx]
     show rs[i].b ≠ g
     exact g3 rs[i] (List.getElem_mem hi')
   ·have hj2 : j < rs.length := by simpa using hj
    have hne : g ≠ rs[i].b := fun e => g3 _ (List.getElem_mem hi') e.symm
    refine ((World.cell?_of_block (w := w) (a := ⟨g, off + j, none⟩) (hk.block g (World.block_lt_of_cell? _ _ (hc j hj2)) (by omega))).trans (hc j hj2)).trans ?_
    rw [List.getElem_set]
    by_cases e : i = j
    ·subst e; rw [if_pos rfl]
    ·rw [if_neg e]
 ·intro x hx
  obtain ⟨j, hj, rfl⟩ := List.getElem_of_mem hx
  have hj2 : j < rs.length := by simpa using hj
  rw [List.getElem_set]
  by_cases e : i = j
  ·subst e
   rw [if_pos rfl]
   exact ⟨⟨ho, x1.2⟩, x2, x3⟩
  ·rw [if_neg e]
   obtain ⟨y1, y2, y3⟩ := h3 _ (List.getElem_mem hj2)
   have hne := h4 i j hi' hj2 e
   exact ⟨y1.wrote hk (.inr (by omega)), y2, y3⟩
 ·intro j1 j2 g1 g2 hne
  have g1' : j1 < rs.length := by simpa using g1
  have g2' : j2 < rs.length := by simpa using g2
  have e1 : (rs.set i { rs[i] with xs := ys })[j1].b = rs[j1].b := by
   rw [List.getElem_set]
   by_cases e : i = j1
   ·subst e; rw [if_pos rfl]
   ·rw [if_neg e]
  have e2 : (rs.set i { rs[i] with xs := ys })[j2].b = rs[j2].b := by
   rw [List.getElem_set]
   by_cases e : i = j2
   ·subst e; rw [if_pos rfl]
   ·rw [if_neg e]
  rw [e1, e2]
  exact h4 j1 j2 g1' g2' hne

end Go.Proofs.Ytehcbamfendbaaa

