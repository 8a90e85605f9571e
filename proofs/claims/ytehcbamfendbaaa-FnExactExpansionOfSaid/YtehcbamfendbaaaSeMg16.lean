/- Merged texts. -/
import Derived.Test.YtehcbamfendbaaaSeJnP
import Derived.Test.YtehcbamfendbaaaSeQA
import Derived.Test.YtehcbamfendbaaaSePip
import Derived.Test.YtehcbamfendbaaaSeSIm
import Derived.Test.YtehcbamfendbaaaSeFreP
import Derived.Test.YtehcbamfendbaaaSeMg15
import Derived.Deep.RegionHeld3
import Derived.Test.YtehcbamfendbaaaSeMg19
import Derived.Test.YtehcbamfendbaaaSeLstF

/- Slices of slices of numbers whose rows have any capacity: how they lie in memory; the marks. -/
namespace Go.Proofs.Ytehcbamfendbaaa
open Go.RowKit Go.ChangeShapes

theorem OwnP.own {B : Nat} {w : World} {a : Option Addr} {n : Nat} {xs : List Int} (h : OwnP B w a n xs) (hn : n ≠ 0) : ∃ c g, a = some ⟨g, 0, none⟩ ∧ B ≤ g ∧ Own B w a n c xs := by
 obtain ⟨hl, h | ⟨g, cur, rfl, hb, hh, e1, e2, e3⟩⟩ := h
 ·exact absurd h.1 hn
 ·refine ⟨cur.size, g, rfl, hb, ?_, .inr ⟨g, cur.size, cur, rfl, hb, hh, e1, e2, by omega, by rw [Nat.mul_one]; exact e3⟩⟩
  simp [hl]

/-- A row of a block of its own, whatever its capacity. -/
def OwnR (w : World) (x : RowV) : Prop := OwnP x.b w x.a x.n x.xs ∧ (x.n = 0 ∨ ∀ ad, x.a = some ad → ad.block = x.b)

theorem OwnR.below {w w' : World} {x : RowV} (h : OwnR w x) (k : Below w.heap.size w w') : OwnR w' x := ⟨h.1.below k, h.2⟩
theorem OwnR.wrote {l r : Nat} {w w' : World} {x : RowV} (h : OwnR w x) (k : Wrote l r w w') (hd : x.n = 0 ∨ x.b < l ∨ r ≤ x.b) : OwnR w' x := by
 refine ⟨?_, h.2⟩
 by_cases hn : x.n = 0
 ·obtain ⟨hl, _⟩ := h.1
  exact ⟨hl, .inl ⟨hn, List.eq_nil_of_length_eq_zero (by omega)⟩⟩
 ·refine h.1.heap fun g _ ha hl => k.block g hl ?_
  cases hx : x.a with
  | none => rw [hx] at ha; cases ha
  | some ad =>
   rw [hx] at ha
   simp at ha
   have := (h.2.resolve_left hn) ad hx
   omega

/-- The slice of slices is the call's own, in blocks from lo to hi - 1; no two of its rows share a block. -/
def OwnSP (lo hi : Nat) (w : World) (ad : Option Addr) (m : Nat) (rs : List RowV) : Prop :=
 rs.length = m ∧ (m = 0 ∨ ∃ g off, ad = some ⟨g, off, none⟩ ∧ lo ≤ g ∧ g < hi ∧ (∀ x ∈ rs, x.b ≠ g) ∧ ∀ j (h : j < rs.length), w.cell? ⟨g, off + j, none⟩ = some (.slice rs[j].a rs[j].n rs[j].cap)) ∧
 (∀ x ∈ rs, OwnR w x ∧ x.n ≤ 1048576 ∧ (x.n = 0 ∨ (lo ≤ x.b ∧ x.b < hi))) ∧
 ∀ i j (hi : i < rs.length) (hj : j < rs.length), i ≠ j → rs[i].b ≠ rs[j].b

theorem OwnSP.reads {lo hi : Nat} {w : World} {ad : Option Addr} {m : Nat} {rs : List RowV} (h : OwnSP lo hi w ad m rs) : ReadsSS w ad m rs := by
 refine ⟨h.1, ?_, fun x hx => ⟨(h.2.2.1 x hx).1.1.reads, (h.2.2.1 x hx).2.1⟩⟩
 rcases h.2.1 with h0 | ⟨g, off, ha, _, _, _, hc⟩
 ·exact .inl h0
 ·exact .inr ⟨g, off, ha, hc⟩

theorem OwnSP.below {lo hi : Nat} {w w' : World} {ad : Option Addr} {m : Nat} {rs : List RowV} (h : OwnSP lo hi w ad m rs) (k : Below w.heap.size w w') : OwnSP lo hi w' ad m rs := by
 refine ⟨h.1, ?_, fun x hx => ⟨(h.2.2.1 x hx).1.below k, (h.2.2.1 x hx).2⟩, h.2.2.2⟩
 rcases h.2.1 with h0 | ⟨g, off, ha, h1, h2, h3, hc⟩
 ·exact .inl h0
 ·exact .inr ⟨g, off, ha, h1, h2, h3, fun j hj => (k.cell (World.block_lt_of_cell? _ _ (hc j hj))).trans (hc j hj)⟩

theorem OwnSP.alloc {lo hi : Nat} {w : World} {ad : Option Addr} {m : Nat} {rs : List RowV} (h : OwnSP lo hi w ad m rs) (o : Obj) : OwnSP lo hi (w.alloc o) ad m rs := h.below ((Below.refl _ _).alloc (Nat.le_refl _) o)

/-- Another interval of blocks is written. -/
theorem OwnSP.wrote {lo hi l r : Nat} {w w' : World} {ad : Option Addr} {m : Nat} {rs : List RowV} (h : OwnSP lo hi w ad m rs) (k : Wrote l r w w') (hd : hi ≤ l ∨ r ≤ lo) : OwnSP lo hi w' ad m rs := by
 refine ⟨h.1, ?_, fun x hx => ⟨?_, (h.2.2.1 x hx).2⟩, h.2.2.2⟩
 ·rcases h.2.1 with h0 | ⟨g, off, ha, h1, h2, h3, hc⟩
  ·exact .inl h0
  ·exact .inr ⟨g, off, ha, h1, h2, h3, fun j hj => (World.cell?_of_block (w := w) (a := ⟨g, off + j, none⟩) (k.block g (World.block_lt_of_cell? _ _ (hc j hj)) (by omega))).trans (hc j hj)⟩
 ·obtain ⟨h1, _, h3⟩ := h.2.2.1 x hx
  rcases h3 with h3 | ⟨h4, h5⟩
  ·exact h1.wrote k (.inl h3)
  ·exact h1.wrote k (.inr (by omega))

/-- One row is written. -/
theorem OwnSP.row {lo hi : Nat} {w w' : World} {ad : Option Addr} {m : Nat} {rs : List RowV} (h : OwnSP lo hi w ad m rs) (i : Nat) (hi' : i < rs.length) (ys : List Int) (ho : OwnP rs[i].b w' rs[i].a rs[i].n ys) (k : w.grownBy w' (if rs[i].n = 0 then none else rs[i].a.map (·.block))) :
  OwnSP lo hi w' ad m (rs.set i { rs[i] with xs := ys }) ∧ Wrote lo hi w w' := by
 obtain ⟨h1, h2, h3, h4⟩ := h
 obtain ⟨x1, x2, x3⟩ := h3 _ (List.getElem_mem hi')
 have hk : Wrote rs[i].b (rs[i].b + 1) w w' := by
  by_cases hn : rs[i].n = 0
  ·rw [if_pos hn] at k
   exact wrote_none k
  ·rw [if_neg hn] at k
   refine ⟨k.os, k.tape, k.output, k.size, fun j hj hd => k.block j hj (fun e => ?_)⟩
   cases hx : rs[i].a with
   | none => rw [hx] at e; cases e
   | some ad =>
    rw [hx] at e
    simp at e
    have := (x1.2.resolve_left hn) ad hx
    omega
 have hw : Wrote lo hi w w' := by
  rcases x3 with x3 | ⟨x4, x5⟩
  ·rw [if_pos x3] at k
   exact wrote_none k
  ·exact wrote_wide hk ⟨x4, by omega⟩
 refine ⟨⟨by rw [List.length_set]; exact h1, ?_, ?_, ?_⟩, hw⟩
 ·rcases h2 with h0 | ⟨g, off, ha, g1, g2, g3, hc⟩
  ·exact .inl h0
  ·refine .inr ⟨g, off, ha, g1, g2, fun x hx => ?_, fun j hj => ?_⟩
   ·rcases List.mem_or_eq_of_mem_set hx with hx | hx
    ·exact g3 x hx
    ·rw [hx]
     show rs[i].b ≠ g
     exact g3 rs[i] (List.getElem_mem hi')
   ·have hj2 : j < rs.length := by simpa using hj
    have hne : g ≠ rs[i].b := fun e => g3 _ (List.getElem_mem hi') e.symm
    refine ((World.cell?_of_block (w := w) (a := ⟨g, off + j, none⟩) (hk.block g (World.block_lt_of_cell? _ _ (hc j hj2)) (by omega))).trans (hc j hj2)).trans ?_
    rw [List.getElem_set]
    by_cases e : i = j
    ·subst e; rw [if_pos rfl]
    ·rw [if_neg e]
 ·intro x hx
  obtain ⟨j, hj, rfl⟩ := List.getElem_of_mem hx
  have hj2 : j < rs.length := by simpa using hj
  rw [List.getElem_set]
  by_cases e : i = j
  ·subst e
   rw [if_pos rfl]
   exact ⟨⟨ho, x1.2⟩, x2, x3⟩
  ·rw [if_neg e]
   obtain ⟨y1, y2, y3⟩ := h3 _ (List.getElem_mem hj2)
   have hne := h4 i j hi' hj2 e
   exact ⟨y1.wrote hk (.inr (by omega)), y2, y3⟩
 ·intro j1 j2 g1 g2 hne
  have g1' : j1 < rs.length := by simpa using g1
  have g2' : j2 < rs.length := by simpa using g2
  have e1 : (rs.set i { rs[i] with xs := ys })[j1].b = rs[j1].b := by
   rw [List.getElem_set]
   by_cases e : i = j1
   ·subst e; rw [if_pos rfl]
   ·rw [if_neg e]
  have e2 : (rs.set i { rs[i] with xs := ys })[j2].b = rs[j2].b := by
   rw [List.getElem_set]
   by_cases e : i = j2
   ·subst e; rw [if_pos rfl]
   ·rw [if_neg e]
  rw [e1, e2]
  exact h4 j1 j2 g1' g2' hne

end Go.Proofs.Ytehcbamfendbaaa

/- Merged texts. -/

/- Images of braids: the program. -/
namespace Go.Proofs.Ytehcbamfendbaaa
open Go.RowKit Go.ChangeShapes

theorem OwnF.below {B : Nat} {w w' : World} {v : Value} {n : Nat} {ls : List Int} (h : OwnF B w v n ls) (k : Below w.heap.size w w') : OwnF B w' v n ls :=
 ownsRow_heap h fun j hj => k.block j (by have := World.ownsRow.lt h j hj; omega)

/-- The steps in memory, as passed wants them. -/
theorem OwnF.at {B : Nat} {w : World} {ga : Option Addr} {cs n : Nat} {ls : List Int} (ho : OwnF B w (.slice ga n cs) n ls) (hl : ls.length = n) : ∃ g, (n = 0 ∨ ga = some ⟨g, 0, none⟩) ∧ (n = 0 ∨ g < w.heap.size) ∧ (n = 0 ∨ B ≤ g) ∧ ∀ j (h : j < ls.length), w.cell? ⟨g, j, none⟩ = some (stepV ls[j]) := by
 rcases Nat.eq_zero_or_pos n with h0 | h0
 ·exact ⟨0, .inl h0, .inl h0, .inl h0, fun j hj => by omega⟩
 ·rcases ho.2 with ⟨hv, h1⟩ | ⟨g, c, cur, hv, hB, hh, _⟩
  ·omega
  ·obtain ⟨rfl, _, rfl⟩ := Value.slice.injEq .. ▸ hv
   refine ⟨g, .inr rfl, .inr (Array.getElem?_eq_some_iff.1 hh).1, .inr hB, fun j hj => ?_⟩
   have := World.ownsRow.cellAt ho j (by omega)
   rw [this]
   simp [hj]

end Go.Proofs.Ytehcbamfendbaaa

/- The comb of a braid: the program. -/
namespace Go.Proofs.Ytehcbamfendbaaa
open Go.RowKit Go.ChangeShapes

theorem OwnR.setg {w : World} {x : RowV} (h : OwnR w x) {g i : Nat} (hg : g < x.b) (u : Value) : OwnR (w.setCell ⟨g, i, none⟩ u) x :=
 ⟨h.1.heap fun u1 h1 _ _ => Below.heap_setCell w ⟨g, i, none⟩ _ u1 (by show u1 ≠ g; omega), h.2⟩

theorem ownP_block {lo : Nat} {w : World} {a : Option Addr} {n c : Nat} {xs : List Int} (h : OwnP lo w a n xs) (hz : lo < w.heap.size) : ∃ b, lo ≤ b ∧ b < w.heap.size ∧ OwnR w ⟨b, a, n, c, xs⟩ := by
 by_cases hn : n = 0
 ·subst hn
  have hx := h.nilOf
  exact ⟨lo, Nat.le_refl _, hz, ⟨by rw [hx]; rfl, .inl ⟨rfl, hx⟩⟩, .inl rfl⟩
 ·obtain ⟨hl, h0 | ⟨g, cur, ha, hg, hh, e⟩⟩ := h
  ·exact absurd h0.1 hn
  ·exact ⟨g, hg, (Array.getElem?_eq_some_iff.1 hh).1, ⟨hl, .inr ⟨g, cur, ha, Nat.le_refl _, hh, e⟩⟩, .inr fun ad h2 => by
    rw [show a = _ from ha] at h2
    cases h2
    rfl⟩

/-- A slice of M rows that was made, of which the first k have been stored. -/
structure FillSP (B : Nat) (w : World) (g M k : Nat) (rs : List RowV) : Prop where
 own : w.ownsRow B 22 1 (.slice (some ⟨g, 0, none⟩) M M) M (rs.map RowV.val ++ List.replicate (M - k) (.slice none 0 0))
 len : rs.length = k
 le : k ≤ M
 row : ∀ x ∈ rs, OwnR w x ∧ x.n ≤ 1048576 ∧ g < x.b ∧ x.b < w.heap.size
 dif : ∀ i j (hi : i < rs.length) (hj : j < rs.length), i ≠ j → rs[i].b ≠ rs[j].b

theorem FillSP.lt {B : Nat} {w : World} {g M k : Nat} {rs : List RowV} (h : FillSP B w g M k rs) : B ≤ g ∧ g < w.heap.size := World.ownsRow.lt h.own g rfl

theorem FillSP.below {B : Nat} {w w' : World} {g M k : Nat} {rs : List RowV} (h : FillSP B w g M k rs) (hb : Below w.heap.size w w') : FillSP B w' g M k rs :=
 ⟨ownsRow_heap h.own fun j hj => hb.block j (by have := World.ownsRow.lt h.own j hj; omega), h.len, h.le, fun x hx => ⟨(h.row x hx).1.below hb, (h.row x hx).2.1, (h.row x hx).2.2.1, Nat.lt_of_lt_of_le (h.row x hx).2.2.2 hb.size⟩, h.dif⟩

/-- The next row is stored. -/
theorem FillSP.store {B b j cap : Nat} {w : World} {g M k : Nat} {rs : List RowV} {a : Option Addr} {xs : List Int} (h : FillSP B w g M k rs) (hk : k < M) (ho : OwnR w ⟨b, a, j, cap, xs⟩) (hj : j ≤ 1048576) (hb1 : g < b) (hb2 : b < w.heap.size) (hg : ∀ x ∈ rs, x.b < b) :
  FillSP B (w.setCell ⟨g, k, none⟩ (.slice a j cap)) g M (k + 1) (rs ++ [⟨b, a, j, cap, xs⟩]) := by
 obtain ⟨h1, h2⟩ := World.ownsRow.stored h.own k (.slice a j cap)
 have hl := h.len
 have e : (rs.map RowV.val ++ List.replicate (M - k) (Value.slice none 0 0)).set k (Value.slice a j cap) = (rs ++ [(⟨b, a, j, cap, xs⟩ : RowV)]).map RowV.val ++ List.replicate (M - (k + 1)) (Value.slice none 0 0) := by
  obtain ⟨q, hq⟩ : ∃ q, M - k = q + 1 := ⟨M - k - 1, by omega⟩
  rw [hq, show M - (k + 1) = q by omega, List.replicate_succ, List.map_append, List.set_append, if_neg (by simp; omega)]
  simp [hl, RowV.val]
 rw [e] at h1
 have kept : ∀ (u : Nat), u ≠ g → (w.setCell ⟨g, k, none⟩ (.slice a j cap)).heap[u]? = w.heap[u]? := fun u hu => Below.heap_setCell w ⟨g, k, none⟩ _ u hu
 have hsz : (w.setCell ⟨g, k, none⟩ (.slice a j cap)).heap.size = w.heap.size := by simp [World.setCell]
 refine ⟨h1, by simp [hl], by omega, fun x hx => ?_, fun i u hi hu hne => ?_⟩
 ·rcases List.mem_append.1 hx with hx | hx
  ·obtain ⟨r1, r2, r3, r4⟩ := h.row x hx
   exact ⟨r1.setg (by omega) _, r2, r3, by rw [hsz]; exact r4⟩
  ·simp only [List.mem_singleton] at hx
   subst hx
   exact ⟨ho.setg (by omega) _, hj, hb1, by rw [hsz]; exact hb2⟩
 ·simp only [List.length_append, List.length_singleton] at hi hu
  rw [List.getElem_append, List.getElem_append]
  by_cases e1 : i < rs.length
  ·by_cases e2 : u < rs.length
   ·rw [dif_pos e1, dif_pos e2]
    exact h.dif i u e1 e2 hne
   ·rw [dif_pos e1, dif_neg e2]
    have := hg _ (List.getElem_mem e1)
    simp only [List.getElem_singleton]
    omega
  ·by_cases e2 : u < rs.length
   ·rw [dif_neg e1, dif_pos e2]
    have := hg _ (List.getElem_mem e2)
    simp only [List.getElem_singleton]
    omega
   ·omega

theorem fillP_made {B : Nat} {w : World} {n : Nat} (h : w.ownsRow B 22 1 (.slice (some ⟨B, 0, none⟩) n n) n (madeCells #[Value.slice none 0 0] n).toList) : FillSP B w B n 0 [] := by
 rw [toList_madeCells_one] at h
 exact ⟨by simpa using h, rfl, Nat.zero_le _, fun x hx => (by cases hx), fun i j hi => (by cases hi)⟩

theorem FillSP.own_ss {B : Nat} {w : World} {g M : Nat} {rs : List RowV} (h : FillSP B w g M M rs) : OwnSP B w.heap.size w (some ⟨g, 0, none⟩) M rs := by
 refine ⟨h.len, ?_, fun x hx => ⟨(h.row x hx).1, (h.row x hx).2.1, .inr ⟨by have := h.lt; have := (h.row x hx).2.2.1; omega, (h.row x hx).2.2.2⟩⟩, h.dif⟩
 right
 refine ⟨g, 0, rfl, h.lt.1, h.lt.2, fun x hx => by have := (h.row x hx).2.2.1; omega, fun j hj => ?_⟩
 have h1 := World.ownsRow.cellAt h.own j (by have := h.own.1; have := h.len; omega)
 rw [Nat.zero_add]
 refine h1.trans ?_
 rw [List.getElem?_append_left (by simpa using hj)]
 simp [hj, RowV.val]

/-- What combOf gives. -/
def RetSSP (w : World) (ls : List (List Int)) (c : Int) (e : Ending) (w' : World) : Prop :=
 ∃ a m cap rs, e = .returned (.tuple #[.slice a m cap, .int .i64 c]) ∧ rs.map RowV.xs = ls ∧ (∀ x ∈ rs, x.n ≤ 400) ∧ OwnSP w.heap.size w'.heap.size w' a m rs ∧ Below w.heap.size w w'

end Go.Proofs.Ytehcbamfendbaaa
