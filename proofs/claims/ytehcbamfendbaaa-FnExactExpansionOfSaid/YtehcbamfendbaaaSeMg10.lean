/- Merged texts. -/
import Derived.Test.YtehcbamfendbaaaSeCmbP
import Derived.Test.YtehcbamfendbaaaSeMg19
import Derived.Test.YtehcbamfendbaaaSeSFor

/- Expansions of free words as matrices. No program is spoken of. -/
namespace Go.Proofs.Ytehcbamfendbaaa

/-- The sums of the letters' counts, and the matrix. -/
structure Xp where
 F : Nat → Int
 G : Nat → Nat → Int

/-- The matrix when the rows below y are done, for a letter with the place q and the count c. -/
def xpG (x : Xp) (q : Nat) (c : Int) (y : Nat) (a b : Nat) : Int := if b = q ∧ a < y then x.G a q + c * x.F a else x.G a b
/-- .. and with what a negative letter puts at its own place, where its row is done. -/
def xpN (x : Xp) (q : Nat) (c : Int) (y : Nat) (a b : Nat) : Int := xpG x q c y a b + (if a = q ∧ b = q ∧ q < y ∧ c < 0 then 1 else 0)
def xpF (x : Xp) (q : Nat) (c : Int) (b : Nat) : Int := if b = q then x.F q + c else x.F b

/-- One letter more. -/
def xpS (j : Nat) (x : Xp) (l : Int) : Xp := ⟨xpF x (idx l - 1).toNat (cnt l), xpN x (idx l - 1).toNat (cnt l) j⟩

/-- All letters. -/
def xpW (j : Nat) (ls : List Int) : Xp := ls.foldl (xpS j) ⟨fun _ => 0, fun _ _ => 0⟩

theorem xpW_step (j : Nat) (ls : List Int) (k : Nat) (h : k < ls.length) : xpW j (ls.take (k + 1)) = xpS j (xpW j (ls.take k)) (ls.getD k 0) := by
 unfold xpW
 rw [take_snoc ls k h, List.foldl_append]
 rfl

/-- Rows of a function. -/
def rowX (j : Nat) (f : Nat → Int) : List Int := (List.range j).map f
def matX (j : Nat) (g : Nat → Nat → Int) : List (List Int) := (List.range j).map fun a => rowX j (g a)

theorem rowX_len (j : Nat) (f : Nat → Int) : (rowX j f).length = j := by simp [rowX]
theorem matX_len (j : Nat) (g : Nat → Nat → Int) : (matX j g).length = j := by simp [matX]
theorem rowX_at (j : Nat) (f : Nat → Int) (b : Nat) (h : b < j) : (rowX j f).getD b 0 = f b := by simp [rowX, List.getD, h]

theorem rowX_set (j : Nat) (f f' : Nat → Int) (q : Nat) (v : Int) (hv : f' q = v) (hf : ∀ b, b ≠ q → f' b = f b) : (rowX j f).set q v = rowX j f' := by
 apply List.ext_getElem
 ·simp [rowX]
 ·intro b h1 h2
  rw [List.getElem_set]
  simp only [rowX, List.getElem_map, List.getElem_range]
  by_cases e : q = b
  ·subst e; rw [if_pos rfl, hv]
  ·rw [if_neg e, hf b (fun h => e h.symm)]

theorem matX_set (j : Nat) (g g' : Nat → Nat → Int) (a : Nat) (r : List Int) (hr : r = rowX j (g' a)) (hg : ∀ i, i ≠ a → rowX j (g' i) = rowX j (g i)) : (matX j g).set a r = matX j g' := by
 apply List.ext_getElem
 ·simp [matX]
 ·intro i h1 h2
  rw [List.getElem_set]
  simp only [matX, List.getElem_map, List.getElem_range]
  by_cases e : a = i
  ·subst e; rw [if_pos rfl, hr]
  ·rw [if_neg e, hg i (fun h => e h.symm)]

theorem rowX_zero (j : Nat) : rowX j (fun _ => 0) = List.replicate j 0 := by
 apply List.ext_getElem
 ·simp [rowX]
 ·intro b h1 h2
  simp [rowX]

/-- What stays small. -/
def XpB (_j k : Nat) (x : Xp) : Prop := (∀ b, -(k : Int) ≤ x.F b ∧ x.F b ≤ k) ∧ ∀ a b, -((k : Int) * k) ≤ x.G a b ∧ x.G a b ≤ (k : Int) * k

theorem xpW_bd (j : Nat) (ls : List Int) : XpB j ls.length (xpW j ls) := by
 suffices h : ∀ k, k ≤ ls.length → XpB j k (xpW j (ls.take k)) by
  have := h ls.length (Nat.le_refl _)
  rwa [List.take_of_length_le (Nat.le_refl _)] at this
 intro k
 induction k with
 | zero => intro _; exact ⟨fun b => by simp [xpW], fun a b => by simp [xpW]⟩
 | succ k ih =>
  intro hk
  rw [xpW_step j ls k (by omega)]
  obtain ⟨h1, h2⟩ := ih (by omega)
  obtain ⟨x, hx⟩ : ∃ x, x = xpW j (ls.take k) := ⟨_, rfl⟩
  rw [← hx] at h1 h2 ⊢
  obtain ⟨l, hl⟩ : ∃ l, l = ls.getD k 0 := ⟨_, rfl⟩
  rw [← hl]
  have hc : cnt l = -1 ∨ cnt l = 1 := by unfold cnt; split <;> simp
  have hsq : ((k + 1 : Nat) : Int) * ((k + 1 : Nat) : Int) = (k : Int) * k + 2 * k + 1 := by
   rw [Int.natCast_add, Int.add_mul, Int.mul_add]; simp; omega
  refine ⟨fun b => ?_, fun a b => ?_⟩
  ·show -((k + 1 : Nat) : Int) ≤ xpF x _ (cnt l) b ∧ xpF x _ (cnt l) b ≤ ((k + 1 : Nat) : Int)
   unfold xpF
   have e1 := h1 (idx l - 1).toNat
   have e2 := h1 b
   split <;> omega
  ·show -(((k + 1 : Nat) : Int) * ((k + 1 : Nat) : Int)) ≤ xpN x _ (cnt l) j a b ∧ xpN x _ (cnt l) j a b ≤ ((k + 1 : Nat) : Int) * ((k + 1 : Nat) : Int)
   rw [hsq]
   unfold xpN xpG
   have e1 := h1 a
   have e2 := h2 a b
   have e3 := h2 a (idx l - 1).toNat
   obtain ⟨K, hK⟩ : ∃ K : Int, K = (k : Int) * k := ⟨_, rfl⟩
   rw [← hK] at e2 e3 ⊢
   rcases hc with hc | hc
   ·rw [hc, show (-1 : Int) * x.F a = -(x.F a) by omega]
    split <;> split <;> omega
   ·rw [hc, Int.one_mul]
    split <;> split <;> omega

end Go.Proofs.Ytehcbamfendbaaa

/- Expansions: the model. -/
namespace Go.Proofs.Ytehcbamfendbaaa
open Go.RowKit Go.ChangeShapes

theorem GrowSS.emptyX (w : World) (g : Nat) (hg : w.heap.size = g) : GrowSS g (w.alloc (.cells #[] 22)) (.slice (some ⟨g, 0, none⟩) 0 0) 0 [] := by
 subst hg
 exact GrowSS.empty w

theorem GrowSS.setRowX {B : Nat} {w w' : World} {v : Value} {m : Nat} {rs : List RowV} (h : GrowSS B w v m rs) (i : Nat) (hi' : i < rs.length) (ys : List Int) (ho : Own rs[i].b w' rs[i].a rs[i].n rs[i].cap ys) (k : w.grownBy w' (rs[i].a.map (·.block))) :
  GrowSS B w' v m (rs.set i { rs[i] with xs := ys }) ∧ Wrote B w.heap.size w w' := by
 obtain ⟨h1, h2, h3, h4⟩ := h
 obtain ⟨x1, x2, x3, x4⟩ := h2 _ (List.getElem_mem hi')
 have hk : Wrote rs[i].b (rs[i].b + 1) w w' := x1.writes k
 have hw : Wrote B w.heap.size w w' := wrote_wide hk ⟨x3, by omega⟩
 have hb : ∀ j (hj : j < (rs.set i { rs[i] with xs := ys }).length), (rs.set i { rs[i] with xs := ys })[j].b = (rs[j]'(by simpa using hj)).b := by
  intro j hj
  rw [List.getElem_set]
  by_cases e : i = j
  ·subst e; rw [if_pos rfl]
  ·rw [if_neg e]
 refine ⟨⟨?_, ?_, ?_, ?_⟩, hw⟩
 ·have e : (rs.set i { rs[i] with xs := ys }).map RowV.val = rs.map RowV.val := by
   rw [List.map_set]
   have : RowV.val { rs[i] with xs := ys } = (rs.map RowV.val)[i]'(by simpa using hi') := by rw [List.getElem_map]; rfl
   rw [this, List.set_getElem_self]
  rw [e]
  refine ownsRow_heap h1 (fun j hj => hk.block j ?_ ?_)
  ·exact World.ownsRow.lt h1 j hj |>.2
  ·have := h4 _ (List.getElem_mem hi')
   have hne : j ≠ rs[i].b := fun e => this (by rw [hj, e])
   omega
 ·intro x hx
  obtain ⟨j, hj, rfl⟩ := List.getElem_of_mem hx
  have hj2 : j < rs.length := by simpa using hj
  rw [List.getElem_set]
  by_cases e : i = j
  ·subst e
   rw [if_pos rfl]
   exact ⟨⟨ho, x1.2⟩, x2, x3, Nat.lt_of_lt_of_le x4 hk.size⟩
  ·rw [if_neg e]
   obtain ⟨y1, y2, y3, y4⟩ := h2 _ (List.getElem_mem hj2)
   have hne := h3 i j hi' hj2 e
   exact ⟨y1.wrote hk (by omega), y2, y3, Nat.lt_of_lt_of_le y4 hk.size⟩
 ·intro j1 j2 g1 g2 hne
  rw [hb j1 g1, hb j2 g2]
  exact h3 j1 j2 (by simpa using g1) (by simpa using g2) hne
 ·intro x hx
  obtain ⟨j, hj, rfl⟩ := List.getElem_of_mem hx
  rw [hb j hj]
  exact h4 _ (List.getElem_mem (by simpa using hj))

/-- A number is stored in a row. -/
theorem GrowSS.cell {B j : Nat} {w : World} {v : Value} {m : Nat} {rs : List RowV} {g : Nat → Nat → Int} (h : GrowSS B w v m rs) (hx : rs.map RowV.xs = matX j g) (a q : Nat) (ha : a < m) (hq : q < j) (hm : m = j) :
  ∃ (hi : a < rs.length) (rb : Nat), rs[a].a = some ⟨rb, 0, none⟩ ∧ rs[a].n = j ∧ B ≤ rb ∧ rb < w.heap.size ∧ w.cell? ⟨rb, q, none⟩ = some (.int .i64 (g a q)) ∧ w.frozen? ⟨rb, q, none⟩ = false ∧
   ∀ (u : Int) (g' : Nat → Nat → Int), g' a q = u → (∀ b, b ≠ q → g' a b = g a b) → (∀ i b, i ≠ a → g' i b = g i b) →
    ∃ rs', rs'.map RowV.xs = matX j g' ∧ GrowSS B (w.setCell ⟨rb, q, none⟩ (.int .i64 u)) v m rs' ∧ rs'.map RowV.val = rs.map RowV.val ∧ Wrote B w.heap.size w (w.setCell ⟨rb, q, none⟩ (.int .i64 u)) := by
 have hl := h.len
 have hi : a < rs.length := by omega
 obtain ⟨x1, x2, x3, x4⟩ := h.row _ (List.getElem_mem hi)
 have hxs : rs[a].xs = rowX j (g a) := by
  have e2 : (rs.map RowV.xs)[a]? = some (rowX j (g a)) := by rw [hx]; simp [matX, show a < j by omega]
  rw [List.getElem?_map, List.getElem?_eq_getElem hi, Option.map_some] at e2
  exact Option.some.inj e2
 have hn : rs[a].n = j := by rw [← x1.1.len, hxs, rowX_len]
 obtain ⟨rb, hrb, hrb1, hrb2⟩ := x1.1.block (by omega)
 have ho := x1.1
 rw [hrb] at ho
 refine ⟨hi, rb, hrb, hn, by omega, hrb2, ?_, ho.frozenAt q, ?_⟩
 ·rw [ho.cellAt q (by omega), hxs, rowX_at j _ q hq]
 ·intro u g' h1 h2 h3
  obtain ⟨o1, o2⟩ := ho.store q u
  have hset : rs[a].xs.set q u = rowX j (g' a) := by rw [hxs]; exact rowX_set j _ _ q u h1 h2
  rw [hset] at o1
  obtain ⟨k1, k2⟩ := h.setRowX (w' := w.setCell ⟨rb, q, none⟩ (.int .i64 u)) a hi (rowX j (g' a)) (by rw [hrb]; exact o1) (by rw [hrb]; exact o2)
  refine ⟨_, ?_, k1, ?_, k2⟩
  ·rw [List.map_set, hx]
   exact matX_set j g g' a _ rfl (fun i hi => by rw [show g' i = g i from funext fun b => h3 i b hi])
  ·rw [List.map_set]
   have : RowV.val { rs[a] with xs := rowX j (g' a) } = (rs.map RowV.val)[a]'(by simpa using hi) := by rw [List.getElem_map]; rfl
   rw [this, List.set_getElem_self]

/-- What lies below is kept. -/
theorem Own.heap' {B L : Nat} {w w' : World} {g n cap : Nat} {xs : List Int} (h : Own B w (some ⟨g, 0, none⟩) n cap xs) (k : Below L w w') (hg : g < L) : Own B w' (some ⟨g, 0, none⟩) n cap xs :=
 ownsRow_heap (w := w) h fun j hj => by
  simp only [Value.ownBlock, Option.some.injEq] at hj
  subst hj
  exact k.block _ hg

theorem Own.keptW {B lo hi : Nat} {w w' : World} {g n cap : Nat} {xs : List Int} (h : Own B w (some ⟨g, 0, none⟩) n cap xs) (k : Wrote lo hi w w') (hg : g < lo) : Own B w' (some ⟨g, 0, none⟩) n cap xs :=
 ownsRow_heap (w := w) h fun j hj => by
  have hlt := (h.lo _ rfl).2
  simp only [Value.ownBlock, Option.some.injEq] at hj
  subst hj
  exact k.block _ hlt (.inl hg)

theorem Own.setCell_other' {B : Nat} {w : World} {g n cap : Nat} {xs : List Int} (h : Own B w (some ⟨g, 0, none⟩) n cap xs) {p : Addr} (hp : p.block ≠ g) (u : Value) : Own B (w.setCell p u) (some ⟨g, 0, none⟩) n cap xs :=
 ownsRow_heap (w := w) h fun j hj => by
  simp only [Value.ownBlock, Option.some.injEq] at hj
  subst hj
  exact Below.heap_setCell _ _ _ _ (fun e => hp e.symm)

/-- One row is another one. -/
def upX (g : Nat → Nat → Int) (a q : Nat) (u : Int) (i b : Nat) : Int := if i = a ∧ b = q then u else g i b

theorem mat_zero (j : Nat) : List.replicate j (List.replicate j 0) = matX j (xpW j ([] : List Int)).G := by
 apply List.ext_getElem
 ·simp [matX]
 ·intro b h1 h2
  simp only [matX, List.getElem_map, List.getElem_range, List.getElem_replicate]
  exact (rowX_zero j).symm

theorem xpN_zero (x : Xp) (q : Nat) (c : Int) : xpN x q c 0 = x.G := by
 funext a b
 unfold xpN xpG
 rw [if_neg (by omega), if_neg (by omega), Int.add_zero]

theorem xpN_far (x : Xp) (q : Nat) (c : Int) (y i b : Nat) (h : i ≠ y) : xpN x q c (y + 1) i b = xpN x q c y i b := by
 unfold xpN xpG
 by_cases h1 : b = q ∧ i < y
 ·rw [if_pos h1, if_pos (show b = q ∧ i < y + 1 from ⟨h1.1, by omega⟩)]
  congr 1
  by_cases h2 : i = q ∧ b = q ∧ q < y ∧ c < 0
  ·rw [if_pos h2, if_pos (show i = q ∧ b = q ∧ q < y + 1 ∧ c < 0 from ⟨h2.1, h2.2.1, by omega, h2.2.2.2⟩)]
  ·rw [if_neg h2, if_neg (fun h3 => h2 ⟨h3.1, h3.2.1, by omega, h3.2.2.2⟩)]
 ·rw [if_neg h1, if_neg (fun h3 => h1 ⟨h3.1, by omega⟩)]
  congr 1
  by_cases h2 : i = q ∧ b = q ∧ q < y ∧ c < 0
  ·rw [if_pos h2, if_pos (show i = q ∧ b = q ∧ q < y + 1 ∧ c < 0 from ⟨h2.1, h2.2.1, by omega, h2.2.2.2⟩)]
  ·rw [if_neg h2, if_neg (fun h3 => h2 ⟨h3.1, h3.2.1, by omega, h3.2.2.2⟩)]

theorem xpN_here (x : Xp) (q : Nat) (c : Int) (y : Nat) : xpN x q c y y q = x.G y q := by
 unfold xpN xpG
 rw [if_neg (by omega), if_neg (by omega), Int.add_zero]

theorem xpN_same (x : Xp) (q : Nat) (c : Int) (y b : Nat) (h : b ≠ q) : xpN x q c (y + 1) y b = xpN x q c y y b := by
 unfold xpN xpG
 rw [if_neg (by omega), if_neg (by omega), if_neg (by omega), if_neg (by omega)]

theorem xpN_next (x : Xp) (q : Nat) (c : Int) (y : Nat) : xpN x q c (y + 1) y q = x.G y q + c * x.F y + (if y = q ∧ c < 0 then 1 else 0) := by
 unfold xpN xpG
 rw [if_pos ⟨rfl, by omega⟩]
 congr 1
 by_cases h : y = q ∧ c < 0
 ·rw [if_pos h, if_pos ⟨h.1, rfl, by omega, h.2⟩]
 ·rw [if_neg h, if_neg (fun h3 => h ⟨h3.1, h3.2.2.2⟩)]

end Go.Proofs.Ytehcbamfendbaaa
