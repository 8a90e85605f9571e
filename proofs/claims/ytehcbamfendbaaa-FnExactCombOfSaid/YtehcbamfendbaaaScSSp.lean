/- Slices of slices of numbers whose rows have any capacity: how they lie in memory; the marks. -/
import Derived.Test.YtehcbamfendbaaaScJnP
import Derived.Test.YtehcbamfendbaaaScQA
namespace Go.Proofs.Ytehcbamfendbaaa
open Go.RowKit Go.ChangeShapes

theorem OwnP.own {B : Nat} {w : World} {a : Option Addr} {n : Nat} {xs : List Int} (h : OwnP B w a n xs) (hn : n ≠ 0) : ∃ c g, a = some ⟨g, 0, none⟩ ∧ B ≤ g ∧ Own B w a n c xs := by
 obtain ⟨hl, h | ⟨g, cur, rfl, hb, hh, e1, e2, e3⟩⟩ := h
 ·exact absurd h.1 hn
 ·refine ⟨cur.size, g, rfl, hb, ?_, .inr ⟨g, cur.size, cur, rfl, hb, hh, e1, e2, by omega, by rw [Nat.mul_one]; exact e3⟩⟩
  simp [hl]

/-- A row of a block of its own, whatever its capacity. -/
def OwnR (w : World) (x : RowV) : Prop := OwnP x.b w x.a x.n x.xs ∧ (x.n = 0 ∨ ∀ ad, x.a = some ad → ad.block = x.b)

theorem OwnR.below {w w' : World} {x : RowV} (h : OwnR w x) (k : Below w.heap.size w w') : OwnR w' x := ⟨h.1.below k, h.2⟩
theorem OwnR.wrote {l r : Nat} {w w' : World} {x : RowV} (h : OwnR w x) (k : Wrote l r w w') (hd : x.n = 0 ∨ x.b < l ∨ r ≤ x.b) : OwnR w' x := by
 refine ⟨?_, h.2⟩
 by_cases hn : x.n = 0
 ·obtain ⟨hl, _⟩ := h.1
  exact ⟨hl, .inl ⟨hn, List.eq_nil_of_length_eq_zero (by omega)⟩⟩
 ·refine h.1.heap fun g _ ha hl => k.block g hl ?_
  cases hx : x.a with
  | none => rw [hx] at ha; cases ha
  | some ad =>
   rw [hx] at ha
   simp at ha
   have := (h.2.resolve_left hn) ad hx
   omega

/-- The slice of slices is the call's own, in blocks from lo to hi - 1; no two of its rows share a block. -/
def OwnSP (lo hi : Nat) (w : World) (ad : Option Addr) (m : Nat) (rs : List RowV) : Prop :=
 rs.length = m ∧ (m = 0 ∨ ∃ g off, ad = some ⟨g, off, none⟩ ∧ lo ≤ g ∧ g < hi ∧ (∀ x ∈ rs, x.b ≠ g) ∧ ∀ j (h : j < rs.length), w.cell? ⟨g, off + j, none⟩ = some (.slice rs[j].a rs[j].n rs[j].cap)) ∧
 (∀ x ∈ rs, OwnR w x ∧ x.n ≤ 1048576 ∧ (x.n = 0 ∨ (lo ≤ x.b ∧ x.b < hi))) ∧
 ∀ i j (hi : i < rs.length) (hj : j < rs.length), i ≠ j → rs[i].b ≠ rs[j].b

theorem OwnSP.reads {lo hi : Nat} {w : World} {ad : Option Addr} {m : Nat} {rs : List RowV} (h : OwnSP lo hi w ad m rs) : ReadsSS w ad m rs := by
 refine ⟨h.1, ?_, fun x hx => ⟨(h.2.2.1 x hx).1.1.reads, (h.2.2.1 x hx).2.1⟩⟩
 rcases h.2.1 with h0 | ⟨g, off, ha, _, _, _, hc⟩
 ·exact .inl h0
 ·exact .inr ⟨g, off, ha, hc⟩

theorem OwnSP.below {lo hi : Nat} {w w' : World} {ad : Option Addr} {m : Nat} {rs : List RowV} (h : OwnSP lo hi w ad m rs) (k : Below w.heap.size w w') : OwnSP lo hi w' ad m rs := by
 refine ⟨h.1, ?_, fun x hx => ⟨(h.2.2.1 x hx).1.below k, (h.2.2.1 x hx).2⟩, h.2.2.2⟩
 rcases h.2.1 with h0 | ⟨g, off, ha, h1, h2, h3, hc⟩
 ·exact .inl h0
 ·exact .inr ⟨g, off, ha, h1, h2, h3, fun j hj => (k.cell (World.block_lt_of_cell? _ _ (hc j hj))).trans (hc j hj)⟩

theorem OwnSP.alloc {lo hi : Nat} {w : World} {ad : Option Addr} {m : Nat} {rs : List RowV} (h : OwnSP lo hi w ad m rs) (o : Obj) : OwnSP lo hi (w.alloc o) ad m rs := h.below ((Below.refl _ _).alloc (Nat.le_refl _) o)

/-- Another interval of blocks is written. -/
theorem OwnSP.wrote {lo hi l r : Nat} {w w' : World} {ad : Option Addr} {m : Nat} {rs : List RowV} (h : OwnSP lo hi w ad m rs) (k : Wrote l r w w') (hd : hi ≤ l ∨ r ≤ lo) : OwnSP lo hi w' ad m rs := by
 refine ⟨h.1, ?_, fun x hx => ⟨?_, (h.2.2.1 x hx).2⟩, h.2.2.2⟩
 ·rcases h.2.1 with h0 | ⟨g, off, ha, h1, h2, h3, hc⟩
  ·exact .inl h0
  ·exact .inr ⟨g, off, ha, h1, h2, h3, fun j hj => (World.cell?_of_block (w := w) (a := ⟨g, off + j, none⟩) (k.block g (World.block_lt_of_cell? _ _ (hc j hj)) (by omega))).trans (hc j hj)⟩
 ·obtain ⟨h1, _, h3⟩ := h.2.2.1 x hx
  rcases h3 with h3 | ⟨h4, h5⟩
  ·exact h1.wrote k (.inl h3)
  ·exact h1.wrote k (.inr (by omega))

/-- One row is written. -/
theorem OwnSP.row {lo hi : Nat} {w w' : World} {ad : Option Addr} {m : Nat} {rs : List RowV} (h : OwnSP lo hi w ad m rs) (i : Nat) (hi' : i < rs.length) (ys : List Int) (ho : OwnP rs[i].b w' rs[i].a rs[i].n ys) (k : w.grownBy w' (if rs[i].n = 0 then none else rs[i].a.map (·.block))) :
  OwnSP lo hi w' ad m (rs.set i { rs[i] with xs := ys }) ∧ Wrote lo hi w w' := by
 obtain ⟨h1, h2, h3, h4⟩ := h
 obtain ⟨x1, x2, x3⟩ := h3 _ (List.getElem_mem hi')
 have hk : Wrote rs[i].b (rs[i].b + 1) w w' := by
  by_cases hn : rs[i].n = 0
  ·rw [if_pos hn] at k
   exact wrote_none k
  ·rw [if_neg hn] at k
   refine ⟨k.os, k.tape, k.output, k.size, fun j hj hd => k.block j hj (fun e => ?_)⟩
   cases hx : rs[i].a with
   | none => rw [hx] at e; cases e
   | some ad =>
    rw [hx] at e
    simp at e
    have := (x1.2.resolve_left hn) ad hx
    omega
 have hw : Wrote lo hi w w' := by
  rcases x3 with x3 | ⟨x4, x5⟩
  ·rw [if_pos x3] at k
   exact wrote_none k
  ·exact wrote_wide hk ⟨x4, by omega⟩
 refine ⟨⟨by rw [List.length_set]; exact h1, ?_, ?_, ?_⟩, hw⟩
 ·rcases h2 with h0 | ⟨g, off, ha, g1, g2, g3, hc⟩
  ·exact .inl h0
  ·refine .inr ⟨g, off, ha, g1, g2, fun x hx => ?_, fun j hj => ?_⟩
   ·rcases List.mem_or_eq_of_mem_set hx with hx | hx
    ·exact g3 x hx
    ·rw [hx]
     show rs[i].b ≠ g
     exact g3 rs[i] (List.getElem_mem hi')
   ·have hj2 : j < rs.length := by simpa using hj
    have hne : g ≠ rs[i].b := fun e => g3 _ (List.getElem_mem hi') e.symm
    refine ((World.cell?_of_block (w := w) (a := ⟨g, off + j, none⟩) (hk.block g (World.block_lt_of_cell? _ _ (hc j hj2)) (by omega))).trans (hc j hj2)).trans ?_
    rw [List.getElem_set]
    by_cases e : i = j
    ·subst e; rw [if_pos rfl]
    ·rw [if_neg e]
 ·intro x hx
  obtain ⟨j, hj, rfl⟩ := List.getElem_of_mem hx
  have hj2 : j < rs.length := by simpa using hj
  rw [List.getElem_set]
  by_cases e : i = j
  ·subst e
   rw [if_pos rfl]
   exact ⟨⟨ho, x1.2⟩, x2, x3⟩
  ·rw [if_neg e]
   obtain ⟨y1, y2, y3⟩ := h3 _ (List.getElem_mem hj2)
   have hne := h4 i j hi' hj2 e
   exact ⟨y1.wrote hk (.inr (by omega)), y2, y3⟩
 ·intro j1 j2 g1 g2 hne
  have g1' : j1 < rs.length := by simpa using g1
  have g2' : j2 < rs.length := by simpa using g2
  have e1 : (rs.set i { rs[i] with xs := ys })[j1].b = rs[j1].b := by
   rw [List.getElem_set]
   by_cases e : i = j1
   ·subst e; rw [if_pos rfl]
   ·rw [if_neg e]
  have e2 : (rs.set i { rs[i] with xs := ys })[j2].b = rs[j2].b := by
   rw [List.getElem_set]
   by_cases e : i = j2
   ·subst e; rw [if_pos rfl]
   ·rw [if_neg e]
  rw [e1, e2]
  exact h4 j1 j2 g1' g2' hne

set_option maxHeartbeats 400000 in
theorem markInt64P_any (B : Nat) (a : Option Addr) (n cap : Nat) (xs : List Int) (m : Int) (w : World) (ho : OwnP B w a n xs) (hn : n ≤ 1048576) (h0 : 0 ≤ m) (h1 : m ≤ 4294967296) :
  Calls Try.prog 62 #[.slice a n cap, .int .i64 m] w fun e w' => e = .returned (.int .i64 (m + n)) ∧ OwnP B w' a n (marks m n) ∧ w.grownBy w' (if n = 0 then none else a.map (·.block)) := by
 have hl := ho.1
 have HL := Lib.hid hl; clear hl
 rcases Nat.eq_zero_or_pos n with hz | hz
 ·subst hz
  have HO := Lib.hid ho; clear ho
  go_enter Try.func62, Try.ntmps62
  go_wp2
  refine wp_loop_rounds 1 ?_; rw [rounds_succ]
  go_wp2
  go_ret
  have hx : xs = [] := List.eq_nil_of_length_eq_zero HL.out
  exact ⟨by simp, by rw [hx] at HO; exact HO.out, World.grownBy.refl _ _⟩
 ·obtain ⟨c, g, rfl, hB, ho2⟩ := ho.own (by omega)
  have HO := Lib.hid ho2; clear ho ho2
  have hz0 : n ≠ 0 := by omega
  go_enter Try.func62, Try.ntmps62
  go_wp2
  go_loopw [1, 5] (fun v i wr => ∃ k : Nat, k ≤ n ∧ i = .int .i64 k ∧ v = .int .i64 (m + k) ∧ Own B wr (some ⟨g, 0, none⟩) n c (marks m k ++ xs.drop k) ∧ w.grownBy wr (some g)) (fun _ i _ => n - (intOf i).toNat)
  case atStart => exact ⟨0, Nat.zero_le _, rfl, by simp, by simpa [marks] using HO.out, World.grownBy.refl _ _⟩
  case round =>
   obtain ⟨k, hk, rfl, rfl, hor, hgr⟩ := hrel
   by_cases hlt : k < n
   ·have h2 := hor.cellAt k hlt
    have h3 := hor.frozenAt k
    have HOR := Lib.hid hor; clear hor
    have HGR := Lib.hid hgr; clear hgr
    go_wp2
    go_roundw
    case rel =>
     have := HOR.out.store k (m + (k : Int))
     rw [set_marks xs m n k HL.out hlt] at this
     refine ⟨k + 1, by omega, by go_num, by go_num, by simpa using this.1, ?_⟩
     have hb := this.2
     exact ⟨hb.os.trans HGR.out.os, hb.tape.trans HGR.out.tape, hb.output.trans HGR.out.output, Nat.le_trans HGR.out.size hb.size, fun j hj hne => (hb.block j (Nat.lt_of_lt_of_le hj HGR.out.size) hne).trans (HGR.out.block j hj hne)⟩
    case measure => simp [intOf]; omega
   ·have hkn : k = n := by omega
    have HK := Lib.hid hkn; clear hkn
    go_wp2
    go_ret
    have := HK.out
    subst this
    rw [List.drop_of_length_le (by rw [HL.out]; omega), List.append_nil] at hor
    exact ⟨rfl, hor.ownP, hgr⟩

set_option maxRecDepth 100000 in
set_option maxHeartbeats 1000000 in
theorem markInt64SP_any (lo hi : Nat) (ad : Option Addr) (m cap : Nat) (rs : List RowV) (k : Int) (w : World) (ho : OwnSP lo hi w ad m rs) (hm : m ≤ 1048576) (h0 : 0 ≤ k) (h1 : k + totS rs ≤ 4294967296) :
  Calls Try.prog 23 #[.slice ad m cap, .int .i64 k] w fun e w' => e = .returned (.int .i64 (k + totS rs)) ∧ OwnSP lo hi w' ad m (marksS k rs) ∧ Wrote lo hi w w' := by
 have HL := Lib.hid ho.1
 have HO := Lib.hid ho; clear ho
 go_enter Try.func23, Try.ntmps23
 go_wp2
 go_loopg [1, 5] m (fun g v i wx => ∃ j : Nat, j ≤ m ∧ g + j = m ∧ i = .int .i64 j ∧ v = .int .i64 (k + totS (rs.take j)) ∧ OwnSP lo hi wx ad m (partS k rs j) ∧ Wrote lo hi w wx)
 case atStart => exact ⟨0, Nat.zero_le _, rfl, rfl, by simp [totS], by simpa [partS, marksS] using HO.out, ⟨rfl, rfl, rfl, Nat.le_refl _, fun _ _ _ => rfl⟩⟩
 case round =>
  obtain ⟨j, hj, hgj, rfl, rfl, hS, hW⟩ := hrel
  by_cases hlt : j < m
  ·have hjl : j < rs.length := by rw [HL.out]; exact hlt
   have hpl : j < (partS k rs j).length := by rw [partS_len _ _ _ (by omega)]; exact hjl
   obtain ⟨b, off, rfl, _, _, _, hc⟩ := hS.2.1.resolve_left (by omega)
   have c0 := hc j hpl
   have hrow := (hS.2.2.1 _ (List.getElem_mem hpl)).1.1
   have hn := (hS.2.2.1 _ (List.getElem_mem hpl)).2.1
   have hst := fun w2 ys => hS.row (w' := w2) j hpl ys
   rw [partS_at k rs j hjl] at c0 hrow hn
   simp only [partS_at k rs j hjl] at hst
   have HST : Hid (∀ w2, OwnP rs[j].b w2 rs[j].a rs[j].n (marks (k + totS (rs.take j)) rs[j].n) → wr.grownBy w2 (if rs[j].n = 0 then none else rs[j].a.map (·.block)) → OwnSP lo hi w2 (some ⟨b, off, none⟩) m (partS k rs (j + 1)) ∧ Wrote lo hi wr w2) := Lib.hid (fun w2 a1 a2 => by
    have h5 := hst w2 _ a1 a2
    rw [partS_set k rs j hjl] at h5
    exact h5)
   have ht := totS_take rs j hjl
   have ht2 := totS_take_le rs (j + 1)
   have HT : Hid (totS (rs.take (j + 1)) = totS (rs.take j) + rs[j].n) := Lib.hid ht
   have hb1 : k + totS (rs.take j) ≤ 4294967296 := by omega
   have hb2 : 0 ≤ k + totS (rs.take j) := by omega
   have HR := Lib.hid hrow
   have HW := Lib.hid hW
   clear hst hc hS ht ht2 hrow hW
   obtain ⟨x, hx⟩ : ∃ x, x = rs[j] := ⟨_, rfl⟩
   rw [← hx] at c0 hn HST HT HR
   obtain ⟨k2, hk2⟩ : ∃ k2 : Int, k2 = k + totS (rs.take j) := ⟨_, rfl⟩
   rw [← hk2] at hb1 hb2 HST ⊢
   have HK := Lib.hid hk2
   clear hx hk2
   obtain ⟨xb, xa, xn, xc, xs⟩ := x
   simp only at c0 hn HST HT HR
   go_wp2_with fail
   refine (markInt64P_any xb xa xn xc xs k2 _ HR.out hn hb2 hb1).mono ?_
   rintro e w1 ⟨rfl, h5, h6⟩
   obtain ⟨g5, g6⟩ := HST.out _ h5 h6
   have G5 := Lib.hid g5
   have G6 := Lib.hid (wrote_trans HW.out g6)
   clear g5 g6 h5 h6 c0
   go_wp2
   go_roundg (gk - 1)
   case measure => omega
   case rel => exact ⟨j + 1, by omega, by omega, by go_num, by rw [HT.out, HK.out]; push_cast; rw [Int.add_assoc], G5.out, G6.out⟩
  ·have hjm : j = m := by omega
   have hall : rs.length ≤ j := by rw [HL.out]; omega
   have HE : Hid (partS k rs j = marksS k rs) := Lib.hid (partS_end k rs j hall)
   have HT : Hid (totS (rs.take j) = totS rs) := Lib.hid (by rw [List.take_of_length_le hall])
   rw [HE.out] at hS
   rw [HT.out]
   have HS := Lib.hid hS
   have HW := Lib.hid hW
   clear hS hW hjm hall
   go_wp2
   go_ret
   exact ⟨rfl, HS.out, HW.out⟩

end Go.Proofs.Ytehcbamfendbaaa

