/- Slices of slices of numbers: how they lie in memory; the laws' comparison of them, the marks and what is found of them. -/
import Derived.Test.YthelncibpoijoaaBase5
import Derived.Test.YthelncibpoijoaaBase4
import Derived.Test.YthelncibpoijoaaKit3
import Derived.BigQuiet
import Derived.Deep.LoopGhost
namespace Go.Proofs.Ythelncibpoijoaa
open Go.RowKit Go.ChangeShapes

/-- A row: a slice with its numbers, and a block for it (for a row that is nil: any). -/
structure RowV where
  b : Nat
  a : Option Addr
  n : Nat
  cap : Nat
  xs : List Int

/-- The slice of slices reads as these rows. -/
def ReadsSS (w : World) (ad : Option Addr) (m : Nat) (rs : List RowV) : Prop :=
  rs.length = m ∧ (m = 0 ∨ ∃ g off, ad = some ⟨g, off, none⟩ ∧ ∀ j (h : j < rs.length), w.cell? ⟨g, off + j, none⟩ = some (.slice rs[j].a rs[j].n rs[j].cap)) ∧
  ∀ x ∈ rs, Reads w x.a x.n x.xs ∧ x.n ≤ 1048576

/-- The slice of slices is the call's own, in blocks from lo to hi - 1; no two of its rows share a block. -/
def OwnSS (lo hi : Nat) (w : World) (ad : Option Addr) (m : Nat) (rs : List RowV) : Prop :=
  rs.length = m ∧ (m = 0 ∨ ∃ g off, ad = some ⟨g, off, none⟩ ∧ lo ≤ g ∧ g < hi ∧ (∀ x ∈ rs, x.b ≠ g) ∧ ∀ j (h : j < rs.length), w.cell? ⟨g, off + j, none⟩ = some (.slice rs[j].a rs[j].n rs[j].cap)) ∧
  (∀ x ∈ rs, OwnIn x.b (x.b + 1) w x.a x.n x.cap x.xs ∧ x.n ≤ 1048576 ∧ (x.a = none ∨ (lo ≤ x.b ∧ x.b < hi))) ∧
  ∀ i j (hi : i < rs.length) (hj : j < rs.length), i ≠ j → rs[i].b ≠ rs[j].b

theorem OwnSS.reads {lo hi : Nat} {w : World} {ad : Option Addr} {m : Nat} {rs : List RowV} (h : OwnSS lo hi w ad m rs) : ReadsSS w ad m rs := by
  refine ⟨h.1, ?_, fun x hx => ⟨(h.2.2.1 x hx).1.reads, (h.2.2.1 x hx).2.1⟩⟩
  rcases h.2.1 with h0 | ⟨g, off, ha, _, _, _, hc⟩
  · exact .inl h0
  · exact .inr ⟨g, off, ha, hc⟩

theorem ReadsSS.below {w w' : World} {ad : Option Addr} {m : Nat} {rs : List RowV} (h : ReadsSS w ad m rs) (k : Below w.heap.size w w') : ReadsSS w' ad m rs := by
  refine ⟨h.1, ?_, fun x hx => ⟨(h.2.2 x hx).1.below k, (h.2.2 x hx).2⟩⟩
  rcases h.2.1 with h0 | ⟨g, off, ha, hc⟩
  · exact .inl h0
  · exact .inr ⟨g, off, ha, fun j hj => (k.cell (World.block_lt_of_cell? _ _ (hc j hj))).trans (hc j hj)⟩

theorem ReadsSS.alloc {w : World} {ad : Option Addr} {m : Nat} {rs : List RowV} (h : ReadsSS w ad m rs) (o : Obj) : ReadsSS (w.alloc o) ad m rs := h.below ((Below.refl _ _).alloc (Nat.le_refl _) o)

theorem OwnSS.below {lo hi : Nat} {w w' : World} {ad : Option Addr} {m : Nat} {rs : List RowV} (h : OwnSS lo hi w ad m rs) (k : Below w.heap.size w w') : OwnSS lo hi w' ad m rs := by
  refine ⟨h.1, ?_, fun x hx => ⟨(h.2.2.1 x hx).1.below k, (h.2.2.1 x hx).2⟩, h.2.2.2⟩
  rcases h.2.1 with h0 | ⟨g, off, ha, h1, h2, h3, hc⟩
  · exact .inl h0
  · exact .inr ⟨g, off, ha, h1, h2, h3, fun j hj => (k.cell (World.block_lt_of_cell? _ _ (hc j hj))).trans (hc j hj)⟩

theorem OwnSS.alloc {lo hi : Nat} {w : World} {ad : Option Addr} {m : Nat} {rs : List RowV} (h : OwnSS lo hi w ad m rs) (o : Obj) : OwnSS lo hi (w.alloc o) ad m rs := h.below ((Below.refl _ _).alloc (Nat.le_refl _) o)

/-- Another interval of blocks is written. -/
theorem OwnSS.wrote {lo hi l r : Nat} {w w' : World} {ad : Option Addr} {m : Nat} {rs : List RowV} (h : OwnSS lo hi w ad m rs) (k : Wrote l r w w') (hd : hi ≤ l ∨ r ≤ lo) : OwnSS lo hi w' ad m rs := by
  refine ⟨h.1, ?_, fun x hx => ⟨?_, (h.2.2.1 x hx).2⟩, h.2.2.2⟩
  · rcases h.2.1 with h0 | ⟨g, off, ha, h1, h2, h3, hc⟩
    · exact .inl h0
    · exact .inr ⟨g, off, ha, h1, h2, h3, fun j hj => (World.cell?_of_block (w := w) (a := ⟨g, off + j, none⟩) (k.block g (World.block_lt_of_cell? _ _ (hc j hj)) (by omega))).trans (hc j hj)⟩
  · obtain ⟨h1, _, h3⟩ := h.2.2.1 x hx
    rcases h3 with h3 | ⟨h4, h5⟩
    · refine ⟨⟨h1.1.1, ?_⟩, h1.2⟩
      rcases h1.1.2 with h6 | ⟨g, c, cur, hv, _⟩
      · exact .inl h6
      · rw [h3] at hv
        cases hv
    · exact h1.wrote k (by omega)

theorem wrote_wide {lo hi l r : Nat} {w w' : World} (k : Wrote l r w w') (h : lo ≤ l ∧ r ≤ hi) : Wrote lo hi w w' := ⟨k.os, k.tape, k.output, k.size, fun j hj hd => k.block j hj (by omega)⟩

theorem wrote_none {lo hi : Nat} {w w' : World} (k : w.grownBy w' none) : Wrote lo hi w w' := ⟨k.os, k.tape, k.output, k.size, fun j hj _ => k.block j hj (by simp)⟩

theorem wrote_trans {lo hi : Nat} {w w1 w2 : World} (h : Wrote lo hi w w1) (k : Wrote lo hi w1 w2) : Wrote lo hi w w2 :=
  ⟨k.os.trans h.os, k.tape.trans h.tape, k.output.trans h.output, Nat.le_trans h.size k.size, fun j hj hd => (k.block j (Nat.lt_of_lt_of_le hj h.size) hd).trans (h.block j hj hd)⟩

/-- One row is written. -/
theorem OwnSS.row {lo hi : Nat} {w w' : World} {ad : Option Addr} {m : Nat} {rs : List RowV} (h : OwnSS lo hi w ad m rs) (i : Nat) (hi' : i < rs.length) (ys : List Int) (ho : Own rs[i].b w' rs[i].a rs[i].n rs[i].cap ys) (k : w.grownBy w' (rs[i].a.map (·.block))) :
    OwnSS lo hi w' ad m (rs.set i { rs[i] with xs := ys }) ∧ Wrote lo hi w w' := by
  obtain ⟨h1, h2, h3, h4⟩ := h
  obtain ⟨x1, x2, x3⟩ := h3 _ (List.getElem_mem hi')
  have hk : Wrote rs[i].b (rs[i].b + 1) w w' := x1.writes k
  have hw : Wrote lo hi w w' := by
    rcases x3 with x3 | ⟨x4, x5⟩
    · rw [x3] at k
      exact wrote_none k
    · exact wrote_wide hk ⟨x4, by omega⟩
  refine ⟨⟨by rw [List.length_set]; exact h1, ?_, ?_, ?_⟩, hw⟩
  · rcases h2 with h0 | ⟨g, off, ha, g1, g2, g3, hc⟩
    · exact .inl h0
    · refine .inr ⟨g, off, ha, g1, g2, fun x hx => ?_, fun j hj => ?_⟩
      · rcases List.mem_or_eq_of_mem_set hx with hx | hx
        · exact g3 x hx
        · rw [hx]
          show rs[i].b ≠ g
          exact g3 rs[i] (List.getElem_mem hi')
      · have hj2 : j < rs.length := by simpa using hj
        have hne : g ≠ rs[i].b := fun e => g3 _ (List.getElem_mem hi') e.symm
        refine ((World.cell?_of_block (w := w) (a := ⟨g, off + j, none⟩) (hk.block g (World.block_lt_of_cell? _ _ (hc j hj2)) (by omega))).trans (hc j hj2)).trans ?_
        rw [List.getElem_set]
        by_cases e : i = j
        · subst e; rw [if_pos rfl]
        · rw [if_neg e]
  · intro x hx
    obtain ⟨j, hj, rfl⟩ := List.getElem_of_mem hx
    have hj2 : j < rs.length := by simpa using hj
    rw [List.getElem_set]
    by_cases e : i = j
    · subst e
      rw [if_pos rfl]
      exact ⟨⟨ho, x1.2⟩, x2, x3⟩
    · rw [if_neg e]
      obtain ⟨y1, y2, y3⟩ := h3 _ (List.getElem_mem hj2)
      have hne := h4 i j hi' hj2 e
      exact ⟨y1.wrote hk (by omega), y2, y3⟩
  · intro j1 j2 g1 g2 hne
    have g1' : j1 < rs.length := by simpa using g1
    have g2' : j2 < rs.length := by simpa using g2
    have e1 : (rs.set i { rs[i] with xs := ys })[j1].b = rs[j1].b := by
      rw [List.getElem_set]
      by_cases e : i = j1
      · subst e; rw [if_pos rfl]
      · rw [if_neg e]
    have e2 : (rs.set i { rs[i] with xs := ys })[j2].b = rs[j2].b := by
      rw [List.getElem_set]
      by_cases e : i = j2
      · subst e; rw [if_pos rfl]
      · rw [if_neg e]
    rw [e1, e2]
    exact h4 j1 j2 g1' g2' hne

/-- How many numbers there are. -/
def totS : List RowV → Nat
  | [] => 0
  | x :: l => x.n + totS l

/-- The rows with marks from k on. -/
def marksS : Int → List RowV → List RowV
  | _, [] => []
  | k, x :: l => { x with xs := marks k x.n } :: marksS (k + x.n) l

theorem marksS_len (k : Int) (rs : List RowV) : (marksS k rs).length = rs.length := by
  induction rs generalizing k with
  | nil => rfl
  | cons x l ih => simp [marksS, ih]

theorem totS_app (rs l : List RowV) : totS (rs ++ l) = totS rs + totS l := by
  induction rs with
  | nil => simp [totS]
  | cons x r ih => simp [totS, ih]; omega

theorem marksS_app (k : Int) (rs l : List RowV) : marksS k (rs ++ l) = marksS k rs ++ marksS (k + totS rs) l := by
  induction rs generalizing k with
  | nil => simp [totS, marksS]
  | cons x r ih => simp [totS, marksS, ih]; rw [Int.add_assoc]

theorem totS_take (rs : List RowV) (j : Nat) (hj : j < rs.length) : totS (rs.take (j + 1)) = totS (rs.take j) + rs[j].n := by
  rw [List.take_succ_eq_append_getElem hj, totS_app]
  simp [totS]

theorem totS_take_le (rs : List RowV) (j : Nat) : totS (rs.take j) ≤ totS rs := by
  have h := totS_app (rs.take j) (rs.drop j)
  rw [List.take_append_drop] at h
  omega

/-- The rows of which the first j bear marks. -/
def partS (k : Int) (rs : List RowV) (j : Nat) : List RowV := marksS k (rs.take j) ++ rs.drop j

theorem partS_len (k : Int) (rs : List RowV) (j : Nat) (hj : j ≤ rs.length) : (partS k rs j).length = rs.length := by
  simp [partS, marksS_len]; omega

theorem partS_at (k : Int) (rs : List RowV) (j : Nat) (hj : j < rs.length) : (partS k rs j)[j]'(by rw [partS_len _ _ _ (by omega)]; exact hj) = rs[j] := by
  unfold partS
  have hl : (marksS k (rs.take j)).length = j := by rw [marksS_len, List.length_take]; omega
  rw [List.getElem_append_right (by omega)]
  simp [hl]

theorem partS_set (k : Int) (rs : List RowV) (j : Nat) (hj : j < rs.length) : (partS k rs j).set j { rs[j] with xs := marks (k + totS (rs.take j)) rs[j].n } = partS k rs (j + 1) := by
  unfold partS
  have hl : (marksS k (rs.take j)).length = j := by rw [marksS_len, List.length_take]; omega
  rw [List.set_append_right _ _ (by omega), hl, Nat.sub_self, List.take_succ_eq_append_getElem hj, marksS_app, List.drop_eq_getElem_cons hj]
  simp only [marksS, List.append_assoc, List.set_cons_zero, List.singleton_append]

theorem partS_end (k : Int) (rs : List RowV) (j : Nat) (hj : rs.length ≤ j) : partS k rs j = marksS k rs := by
  unfold partS
  rw [List.take_of_length_le hj, List.drop_of_length_le hj, List.append_nil]

theorem marksS_at (k : Int) (rs : List RowV) (j : Nat) (hj : j < rs.length) : (marksS k rs)[j]'(by rw [marksS_len]; exact hj) = { rs[j] with xs := marks (k + totS (rs.take j)) rs[j].n } := by
  induction rs generalizing k j with
  | nil => simp at hj
  | cons x l ih =>
    cases j with
    | zero => simp [marksS, totS]
    | succ j =>
      simp only [marksS, List.getElem_cons_succ, List.take_succ_cons, totS]
      rw [ih (k + x.n) j (by simpa using hj), Int.natCast_add, Int.add_assoc]

set_option maxRecDepth 100000 in
set_option maxHeartbeats 1000000 in
theorem markInt64SS_any (lo hi : Nat) (ad : Option Addr) (m cap : Nat) (rs : List RowV) (k : Int) (w : World) (ho : OwnSS lo hi w ad m rs) (hm : m ≤ 1048576) (h0 : 0 ≤ k) (h1 : k + totS rs ≤ 4294967296) :
    Calls Try.prog 41 #[.slice ad m cap, .int .i64 k] w fun e w' => e = .returned (.int .i64 (k + totS rs)) ∧ OwnSS lo hi w' ad m (marksS k rs) ∧ Wrote lo hi w w' := by
  have HL := Lib.hid ho.1
  have HO := Lib.hid ho; clear ho
  go_enter Try.func41, Try.ntmps41
  go_wp2
  go_loopg [1, 5] m (fun g v i wx => ∃ j : Nat, j ≤ m ∧ g + j = m ∧ i = .int .i64 j ∧ v = .int .i64 (k + totS (rs.take j)) ∧ OwnSS lo hi wx ad m (partS k rs j) ∧ Wrote lo hi w wx)
  case atStart => exact ⟨0, Nat.zero_le _, rfl, rfl, by simp [totS], by simpa [partS, marksS] using HO.out, ⟨rfl, rfl, rfl, Nat.le_refl _, fun _ _ _ => rfl⟩⟩
  case round =>
    obtain ⟨j, hj, hgj, rfl, rfl, hS, hW⟩ := hrel
    by_cases hlt : j < m
    · have hjl : j < rs.length := by rw [HL.out]; exact hlt
      have hpl : j < (partS k rs j).length := by rw [partS_len _ _ _ (by omega)]; exact hjl
      obtain ⟨b, off, rfl, _, _, _, hc⟩ := hS.2.1.resolve_left (by omega)
      have c0 := hc j hpl
      have hrow := (hS.2.2.1 _ (List.getElem_mem hpl)).1.1
      have hn := (hS.2.2.1 _ (List.getElem_mem hpl)).2.1
      have hst := fun w2 ys => hS.row (w' := w2) j hpl ys
      rw [partS_at k rs j hjl] at c0 hrow hn
      simp only [partS_at k rs j hjl] at hst
      have HST : Hid (∀ w2, Own rs[j].b w2 rs[j].a rs[j].n rs[j].cap (marks (k + totS (rs.take j)) rs[j].n) → wr.grownBy w2 (rs[j].a.map (·.block)) → OwnSS lo hi w2 (some ⟨b, off, none⟩) m (partS k rs (j + 1)) ∧ Wrote lo hi wr w2) := Lib.hid (fun w2 a1 a2 => by
        have h5 := hst w2 _ a1 a2
        rw [partS_set k rs j hjl] at h5
        exact h5)
      have ht := totS_take rs j hjl
      have ht2 := totS_take_le rs (j + 1)
      have HT : Hid (totS (rs.take (j + 1)) = totS (rs.take j) + rs[j].n) := Lib.hid ht
      have hb1 : k + totS (rs.take j) ≤ 4294967296 := by omega
      have hb2 : 0 ≤ k + totS (rs.take j) := by omega
      have HR := Lib.hid hrow
      have HW := Lib.hid hW
      clear hst hc hS ht ht2 hrow hW
      obtain ⟨x, hx⟩ : ∃ x, x = rs[j] := ⟨_, rfl⟩
      rw [← hx] at c0 hn HST HT HR
      obtain ⟨k2, hk2⟩ : ∃ k2 : Int, k2 = k + totS (rs.take j) := ⟨_, rfl⟩
      rw [← hk2] at hb1 hb2 HST ⊢
      have HK := Lib.hid hk2
      clear hx hk2
      obtain ⟨xb, xa, xn, xc, xs⟩ := x
      simp only at c0 hn HST HT HR
      go_wp2_with fail
      refine (markInt64S_any xb xa xn xc xs k2 _ HR.out hn hb2 hb1).mono ?_
      rintro e w1 ⟨rfl, h5, h6⟩
      obtain ⟨g5, g6⟩ := HST.out _ h5 h6
      have G5 := Lib.hid g5
      have G6 := Lib.hid (wrote_trans HW.out g6)
      clear g5 g6 h5 h6 c0
      go_wp2
      go_roundg (gk - 1)
      case measure => omega
      case rel => exact ⟨j + 1, by omega, by omega, by go_num, by rw [HT.out, HK.out]; push_cast; rw [Int.add_assoc], G5.out, G6.out⟩
    · have hjm : j = m := by omega
      have hall : rs.length ≤ j := by rw [HL.out]; omega
      have HE : Hid (partS k rs j = marksS k rs) := Lib.hid (partS_end k rs j hall)
      have HT : Hid (totS (rs.take j) = totS rs) := Lib.hid (by rw [List.take_of_length_le hall])
      rw [HE.out] at hS
      rw [HT.out]
      have HS := Lib.hid hS
      have HW := Lib.hid hW
      clear hS hW hjm hall
      go_wp2
      go_ret
      exact ⟨rfl, HS.out, HW.out⟩

set_option maxRecDepth 100000 in
set_option maxHeartbeats 1000000 in
theorem heldInt64SS_any (ad : Option Addr) (m cap : Nat) (rs : List RowV) (k : Int) (w : World) (hr : ReadsSS w ad m (marksS k rs)) (hm : m ≤ 1048576) (h0 : 0 ≤ k) (h1 : k + totS rs ≤ 4294967296) :
    Calls Try.prog 42 #[.slice ad m cap, .int .i64 k] w fun e w' => e = .returned (.int .i64 (k + totS rs)) ∧ w = w' := by
  have HL : Hid (rs.length = m) := Lib.hid (by have := hr.1; rw [marksS_len] at this; exact this)
  have HR := Lib.hid hr; clear hr
  go_enter Try.func42, Try.ntmps42
  go_wp2
  go_loop [1, 5] (fun v i => ∃ j : Nat, j ≤ m ∧ i = .int .i64 j ∧ v = .int .i64 (k + totS (rs.take j))) (fun _ i => m - (intOf i).toNat)
  case atStart => exact ⟨0, Nat.zero_le _, rfl, by simp [totS]⟩
  case round =>
    obtain ⟨j, hj, rfl, rfl⟩ := hrel
    by_cases hlt : j < m
    · have hjl : j < rs.length := by rw [HL.out]; exact hlt
      have hpl : j < (marksS k rs).length := by rw [marksS_len]; exact hjl
      obtain ⟨b, off, rfl, hc⟩ := HR.out.2.1.resolve_left (by omega)
      have c0 := hc j hpl
      obtain ⟨hrow, hn⟩ := HR.out.2.2 _ (List.getElem_mem hpl)
      rw [marksS_at k rs j hjl] at c0 hrow hn
      simp only at c0 hrow hn
      have ht := totS_take rs j hjl
      have ht2 := totS_take_le rs (j + 1)
      have HT : Hid (totS (rs.take (j + 1)) = totS (rs.take j) + rs[j].n) := Lib.hid ht
      have hb1 : k + totS (rs.take j) + rs[j].n ≤ 4294967296 := by omega
      have hb2 : 0 ≤ k + totS (rs.take j) := by omega
      clear hc ht ht2
      obtain ⟨x, hx⟩ : ∃ x, x = rs[j] := ⟨_, rfl⟩
      rw [← hx] at c0 hn HT hrow hb1
      have HW := Lib.hid hrow
      obtain ⟨k2, hk2⟩ : ∃ k2 : Int, k2 = k + totS (rs.take j) := ⟨_, rfl⟩
      rw [← hk2] at hb1 hb2 HW ⊢
      have HK := Lib.hid hk2
      clear hx hk2 hrow
      obtain ⟨xb, xa, xn, xc, xs⟩ := x
      simp only at c0 hn HT HW hb1
      go_wp2_with fail
      refine (heldInt64S_any xa xn xc k2 _ HW.out hn hb2 (by omega)).mono ?_
      rintro e w1 ⟨rfl, rfl⟩
      go_wp2
      go_round
      case rel => exact ⟨j + 1, by omega, by go_num, by rw [HT.out, HK.out]; push_cast; rw [Int.add_assoc]⟩
      case measure => simp [intOf]; omega
    · have hall : rs.length ≤ j := by rw [HL.out]; omega
      have HT : Hid (totS (rs.take j) = totS rs) := Lib.hid (by rw [List.take_of_length_le hall])
      rw [HT.out]
      clear hall
      go_wp2
      go_ret
      exact ⟨rfl, rfl⟩

end Go.Proofs.Ythelncibpoijoaa
