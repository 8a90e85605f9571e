/- The model's characteristic polynomials. -/
import Derived.Test.YtelmdfkcclhhjaaMChr
import Derived.Test.YtelmdfkcclhhjaaSTm
import Derived.Test.YtelmdfkcclhhjaaOwnL
import Derived.Deep.RegionLaw
import Derived.Deep.DeepCutAuto
namespace Go.Proofs.Ytelmdfkcclhhjaa
open Go.RowKit Go.ChangeShapes

theorem RMx.far {w : World} {g m : Nat} {K b s c : Nat → Nat} {f : Nat → Nat → Int} (h : RMx w g m K b s c f) {p : Addr} (h1 : p.block ≠ g) (h2 : ∀ i, i < m → p.block ≠ b i) (v : Value) : RMx (w.setCell p v) g m K b s c f :=
  ⟨fun i hi => (World.cell?_setCell_far _ _ _ _ h1).trans (h.hd i hi), fun i j hi hj => (World.cell?_setCell_far _ _ _ _ (h2 i hi)).trans (h.el i j hi hj)⟩

theorem Own.farSet {B : Nat} {w : World} {g n cap : Nat} {xs : List Int} (h : Own B w (some ⟨g, 0, none⟩) n cap xs) {p : Addr} (hp : p.block ≠ g) (v : Value) : Own B (w.setCell p v) (some ⟨g, 0, none⟩) n cap xs :=
  ownsRow_heap h fun u hu => by
    have e : u = g := by simpa [Value.ownBlock] using hu.symm
    subst e
    exact Below.heap_setCell w p v u (Ne.symm hp)

/-- The matrix as the model's functions read it. -/
theorem RMx.reads {w : World} {g m k : Nat} {b s c : Nat → Nat} {f : Nat → Nat → Int} (h : RMx w g m (fun _ => k) b s c f) (hk : k ≤ 1048576) : ∃ rs, ReadsSS w (some ⟨g, 0, none⟩) m rs ∧ rs.map RowV.xs = mkM m k f := by
  refine ⟨(List.range m).map fun i => ⟨b i, some ⟨b i, s i, none⟩, k, c i, (List.range k).map (f i)⟩, ⟨by simp, .inr ⟨g, 0, rfl, fun j hj => ?_⟩, fun x hx => ?_⟩, ?_⟩
  · have hj' : j < m := by simpa using hj
    simp only [List.getElem_map, List.getElem_range, Nat.zero_add]
    exact h.hd j hj'
  · obtain ⟨i, hi, rfl⟩ := List.mem_map.1 hx
    have hi' := List.mem_range.1 hi
    refine ⟨⟨by simp, .inr ⟨b i, s i, rfl, fun j hj => ?_⟩⟩, hk⟩
    rw [range_getD k j (f i) hj]
    exact h.el i j hi' hj
  · simp [mkM, List.map_map, Function.comp_def]

/-- A matrix whose headers may be stored. -/
structure HMx (w : World) (g m : Nat) (K b s c : Nat → Nat) (f : Nat → Nat → Int) : Prop extends RMx w g m K b s c f where
  fg : ∀ j, w.frozen? ⟨g, j, none⟩ = false
  lt : g < w.heap.size
  ne : ∀ i, i < m → b i ≠ g

theorem HMx.below {w w' : World} {g m : Nat} {K b s c : Nat → Nat} {f : Nat → Nat → Int} (h : HMx w g m K b s c f) (k : Below w.heap.size w w') : HMx w' g m K b s c f :=
  { h.toRMx.below k with fg := fun j => (World.frozen?_of_block (w := w) (k.block g h.lt)).trans (h.fg j), lt := Nat.lt_of_lt_of_le h.lt k.size, ne := h.ne }

theorem HMx.far {w : World} {g m : Nat} {K b s c : Nat → Nat} {f : Nat → Nat → Int} (h : HMx w g m K b s c f) {p : Addr} (h1 : p.block ≠ g) (h2 : ∀ i, i < m → p.block ≠ b i) (v : Value) : HMx (w.setCell p v) g m K b s c f :=
  { h.toRMx.far h1 h2 v with fg := fun j => by rw [World.frozen?_setCell]; exact h.fg j, lt := by simpa [World.setCell] using h.lt, ne := h.ne }

/-- A row is stored in another's place. -/
theorem HMx.put {w : World} {g m k : Nat} {b s c : Nat → Nat} {f f' : Nat → Nat → Int} (h : HMx w g m (fun _ => k) b s c f) {i bn sn cn : Nat} (hi : i < m) (h1 : bn ≠ g) (h2 : ∀ j, j < k → w.cell? ⟨bn, sn + j, none⟩ = some (.int .i64 (f' i j))) (h3 : ∀ x j, x < m → x ≠ i → j < k → f x j = f' x j) :
    HMx (w.setCell ⟨g, i, none⟩ (.slice (some ⟨bn, sn, none⟩) k cn)) g m (fun _ => k) (fun x => if x = i then bn else b x) (fun x => if x = i then sn else s x) (fun x => if x = i then cn else c x) f' where
  hd := fun x hx => by
    by_cases e : x = i
    · subst e
      simp only [if_true]
      exact World.cell?_setCell_same _ _ _ (h.hd x hx)
    · simp only [if_neg e]
      exact (World.cell?_setCell_other _ _ _ _ (by intro e3; injection e3 with e4 e5; omega)).trans (h.hd x hx)
  el := fun x j hx hj => by
    by_cases e : x = i
    · subst e
      simp only [if_true]
      exact (World.cell?_setCell_far _ _ _ _ (Ne.symm h1)).trans (h2 j hj)
    · simp only [if_neg e]
      rw [← h3 x j hx e hj]
      exact (World.cell?_setCell_far _ _ _ _ (Ne.symm (h.ne x hx))).trans (h.el x j hx hj)
  fg := fun j => by rw [World.frozen?_setCell]; exact h.fg j
  lt := by simpa [World.setCell] using h.lt
  ne := fun x hx => by
    by_cases e : x = i
    · simp only [if_pos e]; exact h1
    · simp only [if_neg e]; exact h.ne x hx

/-- What grows by append, as headers and cells. -/
theorem GrowSS.hmx {B : Nat} {w : World} {a : Option Addr} {m cd k : Nat} {os : List RowV} {f : Nat → Nat → Int} (h : GrowSS B w (.slice a m cd) m os) (hX : os.map RowV.xs = mkM m k f) (hm : 0 < m) (hk : 0 < k) :
    ∃ g b s c, a = some ⟨g, 0, none⟩ ∧ HMx w g m (fun _ => k) b s c f ∧ B ≤ g ∧ ∀ i, i < m → B ≤ b i ∧ b i < w.heap.size := by
  have hl := h.len
  have hr := h.ownSS.reads
  obtain ⟨g, cap, hv, hg1, hg2⟩ := h.own.form hm
  simp only [Value.slice.injEq, true_and] at hv
  obtain ⟨rfl, rfl⟩ := hv
  have key : ∀ i (hi : i < os.length), os[i].a = some ⟨os[i].b, 0, none⟩ ∧ os[i].n = k ∧ ∀ j, j < k → w.cell? ⟨os[i].b, 0 + j, none⟩ = some (.int .i64 (f i j)) := by
    intro i hi
    obtain ⟨hn, hx⟩ := mkM_rows hr hX hi
    obtain ⟨h1, h2, h3, h4⟩ := h.row _ (List.getElem_mem hi)
    rw [hn] at h1
    obtain ⟨gb, e1, e2, e3⟩ := Own.block h1.1 hk
    have e4 := h1.2 _ e1
    have e5 : os[i].b = gb := by simp only at e4; omega
    refine ⟨by rw [e1, e5], hn, fun j hj => ?_⟩
    have h5 := h1.1
    rw [e1] at h5
    rw [Nat.zero_add, e5, h5.cellAt j hj, hx j hj]
  refine ⟨g, fun i => (os.getD i ⟨0, none, 0, 0, []⟩).b, fun _ => 0, fun i => (os.getD i ⟨0, none, 0, 0, []⟩).cap, rfl, ?_, hg1, fun i hi => ?_⟩
  · refine { hd := fun i hi => ?_, el := fun i j hi hj => ?_, fg := fun j => World.ownsRow.frozenAt h.own j, lt := hg2, ne := fun i hi => ?_ }
    · have hi' : i < os.length := by omega
      have hc := World.ownsRow.cells h.own (g := g) rfl i (RowV.val os[i]) (by simp [hi'])
      have e : (⟨g, 0, none⟩ : Addr).add i = ⟨g, i, none⟩ := by cases i <;> simp [Addr.add]
      rw [e] at hc
      obtain ⟨k1, k2, _⟩ := key i hi'
      simp only [List.getD, List.getElem?_eq_getElem hi', Option.getD_some]
      rw [hc]
      unfold RowV.val
      rw [k1, k2]
    · have hi' : i < os.length := by omega
      simp only [List.getD, List.getElem?_eq_getElem hi', Option.getD_some]
      exact (key i hi').2.2 j hj
    · have hi' : i < os.length := by omega
      simp only [List.getD, List.getElem?_eq_getElem hi', Option.getD_some]
      intro e
      exact h.sep _ (List.getElem_mem hi') (by rw [e]; rfl)
  · have hi' : i < os.length := by omega
    simp only [List.getD, List.getElem?_eq_getElem hi', Option.getD_some]
    exact ⟨(h.row _ (List.getElem_mem hi')).2.2.1, (h.row _ (List.getElem_mem hi')).2.2.2⟩

set_option maxRecDepth 100000 in
set_option maxHeartbeats 2000000 in
theorem l09Unit_any (m : Nat) (x : Int) (w : World) (hm : m ≤ 28) : Calls Try.prog 96 #[.int .i64 m, .int .i64 x] w fun e w' => ∃ a cd os, e = .returned (.slice a m cd) ∧ os.map RowV.xs = mkM m m (diaF x) ∧ GrowSS w.heap.size w' (.slice a m cd) m os ∧ Below w.heap.size w w' := by
  obtain ⟨i1, hj, hs0, hs1, hs2⟩ := info_parts infoSlice
  obtain ⟨i0, hi, hz0, hz1, hz2⟩ := info_parts infoInt
  go_enter Try.func96, Try.ntmps96
  go_wp2
  have G0 : Hid (GrowSS w.heap.size (w.alloc (.cells #[] 22)) (.slice (some ⟨w.heap.size, 0, none⟩) 0 0) 0 []) := Lib.hid (GrowSS.empty w)
  have B0 := Lib.hid (below1 w (.cells #[] 22))
  go_loopw [5, 6] (fun ov iv wr => ∃ i : Nat, i ≤ m ∧ iv = .int .i64 i ∧ (∃ a cd os, ov = .slice a i cd ∧ os.map RowV.xs = mkM i m (diaF x) ∧ GrowSS w.heap.size wr (.slice a i cd) i os) ∧ Below w.heap.size w wr) (fun _ iv _ => m - (intOf iv).toNat)
  case atStart => exact ⟨0, Nat.zero_le _, rfl, ⟨_, _, [], rfl, rfl, G0.out⟩, B0.out⟩
  case round =>
    obtain ⟨i, hi2, rfl, ⟨a, cd, os, rfl, hos, hG⟩, hb⟩ := hrel
    clear G0 B0
    have GG := Lib.hid hG; have HOS := Lib.hid hos; have BB := Lib.hid hb
    clear hG hos hb
    obtain ⟨W, hW⟩ : ∃ x, x = wr := ⟨_, rfl⟩
    subst hW
    by_cases hlt : i < m
    · have zw := BB.out.size
      have i1' : (i : Int) < (m : Int) := by omega
      go_wp2_with (at_make; refine wpList_make_full W rfl _ _ 22 rfl W.heap.size 2 i0 (.int .i64 0) 1 Try.underlying22 hi hz0 hz1 .i64 .i64 _ _ m rfl rfl (by omega) (by omega) (by rw [hz2]; omega) (by unfold maxLen; omega) (Nat.le_refl _) ?_)
      intro w4 hown hgrow
      have hb4 := Below.ofGrown hgrow
      have R0 := (own_madeR hown).1.1
      have c0 := R0.cellAt i hlt
      have f0 := R0.frozenAt i
      have z4 := (World.ownsRow.lt R0 W.heap.size rfl).2
      have hst := (R0.store i x).1
      have hse : (List.replicate m (0 : Int)).set i x = (List.range m).map (diaF x i) := by
        refine List.ext_getElem (by simp) fun q h1 h2 => ?_
        rw [List.getElem_set]
        simp only [List.getElem_replicate, List.getElem_map, List.getElem_range]
        unfold diaF
        rfl
      rw [hse] at hst
      have RR := Lib.hid hst
      have B4 := Lib.hid (hb4.setCell (p := ⟨W.heap.size, i, none⟩) (Nat.le_refl _) (.int .i64 x))
      clear hown hgrow hb4 R0 hst hse
      go_upto_region 7 with fail
      obtain ⟨V, hV⟩ : ∃ V, V = w4.setCell ⟨W.heap.size, i, none⟩ (.int .i64 x) := ⟨_, rfl⟩
      rw [← hV] at RR B4 ⊢
      clear hV c0 f0 z4
      have G2 := Lib.hid (GG.out.below B4.out)
      have B5 := Lib.hid (BB.out.trans (B4.out.mono zw))
      have hgl := GG.out.lt
      go_wp2_with (at_builtin; refine wpList_append_own_at _ rfl _ _ 32 rfl w.heap.size 22 i1 (.slice none 0 0) 1 24 Try.underlying32 hj hs0 hs1 hs2 rfl (by decide) _ _ _ rfl (World.ownsRow.alloc G2.out.own _) ⟨V.heap.size, 0, none⟩ 1 1 [.slice (some ⟨W.heap.size, 0, none⟩) m m] rfl rfl (cell_one_new V _ _) (fun u hu => by simp at hu; subst hu; rfl) (by unfold maxLen; omega) (by omega) (by simp; have := B4.out.size; omega) ?_)
      intro v' w5 hown hgrow _ hat
      have hgx := G2.out.append (RR.out.mono zw) (by omega) (fun y hy => hgl.1 y hy) (fun j hj => hgl.2 j hj) hown hgrow (by simpa using hat)
      have hbx := G2.out.appBelow B5.out.size hgrow
      obtain ⟨a2, c2, rfl⟩ := hgx.form
      have GX := Lib.hid hgx
      have BX := Lib.hid (B5.out.trans hbx)
      clear hgx hbx hown hgrow hat
      go_wp2
      go_roundw
      case rel => exact ⟨i + 1, by omega, by go_num, ⟨a2, c2, _, rfl, by rw [List.map_append, HOS.out, mkM_succ]; rfl, GX.out⟩, BX.out⟩
      case measure => simp [intOf]; omega
    · have him : i = m := by omega
      subst him
      go_wp2
      go_ret
      exact ⟨a, cd, os, rfl, HOS.out, GG.out, BB.out⟩

end Go.Proofs.Ytelmdfkcclhhjaa
