/- slices.Insert of one number into a slice of numbers of one's own. -/
import Derived.Test.YtmlejlediflaaaaQA
import Derived.Shelf.Spec.SlicesInsert
import Derived.Lib.AppendZerosOnto
import Derived.RangeFuncBox
import Derived.Deep.Upon
namespace Go.Proofs.Ytmlejlediflaaaa
open Go.RowKit Go.ChangeShapes Go.Lib Go.Shelf

/-- Values are stored into a row, one behind the other. -/
theorem owns_setCells {B g n cap : Nat} {e : TypeId} : ∀ (vs : List Value) (o : Nat) (ys : List Value) (w : World), w.ownsRow B e 1 (.slice (some ⟨g, 0, none⟩) n cap) n ys → o + vs.length ≤ n →
    (w.setCells g o vs).ownsRow B e 1 (.slice (some ⟨g, 0, none⟩) n cap) n (ys.take o ++ vs ++ ys.drop (o + vs.length))
  | [], o, ys, w, h, _ => by simpa [World.setCells] using h
  | v :: r, o, ys, w, h, hl => by
    have hyl : ys.length = n := by have := h.1; omega
    rw [List.length_cons] at hl
    have h1 := owns_setCells r (o + 1) (ys.set o v) _ (World.ownsRow.stored h o v).1 (by omega)
    have e1 : (ys.set o v).take (o + 1) ++ r ++ (ys.set o v).drop (o + 1 + r.length) = ys.take o ++ (v :: r) ++ ys.drop (o + (v :: r).length) := by
      rw [List.drop_set_of_lt (by omega), List.length_cons, show o + 1 + r.length = o + (r.length + 1) by omega]
      congr 1
      rw [List.take_succ_eq_append_getElem (by rw [List.length_set]; omega), List.take_set, List.getElem_set_self, List.set_eq_of_length_le (by simp; omega)]
      simp
    rw [e1] at h1
    exact h1

theorem below_setCells {B g : Nat} (hg : B ≤ g) {w0 : World} : ∀ (vs : List Value) (o : Nat) (w : World), Below B w0 w → Below B w0 (w.setCells g o vs)
  | [], _, _, h => h
  | v :: r, o, _, h => below_setCells hg r (o + 1) _ (h.setCell (p := ⟨g, o, none⟩) hg v)

/-- A row is seen with one cell more. -/
theorem owns_more {B g n cap : Nat} {e : TypeId} {xs : List Value} {w : World} (h : w.ownsRow B e 1 (.slice (some ⟨g, 0, none⟩) n cap) n xs) (hn : n < cap) :
    ∃ ys : List Value, ys.take n = xs ∧ ys.length = n + 1 ∧ w.ownsRow B e 1 (.slice (some ⟨g, 0, none⟩) (n + 1) cap) (n + 1) ys := by
  rcases h.2 with ⟨hv, _⟩ | ⟨g', c', cur, hv, hb, hh, e1, e2, e3, e4⟩
  · cases hv
  · obtain ⟨rfl, rfl⟩ : g' = g ∧ c' = cap := by
      simp only [Value.slice.injEq, Option.some.injEq, Addr.mk.injEq, and_true, true_and] at hv
      omega
    rw [Nat.mul_one] at e3 e4
    have hl : (cur.toList.take (n + 1)).length = n + 1 := by rw [List.length_take, Array.length_toList]; omega
    refine ⟨cur.toList.take (n + 1), ?_, hl, by rw [hl]; simp, .inr ⟨g', c', cur, rfl, hb, hh, hn, e2, by omega, by rw [Nat.mul_one]⟩⟩
    rw [List.take_take, Nat.min_eq_left (by omega), e4]

theorem owns_cells {B g n cap : Nat} {e : TypeId} {xs : List Value} {w : World} (h : w.ownsRow B e 1 (.slice (some ⟨g, 0, none⟩) n cap) n xs) : (∀ j v, xs[j]? = some v → w.cell? ⟨g, j, none⟩ = some v) ∧ (∀ j, j < cap → (w.cell? ⟨g, j, none⟩).isSome = true) ∧ (∀ j, w.frozen? ⟨g, j, none⟩ = false) ∧ n ≤ cap ∧ cap ≤ maxLen ∧ B ≤ g ∧ g < w.heap.size ∧ w.shape? g = some (e, cap) := by
  rcases h.2 with ⟨hv, _⟩ | ⟨g', c', cur, hv, hb, hh, e1, e2, e3, e4⟩
  · cases hv
  · obtain ⟨rfl, rfl⟩ : g' = g ∧ c' = cap := by
      simp only [Value.slice.injEq, Option.some.injEq, Addr.mk.injEq, and_true, true_and] at hv
      omega
    rw [Nat.mul_one] at e3 e4
    have hc : ∀ j, w.cell? ⟨g', j, none⟩ = cur[j]? := fun j => by simp [World.cell?, hh]
    refine ⟨fun j v hj => ?_, fun j hj => ?_, fun j => by simp [World.frozen?, hh], e1, e2, hb, (Array.getElem?_eq_some_iff.1 hh).1, by simp [World.shape?, hh, e3]⟩
    · rw [hc, ← Array.getElem?_toList]
      rw [← e4, List.getElem?_take] at hj
      split at hj
      · exact hj
      · cases hj
    · rw [hc, Array.getElem?_eq_getElem (by omega)]; rfl

theorem ins_list (xs : List Int) (x : Int) (i n : Nat) (ys : List Value) (hl : xs.length = n) (hi : i ≤ n) (hy : ys.take i = (ints xs).take i) (hyl : ys.length = n + 1) :
    ((ys.take (i + 1) ++ (ints xs).drop i ++ ys.drop (i + 1 + ((ints xs).drop i).length)).take i ++ [Value.int .i64 x] ++ (ys.take (i + 1) ++ (ints xs).drop i ++ ys.drop (i + 1 + ((ints xs).drop i).length)).drop (i + 1)) = ints (xs.take i ++ x :: xs.drop i) := by
  have hil : (ints xs).length = n := by simp [ints, hl]
  have e0 : ys.drop (i + 1 + ((ints xs).drop i).length) = [] := List.drop_eq_nil_of_le (by rw [List.length_drop, hil]; omega)
  rw [e0, List.append_nil]
  have e1 : (ys.take (i + 1) ++ (ints xs).drop i).take i = (ints xs).take i := by
    rw [List.take_append_of_le_length (by rw [List.length_take]; omega), List.take_take, Nat.min_eq_left (by omega), hy]
  have e2 : (ys.take (i + 1) ++ (ints xs).drop i).drop (i + 1) = (ints xs).drop i := by
    have := List.length_take (i := i + 1) (l := ys)
    rw [List.drop_append_of_le_length (by rw [List.length_take]; omega), List.drop_take_self, List.nil_append]
  rw [e1, e2]
  simp [ints, List.map_take, List.map_drop]

set_option maxHeartbeats 4000000 in
set_option maxRecDepth 100000 in
theorem insert_any (B g n c i vb : Nat) (x : Int) (xs : List Int) (w : World) (hi : i < n) (hn : n ≤ 1000) (ho : Own B w (some ⟨g, 0, none⟩) n c xs) (hB : B ≤ w.heap.size) (hv : Boxed w vb 2 (.int .i64 x)) (hvb : vb ≠ g) :
    Calls Try.prog 95 #[.slice (some ⟨g, 0, none⟩) n c, .int .i64 i, .slice (some ⟨vb, 0, none⟩) 1 1] w fun e w' =>
      ∃ g' c', e = .returned (.slice (some ⟨g', 0, none⟩) (n + 1) c') ∧ Own B w' (some ⟨g', 0, none⟩) (n + 1) c' (xs.take i ++ x :: xs.drop i) ∧ Below B w w' := by
  obtain ⟨i0, hi0, hz0, hzs, hzb⟩ := info_parts infoInt
  have hsz : (Try.prog.info? 2).map (·.size) = some 1 := by rw [hi0]; simp [hzs]
  obtain ⟨hcs, hsp, hfz, hnc, hcm, hBg, hgl, hsb⟩ := owns_cells ho
  have hxl : xs.length = n := ho.len
  have hil : (ints xs).length = n := by simp [ints, hxl]
  have hdl : ((ints xs).drop i).length = n - i := by rw [List.length_drop, hil]
  have hc63 : c ≤ 9223372036854775807 := by unfold maxLen at hcm; omega
  have h1c : ∀ v ∈ ints xs, v.oneCell' = true := ints_cells xs
  have h1v : ∀ v ∈ [Value.int .i64 x], v.oneCell' = true := one_cell x
  have hvs : ∀ j v, [Value.int .i64 x][j]? = some v → w.cell? ⟨vb, 0 + j, none⟩ = some v := fun j v hj => by
    match j, hj with
    | 0, hj => simp at hj; subst hj; exact hv.cell
  have hvw := hv.lt
  have hz2 : ¬ ((i : Int) = (n : Int)) := by omega
  have hin : i ≤ n := by omega
  have hw1 : IntKind.i64.wrap ((i : Int) + 1) = (i : Int) + 1 := IntWalk.i64_in _ (by omega)
  have hw2 : IntKind.i64.wrap ((n : Int) + 1) = (n : Int) + 1 := IntWalk.i64_in _ (by omega)
  have hw3 : IntKind.i64.wrap ((n : Int) + 1 - (i : Int)) = (n : Int) + 1 - (i : Int) := IntWalk.i64_in _ (by omega)
  have hb1 : (0 : Int) ≤ (i : Int) + 1 := by omega
  have htn : ((i : Int) + 1).toNat = i + 1 := by omega
  have htm : ((n : Int) + 1).toNat = n + 1 := by omega
  have hb3 : (i : Int) ≤ (n : Int) + 1 := by omega
  have hb5 : (i : Int) + 1 ≤ (n : Int) + 1 := by omega
  have hb6 : (0 : Int) ≤ (n : Int) + 1 := by omega
  by_cases hroom : n + 1 ≤ c
  · have hb2 : ¬ (c = i + 1) := by omega
    have hb4 : ¬ (c = i) := by omega
    have hb7 : (n : Int) + 1 ≤ (c : Int) := by omega
    have hg1 : ¬ ((c : Int) < (n : Int) + 1) := by omega
    obtain ⟨ys, hyt, hyl, hmore⟩ := owns_more ho (by omega)
    have hov : ∀ lb cb, (callFunc 120 #[.slice (some ⟨vb, 0, none⟩) 1 1, .slice (some ⟨g, i + 1, none⟩) lb cb]).run Try.prog w = .ok (.value (.bool false)) w := fun lb cb => by
      rw [run_callFunc_extern Try.func120 (by kernel_rfl) (by kernel_rfl) (by kernel_rfl) (e := Extern.SlicesOverlaps.overlaps #[22, 22] #[4]) (by kernel_rfl),
        Lib.run_overlaps_apart w 22 4 2 Try.underlying22 1 (fun w => by kernel_rfl) ⟨vb, 0, none⟩ ⟨g, i + 1, none⟩ 1 1 lb cb hvb 2 2 1 c (by simp [World.shape?, show w.heap[vb]? = _ from hv]) hsb (by omega) hv.frozen (by simp [World.frozen?, show w.heap[vb]? = _ from hv])]
      rfl
    have hcp1 : ∀ ty dc sc, (Builtin.copy_ #[22, 22] ty #[.slice (some ⟨g, i + 1, none⟩) (n - i) dc, .slice (some ⟨g, i, none⟩) (n + 1 - i) sc]).run Try.prog w.drew = .ok (goInt ((ints xs).drop i).length) (w.drew.setCells g (i + 1) ((ints xs).drop i)) := fun ty dc sc =>
      run_copy_cells w.drew _ _ ty 2 g (i + 1) (n - i) dc ⟨g, i, none⟩ (n + 1 - i) sc ((ints xs).drop i) Try.underlying22 hsz (by rw [hdl]; simp only [Nat.min_def]; split <;> omega)
        (fun j v hj => by rw [Addr.add_lit]; exact hcs (i + j) v (by rwa [List.getElem?_drop] at hj))
        (fun j hj => hsp _ (by omega)) (fun j hj => hfz _) (fun v hv => h1c v (List.mem_of_mem_drop hv))
    obtain ⟨W1, hW1⟩ : ∃ W1, W1 = w.drew.setCells g (i + 1) ((ints xs).drop i) := ⟨_, rfl⟩
    have ho1 := owns_setCells ((ints xs).drop i) (i + 1) ys w.drew hmore (by omega)
    have hbl1 : Below B w (w.drew.setCells g (i + 1) ((ints xs).drop i)) := below_setCells hBg _ _ _ (Below.refl _ _).drew
    rw [← hW1] at ho1 hbl1
    obtain ⟨_, hsp1, hfz1, _, _, _, _, _⟩ := owns_cells ho1
    have hcp2 : ∀ (W : World), (∀ x, W.cell? x = W1.cell? x) → (∀ x, W.frozen? x = W1.frozen? x) → ∀ ty dc, (Builtin.copy_ #[22, 22] ty #[.slice (some ⟨g, i, none⟩) (n + 1 - i) dc, .slice (some ⟨vb, 0, none⟩) 1 1]).run Try.prog W = .ok (goInt [Value.int .i64 x].length) (W.setCells g i [Value.int .i64 x]) := fun W hWc hWf ty dc =>
      run_copy_cells W _ _ ty 2 g i (n + 1 - i) dc ⟨vb, 0, none⟩ 1 1 [Value.int .i64 x] Try.underlying22 hsz (by simp only [Nat.min_def, List.length_singleton]; split <;> omega)
        (fun j v hj => by
          rw [Addr.add_lit, hWc, hW1, World.cell?_setCells_out g _ _ _ _ (fun h _ => absurd h hvb)]
          exact hvs j v hj)
        (fun j hj => by rw [hWc]; exact hsp1 _ (by simp at hj; omega)) (fun j hj => by rw [hWf]; exact hfz1 _) h1v
    rw [← hW1] at hcp1
    have ho2 := owns_setCells [Value.int .i64 x] i _ W1 ho1 (by simp; omega)
    have hbl2 := below_setCells hBg [Value.int .i64 x] i W1 hbl1
    rw [List.length_singleton, ins_list xs x i n ys hxl hin (by rw [show ints xs = ys.take n from hyt.symm, List.take_take, Nat.min_eq_left hin]) hyl] at ho2
    have HO2 := Lib.hid ho2; have HB2 := Lib.hid hbl2
    clear ho1 hbl1 ho2 hbl2 hmore hsp1 hfz1 ho hcs hsp hfz hyt
    go_enter Try.func95, Try.ntmps95
    go_wp2_with (simp only [hov])
    have mixed : Try.prog.follows Departure.mixedOrders = true := by kernel_rfl
    go_region_law_o (refine step_copy_runI rfl _ _ 22 22 rfl _ _ (by simp [Act.eval, Act.put]) (by simp [Act.eval, Act.put]) (hcp1 _ _ _) ?_)
    go_wp2_with (at_builtin; refine wpList_copy_runI _ rfl _ _ 22 22 rfl _ _ rfl rfl (hcp2 _ (fun _ => rfl) (fun _ => rfl) _ _) ?_)
    go_ret
    exact ⟨g, c, rfl, hW1 ▸ HO2.out, hW1 ▸ HB2.out⟩
  · have hcn : c = n := by omega
    subst hcn
    have hz3 : (c : Int) < (c : Int) + 1 := by omega
    have hik : i + (c + 1 - i) = c + 1 := by omega
    have hkk : (c : Int) + 1 - (i : Int) = ((c + 1 - i : Nat) : Int) := by omega
    have hold : (Builtin.firstCells i0.size i (.slice (some ⟨g, 0, none⟩) i c)).run Try.prog w.drew = .ok ((ints xs).take i).toArray w.drew := by
      rw [hzs]
      exact run_firstCells_some (w := w.drew) 1 i ⟨g, 0, none⟩ i c ((ints xs).take i) (by rw [List.length_take]; omega) (fun j v hj => by
        rw [Addr.add_lit, Nat.zero_add]
        rw [List.getElem?_take] at hj
        split at hj
        · exact hcs j v hj
        · cases hj)
    have hrz : ∀ ty, (Builtin.append_ #[22, 3] ty #[.slice (some ⟨g, 0, none⟩) i c, .int .i64 ((c : Int) + 1 - (i : Int))]).run Try.prog w =
        .ok (.slice (some ⟨w.heap.size, 0, none⟩) (c + 1) (grownCap w (c + 1) c 2)) (w.drew.alloc (.cells (((ints xs).take i).toArray ++ Builtin.zeroCells (Value.int .i64 0).cells (c + 1 - i) ++ Builtin.zeroCells (Value.int .i64 0).cells (grownCap w (c + 1) c 2 - (c + 1))) 2)) := fun ty => by
      have h := Lib.run_append_grow_zeros w 22 3 ty 2 i0 _ .i64 .i64 Try.underlying22 Try.underlying3 hi0 hz0 (some ⟨g, 0, none⟩) i c ((ints xs).take i) hold (c + 1 - i) (by omega) (by omega) (by omega) (by omega) (by rw [hzb]; omega) (by rw [hzb, hik]; exact growslice_fits (by omega) (by omega))
      rw [hik] at h
      rw [hkk]
      exact h
    obtain ⟨G, hG⟩ : ∃ G, G = grownCap w (c + 1) c 2 := ⟨_, rfl⟩
    obtain ⟨ROW, hROW⟩ : ∃ ROW : Array Value, ROW = ((ints xs).take i).toArray ++ Builtin.zeroCells (Value.int .i64 0).cells (c + 1 - i) ++ Builtin.zeroCells (Value.int .i64 0).cells (G - (c + 1)) := ⟨_, rfl⟩
    rw [← hG] at hrz
    rw [← hROW] at hrz
    have hGn : c + 1 ≤ G := by rw [hG]; exact grownCap_ge w _ _ _
    have hGm : G ≤ maxLen := by
      rw [hG]
      exact grownCap_le_maxLen w (c + 1) c 2 (by unfold maxLen; omega)
    have hRl : ROW.size = G := by
      rw [hROW]
      simp [Builtin.zeroCells, Value.cells, hil]
      omega
    have hRt : ROW.toList.take i = (ints xs).take i := by
      rw [hROW]
      rw [Array.toList_append, Array.toList_append, List.append_assoc, List.take_append_of_le_length (by rw [List.length_take]; omega), List.take_take, Nat.min_self]
    have hown : (w.drew.alloc (.cells ROW 2)).ownsRow B 2 1 (.slice (some ⟨w.heap.size, 0, none⟩) (c + 1) G) (c + 1) (ROW.toList.take (c + 1)) :=
      ⟨by rw [List.length_take, Array.length_toList]; omega, .inr ⟨w.heap.size, G, ROW, rfl, hB, World.alloc_heap_new w.drew _, hGn, hGm, by omega, by rw [Nat.mul_one]⟩⟩
    have hblA : Below B w (w.drew.alloc (.cells ROW 2)) := (Below.refl B w).drew.alloc hB _
    obtain ⟨W1, hW1⟩ : ∃ W1, W1 = w.drew.alloc (.cells ROW 2) := ⟨_, rfl⟩
    have hOb : ∀ j v, w.cell? ⟨g, j, none⟩ = some v → W1.cell? ⟨g, j, none⟩ = some v := fun j v h => by rw [hW1, World.cell?_alloc_past (w := w.drew) _ g j hgl]; exact h
    have hOv : ∀ j v, w.cell? ⟨vb, j, none⟩ = some v → W1.cell? ⟨vb, j, none⟩ = some v := fun j v h => by rw [hW1, World.cell?_alloc_past (w := w.drew) _ vb j hvw]; exact h
    rw [← hW1] at hrz hown hblA
    obtain ⟨_, hN, hNf, _, _, _, _, _⟩ := owns_cells hown
    have hgN : g ≠ w.heap.size := by omega
    have hcpA : ∀ (W : World), (∀ x, W.cell? x = W1.cell? x) → (∀ x, W.frozen? x = W1.frozen? x) → ∀ ty dc, (Builtin.copy_ #[22, 22] ty #[.slice (some ⟨w.heap.size, i, none⟩) (c + 1 - i) dc, .slice (some ⟨vb, 0, none⟩) 1 1]).run Try.prog W = .ok (goInt [Value.int .i64 x].length) (W.setCells w.heap.size i [Value.int .i64 x]) := fun W hWc hWf ty dc =>
      run_copy_cells W _ _ ty 2 w.heap.size i (c + 1 - i) dc ⟨vb, 0, none⟩ 1 1 [Value.int .i64 x] Try.underlying22 hsz (by simp only [Nat.min_def, List.length_singleton]; split <;> omega)
        (fun j v hj => by rw [Addr.add_lit, hWc]; exact hOv _ v (hvs j v hj))
        (fun j hj => by rw [hWc]; exact hN _ (by simp at hj; omega)) (fun j hj => by rw [hWf]; exact hNf _) h1v
    have ho1 := owns_setCells [Value.int .i64 x] i _ W1 hown (by simp; omega)
    have hbl1 := below_setCells hB [Value.int .i64 x] i W1 hblA
    obtain ⟨_, hN2, hNf2, _, _, _, _, _⟩ := owns_cells ho1
    have hcpB : ∀ (W : World), (∀ p, W.cell? p = (W1.setCells w.heap.size i [Value.int .i64 x]).cell? p) → (∀ p, W.frozen? p = (W1.setCells w.heap.size i [Value.int .i64 x]).frozen? p) → ∀ ty dc sc, (Builtin.copy_ #[22, 22] ty #[.slice (some ⟨w.heap.size, i + 1, none⟩) (c - i) dc, .slice (some ⟨g, i, none⟩) (c - i) sc]).run Try.prog W = .ok (goInt ((ints xs).drop i).length) (W.setCells w.heap.size (i + 1) ((ints xs).drop i)) := fun W hWc hWf ty dc sc =>
      run_copy_cells W _ _ ty 2 w.heap.size (i + 1) (c - i) dc ⟨g, i, none⟩ (c - i) sc ((ints xs).drop i) Try.underlying22 hsz (by rw [hdl]; simp only [Nat.min_def]; split <;> omega)
        (fun j v hj => by
          rw [Addr.add_lit, hWc, World.cell?_setCells_out _ _ _ _ _ (fun h _ => absurd h hgN)]
          exact hOb _ v (hcs (i + j) v (by rwa [List.getElem?_drop] at hj)))
        (fun j hj => by rw [hWc]; rw [hdl] at hj; exact hN2 _ (by omega)) (fun j hj => by rw [hWf]; exact hNf2 _) (fun v hv => h1c v (List.mem_of_mem_drop hv))
    have ho2 := owns_setCells ((ints xs).drop i) (i + 1) _ _ ho1 (by omega)
    have hbl2 := below_setCells hB ((ints xs).drop i) (i + 1) _ hbl1
    have l1 : ((ROW.toList.take (c + 1)).take i).length = i := by rw [List.length_take, List.length_take, Array.length_toList]; omega
    have l2 : ((ROW.toList.take (c + 1)).take i ++ [Value.int .i64 x]).length = i + 1 := by rw [List.length_append, l1]; rfl
    have l3 : ((ROW.toList.take (c + 1)).drop (i + [Value.int .i64 x].length)).length = c - i := by rw [List.length_drop, List.length_take, Array.length_toList, List.length_singleton]; omega
    have hlist : ∀ L, L = (ROW.toList.take (c + 1)).take i ++ [Value.int .i64 x] ++ (ROW.toList.take (c + 1)).drop (i + [Value.int .i64 x].length) → L.take (i + 1) ++ (ints xs).drop i ++ L.drop (i + 1 + ((ints xs).drop i).length) = ints (xs.take i ++ x :: xs.drop i) := fun L hL => by
      have hLl : L.length = c + 1 := by rw [hL, List.length_append, l2, l3]; omega
      have hLt : L.take (i + 1) = (ints xs).take i ++ [Value.int .i64 x] := by
        rw [hL, List.take_append_of_le_length (by omega), List.take_of_length_le (by omega), List.take_take, Nat.min_eq_left (by omega), hRt]
      have e0 : L.drop (i + 1 + ((ints xs).drop i).length) = [] := List.drop_eq_nil_of_le (by rw [hdl]; omega)
      rw [e0, List.append_nil, hLt]
      simp [ints, List.map_take, List.map_drop]
    rw [hlist _ rfl] at ho2
    have HO2 := Lib.hid ho2; have HB2 := Lib.hid hbl2
    clear hlist l1 l2 l3 ho2 hbl2 ho1 hbl1 hown hblA hN hN2 hNf hNf2 hOb hOv hRt hRl hkk hik hold hROW hG ho hcs hsp hfz hroom
    subst hW1
    have hE1 : ∀ x, ((w.alloc (.cells ROW 2)).drew).cell? x = (w.drew.alloc (.cells ROW 2)).cell? x := fun x => rfl
    have hE2 : ∀ x, ((w.alloc (.cells ROW 2)).drew).frozen? x = (w.drew.alloc (.cells ROW 2)).frozen? x := fun x => rfl
    have hF1 : ∀ p, (((w.alloc (.cells ROW 2)).drew.setCells w.heap.size i [Value.int .i64 x]).drew).cell? p = ((w.drew.alloc (.cells ROW 2)).setCells w.heap.size i [Value.int .i64 x]).cell? p := fun p => rfl
    have hF2 : ∀ p, (((w.alloc (.cells ROW 2)).drew.setCells w.heap.size i [Value.int .i64 x]).drew).frozen? p = ((w.drew.alloc (.cells ROW 2)).setCells w.heap.size i [Value.int .i64 x]).frozen? p := fun p => rfl
    have hGi : ¬ (G = i) := by omega
    have hGim : ¬ (G = i + 1) := by omega
    have hci : ¬ (c = i) := by omega
    have hG63 : G ≤ 9223372036854775807 := by unfold maxLen at hGm; omega
    have hb8 : (i : Int) ≤ (c : Int) := by omega
    have mixed : Try.prog.follows Departure.mixedOrders = true := by kernel_rfl
    go_enter Try.func95, Try.ntmps95
    go_wp2_with (first
      | (at_builtin; refine Lib.wpList_append_run _ rfl _ _ _ _ rfl _ _ rfl rfl _ _ (hrz _) ?_)
      | (at_builtin; refine wpList_copy_runI _ rfl _ _ 22 22 rfl _ _ rfl rfl (hcpA _ hE1 hE2 _ _) ?_))
    go_region_law_o (refine step_copy_runI rfl _ _ 22 22 rfl (.slice (some ⟨w.heap.size, i + 1, none⟩) (c - i) (G - (i + 1))) (.slice (some ⟨g, i, none⟩) (c - i) (c - i)) (by simp [Act.eval, Act.put]) (by simp [Act.eval, Act.put]) (hcpB _ hF1 hF2 3 (G - (i + 1)) (c - i)) ?_)
    go_wp2
    go_ret
    exact ⟨w.heap.size, G, rfl, by rw [← drew_setCells]; exact HO2.out, by rw [← drew_setCells]; exact HB2.out.drew⟩

end Go.Proofs.Ytmlejlediflaaaa
