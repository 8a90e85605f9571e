/- The model's elimination: plain lemmas, and its rows at the start. -/
import Derived.Test.YtelmdfkcclhhjaaGSol
import Derived.Test.YtelmdfkcclhhjaaCChr
import Derived.Test.YtelmdfkcclhhjaaRkS
namespace Go.Proofs.Ytelmdfkcclhhjaa
open Go.RowKit Go.ChangeShapes

/-- A matrix with the unit matrix behind it. -/
def augF (m : Nat) (A : Nat → Nat → Int) (i j : Nat) : Int := if j < m then A i j else if j = m + i then 1 else 0

theorem augF_rem {m : Nat} {A : Nat → Nat → Int} (h : Rem m m A) : Rem m (2 * m) (augF m A) := fun i j hi _ => by
  unfold augF
  split
  · exact h i j hi (by assumption)
  · split <;> decide

/-- The unit row. -/
def unitM (m i : Nat) : List Int := (List.replicate m 0).set i 1

theorem augF_row (m : Nat) (A : Nat → Nat → Int) (i : Nat) : (List.range m).map (A i) ++ unitM m i = (List.range (2 * m)).map (augF m A i) := by
  refine List.ext_getElem (by simp [unitM]; omega) fun j h1 h2 => ?_
  rw [List.getElem_append]
  simp only [List.length_map, List.length_range, List.getElem_map, List.getElem_range]
  unfold augF
  by_cases e : j < m
  · rw [dif_pos e, if_pos e]
  · rw [dif_neg e, if_neg e]
    unfold unitM
    rw [List.getElem_set, List.getElem_replicate]
    by_cases e2 : i = j - m
    · rw [if_pos e2, if_pos (by omega)]
    · rw [if_neg e2, if_neg (by omega)]

theorem HMx.congr {w : World} {g m : Nat} {K b s c : Nat → Nat} {f f' : Nat → Nat → Int} (h : HMx w g m K b s c f) (e : ∀ i j, i < m → j < K i → f i j = f' i j) : HMx w g m K b s c f' :=
  { h with el := (h.toRMx.congr e).el }

theorem cleP_next {h : Nat → Nat → Int} {k i : Nat} (a b : Nat) : (if a = i then clearF h k i b else cleP h k i a b) = cleP h k (i + 1) a b := by
  unfold cleP
  by_cases e : a = i
  · rw [if_pos e, if_pos (by omega), e]
  · rw [if_neg e]
    by_cases e3 : a = k ∨ a < i
    · rw [if_pos e3, if_pos (by omega)]
    · rw [if_neg e3, if_neg (by omega)]

theorem cleP_idle {m K : Nat} {h : Nat → Nat → Int} (hr : Rem m K h) {k i : Nat} (hne : i ≠ k) (hz : h i k = 0) {a b : Nat} (ha : a < m) (hb : b < K) : cleP h k i a b = cleP h k (i + 1) a b := by
  rw [← cleP_next]
  by_cases e : a = i
  · subst e
    rw [if_pos rfl, cleP_row hne]
    have := hr a b ha hb
    unfold clearF
    rw [if_neg hne, hz, Int.zero_mul, Int.sub_zero]
    omega
  · rw [if_neg e]

theorem cleP_start {h : Nat → Nat → Int} {k : Nat} (a b : Nat) : (if a = k then ownF h k b else h a b) = cleP h k 0 a b := by
  unfold cleP clearF
  by_cases e : a = k
  · rw [if_pos e, if_pos (.inl e), if_pos e]
  · rw [if_neg e, if_neg (by omega)]

theorem Below.grownV {B : Nat} {T : TypeId} {w w1 : World} {v : Value} {n : Nat} {xs : List Value} (hs : B ≤ w.heap.size) (ho : w.ownsRow B T 1 v n xs) (hg : w.grownBy w1 v.ownBlock) : Below B w w1 :=
  (Below.refl B w).grown hg hs (fun k hk => (World.ownsRow.lt ho k hk).1)

theorem Own.capge {B : Nat} {w : World} {a : Option Addr} {m c : Nat} {l : List Int} (h : Own B w a m c l) : m ≤ c := by
  rcases h.2 with ⟨hv, h0⟩ | ⟨g, c', cur, hv, hB, hh, hn, _⟩
  · omega
  · simp only [Value.slice.injEq] at hv
    omega

/-- What grows by append, as headers and cells. -/
theorem GrowSS.hmxC {B : Nat} {w : World} {a : Option Addr} {m cd k : Nat} {os : List RowV} {f : Nat → Nat → Int} (h : GrowSS B w (.slice a m cd) m os) (hX : os.map RowV.xs = mkM m k f) (hm : 0 < m) (hk : 0 < k) :
    ∃ g b s c, a = some ⟨g, 0, none⟩ ∧ HMx w g m (fun _ => k) b s c f ∧ B ≤ g ∧ ∀ i, i < m → B ≤ b i ∧ b i < w.heap.size ∧ k ≤ c i := by
  have hl := h.len
  have hr := h.ownSS.reads
  obtain ⟨g, cap, hv, hg1, hg2⟩ := h.own.form hm
  simp only [Value.slice.injEq, true_and] at hv
  obtain ⟨rfl, rfl⟩ := hv
  have key : ∀ i (hi : i < os.length), os[i].a = some ⟨os[i].b, 0, none⟩ ∧ os[i].n = k ∧ ∀ j, j < k → w.cell? ⟨os[i].b, 0 + j, none⟩ = some (.int .i64 (f i j)) := by
    intro i hi
    obtain ⟨hn, hx⟩ := mkM_rows hr hX hi
    obtain ⟨h1, h2, h3, h4⟩ := h.row _ (List.getElem_mem hi)
    rw [hn] at h1
    obtain ⟨gb, e1, e2, e3⟩ := Own.block h1.1 hk
    have e4 := h1.2 _ e1
    have e5 : os[i].b = gb := by simp only at e4; omega
    refine ⟨by rw [e1, e5], hn, fun j hj => ?_⟩
    have h5 := h1.1
    rw [e1] at h5
    rw [Nat.zero_add, e5, h5.cellAt j hj, hx j hj]
  refine ⟨g, fun i => (os.getD i ⟨0, none, 0, 0, []⟩).b, fun _ => 0, fun i => (os.getD i ⟨0, none, 0, 0, []⟩).cap, rfl, ?_, hg1, fun i hi => ?_⟩
  · refine { hd := fun i hi => ?_, el := fun i j hi hj => ?_, fg := fun j => World.ownsRow.frozenAt h.own j, lt := hg2, ne := fun i hi => ?_ }
    · have hi' : i < os.length := by omega
      have hc := World.ownsRow.cells h.own (g := g) rfl i (RowV.val os[i]) (by simp [hi'])
      have e : (⟨g, 0, none⟩ : Addr).add i = ⟨g, i, none⟩ := by cases i <;> simp [Addr.add]
      rw [e] at hc
      obtain ⟨k1, k2, _⟩ := key i hi'
      simp only [List.getD, List.getElem?_eq_getElem hi', Option.getD_some]
      rw [hc]
      unfold RowV.val
      rw [k1, k2]
    · have hi' : i < os.length := by omega
      simp only [List.getD, List.getElem?_eq_getElem hi', Option.getD_some]
      exact (key i hi').2.2 j hj
    · have hi' : i < os.length := by omega
      simp only [List.getD, List.getElem?_eq_getElem hi', Option.getD_some]
      intro e
      exact h.sep _ (List.getElem_mem hi') (by rw [e]; rfl)
  · have hi' : i < os.length := by omega
    simp only [List.getD, List.getElem?_eq_getElem hi', Option.getD_some]
    refine ⟨(h.row _ (List.getElem_mem hi')).2.2.1, (h.row _ (List.getElem_mem hi')).2.2.2, ?_⟩
    have h9 := (h.row _ (List.getElem_mem hi')).1.1.capge
    rw [(key i hi').2.1] at h9
    exact h9

theorem HMx.swapC {w : World} {g m k : Nat} {b s c : Nat → Nat} {f : Nat → Nat → Int} (h : HMx w g m (fun _ => k) b s c f) {r t : Nat} (hr : r < m) (ht : t < m) :
    ∃ b' s' c', HMx ((w.setCell ⟨g, t, none⟩ (.slice (some ⟨b r, s r, none⟩) k (c r))).setCell ⟨g, r, none⟩ (.slice (some ⟨b t, s t, none⟩) k (c t))) g m (fun _ => k) b' s' c' (swF f r t) ∧ ∀ i, i < m → ∃ j, j < m ∧ b' i = b j ∧ c' i = c j := by
  have h1 := h.put (f' := fun i => if i = t then f r else f i) (i := t) (bn := b r) (sn := s r) (cn := c r) ht (h.ne r hr) (fun j hj => by rw [if_pos rfl]; exact h.el r j hr hj) (fun x j _ hx _ => by rw [if_neg hx])
  have h2 := h1.put (f' := swF f r t) (i := r) (bn := b t) (sn := s t) (cn := c t) hr (h.ne t ht) (fun j hj => by
    unfold swF
    rw [if_pos rfl]
    exact (World.cell?_setCell_far _ _ _ _ (Ne.symm (h.ne t ht))).trans (h.el t j ht hj)) (fun x j _ hx _ => by unfold swF; rw [if_neg hx])
  refine ⟨_, _, _, h2, fun i hi => ?_⟩
  by_cases e : i = r
  · exact ⟨t, ht, by simp only [if_pos e], by simp only [if_pos e]⟩
  · by_cases e2 : i = t
    · exact ⟨r, hr, by simp only [if_neg e, if_pos e2], by simp only [if_neg e, if_pos e2]⟩
    · exact ⟨i, hi, by simp only [if_neg e, if_neg e2], by simp only [if_neg e, if_neg e2]⟩

end Go.Proofs.Ytelmdfkcclhhjaa
