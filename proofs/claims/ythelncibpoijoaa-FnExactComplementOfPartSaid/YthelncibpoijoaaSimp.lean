/- Simple braids as rows of eight numbers: plain lemmas. No program is spoken of. -/
import Derived.Test.YthelncibpoijoaaEight
namespace Go.Proofs.Ythelncibpoijoaa

/-- The row with f at the first n places and zeros behind them. -/
def mapR (n : Nat) (f : Nat → Int) : List Int := (List.range n).map f ++ List.replicate (8 - n) 0

theorem mapR_len (n : Nat) (f : Nat → Int) (h : n ≤ 8) : (mapR n f).length = 8 := by simp [mapR]; omega

theorem at8_mapR (n : Nat) (f : Nat → Int) (j : Nat) : at8 (mapR n f) j = if j < n then f j else 0 := by
  unfold at8 mapR
  by_cases h : j < n
  · simp [List.getD, h, List.getElem?_append]
  · rw [if_neg h, List.getD, List.getElem?_append, if_neg (by simpa using h), List.getElem?_replicate]
    split <;> rfl

theorem ext8 {l m : List Int} (hl : l.length = 8) (hm : m.length = 8) (h : ∀ j, j < 8 → at8 l j = at8 m j) : l = m := by
  refine List.ext_getElem (by omega) fun j h1 h2 => ?_
  have := h j (by omega)
  simpa [at8, List.getD, h1, h2] using this

theorem mapR_step (k : Nat) (f : Nat → Int) (h : k < 8) : (mapR k f).set k (f k) = mapR (k + 1) f := by
  refine ext8 (by simp [mapR_len k f (by omega)]) (mapR_len _ _ (by omega)) fun j hj => ?_
  rw [at8_set _ _ _ _ (by rw [mapR_len k f (by omega)]; exact h), at8_mapR, at8_mapR]
  by_cases e : k = j
  · subst e; simp
  · rw [if_neg e]
    by_cases h2 : j < k
    · rw [if_pos h2, if_pos (by omega)]
    · rw [if_neg h2, if_neg (by omega)]

theorem mapR_congr (n : Nat) (f g : Nat → Int) (h : ∀ j, j < n → f j = g j) : mapR n f = mapR n g := by
  unfold mapR
  congr 1
  exact List.map_congr_left fun j hj => h j (by simpa using hj)

theorem mapR_zero (f : Nat → Int) : mapR 0 f = [0, 0, 0, 0, 0, 0, 0, 0] := rfl

def sameR (n : Nat) : List Int := mapR n fun x => (x : Int)
def halfR (n : Nat) : List Int := mapR n fun x => (n : Int) - 1 - x
def thenR (n : Nat) (a b : List Int) : List Int := mapR n fun x => at8 b (at8 a x).toNat

/-- A simple braid of n strands. -/
structure Sim (n : Nat) (l : List Int) : Prop where
  lo : 1 ≤ n
  hi : n ≤ 8
  len : l.length = 8
  bd : ∀ j, j < n → 0 ≤ at8 l j ∧ at8 l j < n
  inj : ∀ i j, i < n → j < n → at8 l i = at8 l j → i = j
  tail : ∀ j, n ≤ j → at8 l j = 0

theorem at8_over {l : List Int} (h : l.length = 8) (j : Nat) (hj : 8 ≤ j) : at8 l j = 0 := by
  unfold at8
  rw [List.getD, List.getElem?_eq_none (by omega)]
  rfl

theorem Sim.eqR {n : Nat} {l : List Int} (h : Sim n l) : l = mapR n (at8 l) := by
  refine ext8 h.len (mapR_len _ _ h.hi) fun j hj => ?_
  rw [at8_mapR]
  by_cases e : j < n
  · rw [if_pos e]
  · rw [if_neg e]; exact h.tail j (by omega)

theorem Sim.all {n : Nat} {l : List Int} (h : Sim n l) (j : Nat) : 0 ≤ at8 l j ∧ at8 l j < n := by
  by_cases e : j < n
  · exact h.bd j e
  · rw [h.tail j (by omega)]
    have := h.lo
    omega

theorem Sim.mk' {n : Nat} {f : Nat → Int} (h1 : 1 ≤ n) (h8 : n ≤ 8) (hb : ∀ j, j < n → 0 ≤ f j ∧ f j < n) (hi : ∀ i j, i < n → j < n → f i = f j → i = j) : Sim n (mapR n f) where
  lo := h1
  hi := h8
  len := mapR_len _ _ h8
  bd := fun j hj => by rw [at8_mapR, if_pos hj]; exact hb j hj
  inj := fun i j hi' hj e => by rw [at8_mapR, at8_mapR, if_pos hi', if_pos hj] at e; exact hi i j hi' hj e
  tail := fun j hj => by rw [at8_mapR, if_neg (by omega)]

theorem sameR_sim (n : Nat) (h1 : 1 ≤ n) (h8 : n ≤ 8) : Sim n (sameR n) := Sim.mk' h1 h8 (fun j hj => by omega) (fun i j _ _ e => by omega)
theorem halfR_sim (n : Nat) (h1 : 1 ≤ n) (h8 : n ≤ 8) : Sim n (halfR n) := Sim.mk' h1 h8 (fun j hj => by omega) (fun i j _ _ e => by omega)

theorem thenR_sim {n : Nat} {a b : List Int} (ha : Sim n a) (hb : Sim n b) : Sim n (thenR n a b) := by
  refine Sim.mk' ha.lo ha.hi (fun j hj => ?_) (fun i j hi hj e => ?_)
  · have := ha.bd j hj
    exact hb.bd _ (by omega)
  · have h1 := ha.bd i hi
    have h2 := ha.bd j hj
    have := hb.inj _ _ (by omega) (by omega) e
    exact ha.inj i j hi hj (by omega)

theorem thenR_then {n : Nat} (a b c : List Int) (ha : Sim n a) : thenR n (thenR n a b) c = thenR n a (thenR n b c) := by
  unfold thenR
  refine mapR_congr _ _ _ fun j hj => ?_
  have h1 := ha.bd j hj
  rw [at8_mapR, at8_mapR, if_pos hj, if_pos (by omega)]

/-- Lists of distinct numbers below n are at most n long. -/
theorem nodup_le (n : Nat) (xs : List Nat) (hd : xs.Nodup) (hb : ∀ x ∈ xs, x < n) : xs.length ≤ n := by
  have h := (List.nodup_range (n := n))
  have := List.Nodup.length_le_of_subset hd (fun x hx => List.mem_range.2 (hb x hx))
  simpa using this

/-- Where a simple braid leads to each place. -/
theorem Sim.onto {n : Nat} {l : List Int} (h : Sim n l) (v : Nat) (hv : v < n) : ∃ x, x < n ∧ at8 l x = v := by
  apply Classical.byContradiction
  intro hno
  have key := nodup_le (n - 1) ((List.range n).map fun x => if (at8 l x).toNat < v then (at8 l x).toNat else (at8 l x).toNat - 1) ?_ ?_
  · simp at key
    omega
  · unfold List.Nodup
    rw [List.pairwise_map]
    refine List.Pairwise.imp_of_mem ?_ (List.nodup_range (n := n))
    intro a b ha hb hab heq
    have ha := List.mem_range.1 ha
    have hb := List.mem_range.1 hb
    have b1 := h.bd a ha
    have b2 := h.bd b hb
    have n1 : at8 l a ≠ v := fun e => hno ⟨a, ha, e⟩
    have n2 : at8 l b ≠ v := fun e => hno ⟨b, hb, e⟩
    apply hab
    apply h.inj a b ha hb
    split at heq <;> split at heq <;> omega
  · intro x hx
    obtain ⟨a, ha, rfl⟩ := List.mem_map.1 hx
    have ha := List.mem_range.1 ha
    have b1 := h.bd a ha
    have n1 : at8 l a ≠ v := fun e => hno ⟨a, ha, e⟩
    split <;> omega

/-- The first of the first k places at which v stands, or 255. -/
def findR (l : List Int) (v : Int) : Nat → Nat → Int
  | 0, _ => 255
  | k + 1, i => if at8 l i = v then (i : Int) else findR l v k (i + 1)

def backR (n : Nat) (s : List Int) : List Int := mapR n fun x => findR s x n 0

theorem findR_ok {l : List Int} {v : Int} (k i x : Nat) (h1 : i ≤ x) (h2 : x < i + k) (hx : at8 l x = v) (hu : ∀ j, i ≤ j → j < x → at8 l j ≠ v) : findR l v k i = (x : Int) := by
  induction k generalizing i with
  | zero => omega
  | succ k ih =>
    unfold findR
    by_cases e : i = x
    · subst e; rw [if_pos hx]
    · rw [if_neg (hu i (Nat.le_refl _) (by omega))]
      exact ih (i + 1) (by omega) (by omega) fun j h3 h4 => hu j (by omega) h4

theorem Sim.find {n : Nat} {l : List Int} (h : Sim n l) (x : Nat) (hx : x < n) : findR l (at8 l x) n 0 = (x : Int) := by
  refine findR_ok n 0 x (by omega) (by omega) rfl fun j _ hj e => ?_
  have := h.inj j x (by omega) hx e
  omega

theorem at8_back {n : Nat} {l : List Int} (h : Sim n l) (x : Nat) (hx : x < n) : at8 (backR n l) (at8 l x).toNat = (x : Int) := by
  have hb := h.bd x hx
  unfold backR
  rw [at8_mapR, if_pos (by omega)]
  have e : (((at8 l x).toNat : Nat) : Int) = at8 l x := by omega
  rw [e]
  exact h.find x hx

theorem backR_sim {n : Nat} {l : List Int} (h : Sim n l) : Sim n (backR n l) := by
  have key : ∀ v, v < n → ∃ x, x < n ∧ at8 l x = v ∧ findR l v n 0 = (x : Int) := by
    intro v hv
    obtain ⟨x, hx, e⟩ := h.onto v hv
    exact ⟨x, hx, e, by rw [← e]; exact h.find x hx⟩
  refine Sim.mk' h.lo h.hi (fun j hj => ?_) (fun i j hi hj e => ?_)
  · obtain ⟨x, hx, _, e⟩ := key j hj
    rw [e]; omega
  · obtain ⟨x, hx, e1, e2⟩ := key i hi
    obtain ⟨y, hy, e3, e4⟩ := key j hj
    rw [e2, e4] at e
    have : x = y := by omega
    subst this
    rw [e1] at e3
    omega

/-- The same row, as the model makes it. -/
theorem ends_back {n : Nat} {l : List Int} (h : Sim n l) : ends 8 l n = backR n l := by
  have key : ∀ k, k ≤ n → (∀ x, x < k → at8 (ends 8 l k) (at8 l x).toNat = (x : Int)) ∧ (∀ v, n ≤ v → at8 (ends 8 l k) v = 0) := by
    intro k
    induction k with
    | zero =>
      intro _
      refine ⟨fun x hx => by omega, fun v hv => ?_⟩
      show at8 (mapR 0 fun _ => 0) v = 0
      rw [at8_mapR, if_neg (by omega)]
    | succ k ih =>
      intro hk
      obtain ⟨i1, i2⟩ := ih (by omega)
      have bk := h.bd k (by omega)
      have h8 := h.hi
      have hlt : (at8 l k).toNat < (ends 8 l k).length := by rw [ends_len]; omega
      refine ⟨fun x hx => ?_, fun v hv => ?_⟩
      · rw [ends_step, at8_set _ _ _ _ hlt]
        by_cases e : x = k
        · subst e; simp
        · have bx := h.bd x (by omega)
          rw [if_neg (fun e2 => e ((h.inj x k (by omega) (by omega) (by omega)))), i1 x (by omega)]
      · rw [ends_step, at8_set _ _ _ _ hlt, if_neg (by omega), i2 v hv]
  obtain ⟨k1, k2⟩ := key n (Nat.le_refl _)
  refine ext8 (ends_len _ _ _) (backR_sim h).len fun j hj => ?_
  by_cases e : j < n
  · obtain ⟨x, hx, ex⟩ := h.onto j e
    have := k1 x hx
    rw [ex, Int.toNat_natCast] at this
    rw [this]
    have := at8_back h x hx
    rw [ex, Int.toNat_natCast] at this
    rw [this]
  · rw [k2 j (by omega), (backR_sim h).tail j (by omega)]

theorem ends_bd8 {n : Nat} {l : List Int} (h : Sim n l) (k : Nat) (hk : k ≤ n) (j : Nat) : 0 ≤ at8 (ends 8 l k) j ∧ at8 (ends 8 l k) j < 8 := by
  have := h.hi
  exact ends_bd 8 l k (by omega) j

/-- Sums. -/
def sumN (f : Nat → Int) : Nat → Int
  | 0 => 0
  | k + 1 => sumN f k + f k

theorem sumN_congr (f g : Nat → Int) (n : Nat) (h : ∀ j, j < n → f j = g j) : sumN f n = sumN g n := by
  induction n with
  | zero => rfl
  | succ n ih => simp only [sumN]; rw [ih (fun j hj => h j (by omega)), h n (by omega)]

theorem sumN_add (f g : Nat → Int) (n : Nat) : sumN (fun x => f x + g x) n = sumN f n + sumN g n := by
  induction n with
  | zero => rfl
  | succ n ih => simp only [sumN]; rw [ih]; omega

theorem sumN_swap (g : Nat → Nat → Int) (m n : Nat) : sumN (fun x => sumN (fun y => g x y) n) m = sumN (fun y => sumN (fun x => g x y) m) n := by
  induction m with
  | zero =>
    show (0 : Int) = sumN (fun _ => 0) n
    induction n with
    | zero => rfl
    | succ n ih => simp only [sumN]; omega
  | succ m ih =>
    show sumN (fun x => sumN (fun y => g x y) n) m + sumN (fun y => g m y) n = sumN (fun y => sumN (fun x => g x y) m + g m y) n
    rw [ih, sumN_add]

theorem sumN_cut (f : Nat → Int) (k n : Nat) (h : k ≤ n) (hz : ∀ j, k ≤ j → j < n → f j = 0) : sumN f n = sumN f k := by
  induction n with
  | zero =>
    have : k = 0 := by omega
    subst this; rfl
  | succ n ih =>
    by_cases e : k = n + 1
    · rw [e]
    · simp only [sumN]
      rw [ih (by omega) (fun j h1 h2 => hz j h1 (by omega)), hz n (by omega) (by omega)]
      omega

theorem sumN_bd (f : Nat → Int) (n : Nat) (h : ∀ j, j < n → 0 ≤ f j ∧ f j ≤ 8) : 0 ≤ sumN f n ∧ sumN f n ≤ 8 * n := by
  induction n with
  | zero => simp [sumN]
  | succ n ih =>
    have := ih (fun j hj => h j (by omega))
    have := h n (by omega)
    simp only [sumN]
    omega

/-- One if the pair descends. -/
def dsc (l : List Int) (x y : Nat) : Int := if at8 l y < at8 l x then 1 else 0

/-- The descending pairs whose second place is y, of the first x; and all of them. -/
def colL (l : List Int) (y : Nat) (x : Nat) : Int := sumN (fun x => dsc l x y) x
def lenR (l : List Int) (n : Nat) : Int := sumN (fun y => colL l y y) n

/-- The same by rows. -/
def rowL (l : List Int) (x : Nat) (y : Nat) : Int := sumN (fun y => if x < y then dsc l x y else 0) y
def lenS (n : Nat) (l : List Int) (m : Nat) : Int := sumN (fun x => rowL l x n) m

theorem len_same (l : List Int) (n : Nat) : lenS n l n = lenR l n := by
  unfold lenS lenR rowL colL
  rw [sumN_swap]
  refine sumN_congr _ _ _ fun y hy => ?_
  rw [sumN_cut _ y n (by omega) (fun j h1 h2 => by rw [if_neg (by omega)])]
  exact sumN_congr _ _ _ fun x hx => by rw [if_pos hx]

theorem dsc_bd (l : List Int) (x y : Nat) : 0 ≤ dsc l x y ∧ dsc l x y ≤ 1 := by unfold dsc; split <;> omega

theorem sumN_bd1 (f : Nat → Int) (n : Nat) (h : ∀ j, j < n → 0 ≤ f j ∧ f j ≤ 1) : 0 ≤ sumN f n ∧ sumN f n ≤ n := by
  induction n with
  | zero => simp [sumN]
  | succ n ih =>
    have := ih (fun j hj => h j (by omega))
    have := h n (by omega)
    simp only [sumN]
    omega

theorem colL_bd (l : List Int) (y x : Nat) : 0 ≤ colL l y x ∧ colL l y x ≤ x := sumN_bd1 _ _ fun j _ => dsc_bd l j y
theorem rowL_bd (l : List Int) (x y : Nat) : 0 ≤ rowL l x y ∧ rowL l x y ≤ y := sumN_bd1 _ _ fun j _ => by split; exact dsc_bd l x j; omega
theorem lenR_bd (l : List Int) (n : Nat) (h : n ≤ 8) : 0 ≤ lenR l n ∧ lenR l n ≤ 64 := by
  have := sumN_bd (fun y => colL l y y) n fun j hj => by have := colL_bd l j j; omega
  unfold lenR; omega
theorem lenS_bd (l : List Int) (n m : Nat) (h : n ≤ 8) (hm : m ≤ 8) : 0 ≤ lenS n l m ∧ lenS n l m ≤ 64 := by
  have := sumN_bd (fun x => rowL l x n) m fun j hj => by have := rowL_bd l j n; omega
  unfold lenS; omega

theorem colL_step (l : List Int) (y x : Nat) : colL l y (x + 1) = colL l y x + dsc l x y := rfl
theorem lenR_step (l : List Int) (n : Nat) : lenR l (n + 1) = lenR l n + colL l n n := rfl
theorem lenS_step (n : Nat) (l : List Int) (m : Nat) : lenS n l (m + 1) = lenS n l m + rowL l m n := rfl
theorem rowL_start (l : List Int) (x : Nat) : rowL l x (x + 1) = 0 := by
  unfold rowL
  rw [sumN_cut _ 0 (x + 1) (by omega) (fun j _ h2 => by rw [if_neg (by omega)])]
  rfl
theorem rowL_step (l : List Int) (x y : Nat) (h : x < y) : rowL l x (y + 1) = rowL l x y + dsc l x y := by
  unfold rowL
  simp only [sumN]
  rw [if_pos h]

/-- No pair of the first n places descends in a and ascends in b. -/
def withinB (n : Nat) (a b : List Int) : Bool := (List.range n).all fun y => (List.range y).all fun x => !(decide (at8 a y < at8 a x) && decide (at8 b x < at8 b y))

theorem withinB_iff (n : Nat) (a b : List Int) : withinB n a b = true ↔ ∀ x y, x < y → y < n → ¬ (at8 a y < at8 a x ∧ at8 b x < at8 b y) := by
  unfold withinB
  simp only [List.all_eq_true, List.mem_range, Bool.not_eq_true', Bool.and_eq_false_iff, decide_eq_false_iff_not]
  exact ⟨fun h x y hx hy hc => by rcases h y hy x hx with h | h; exact h hc.1; exact h hc.2, fun h y hy x hx => by have := h x y hx hy; omega⟩

theorem withinB_no (n : Nat) (a b : List Int) (x y : Nat) (hx : x < y) (hy : y < n) (h1 : at8 a y < at8 a x) (h2 : at8 b x < at8 b y) : withinB n a b = false := by
  rw [← Bool.not_eq_true, withinB_iff]
  exact fun h => h x y hx hy ⟨h1, h2⟩

/-- The letters below k + 1 that begin s. -/
def begR (s : List Int) (k : Nat) : List Int := ((List.range k).filter fun j => decide (at8 s (j + 1) < at8 s j)).map fun (j : Nat) => (j : Int) + 1

theorem begR_step (s : List Int) (k : Nat) : begR s (k + 1) = begR s k ++ if at8 s (k + 1) < at8 s k then [(k : Int) + 1] else [] := by
  unfold begR
  rw [List.range_succ, List.filter_append, List.map_append]
  congr 1
  by_cases h : at8 s (k + 1) < at8 s k <;> simp [h]

theorem begR_len (s : List Int) (k : Nat) : (begR s k).length ≤ k := by
  unfold begR
  rw [List.length_map]
  exact Nat.le_trans (List.length_filter_le _ _) (by simp)

end Go.Proofs.Ythelncibpoijoaa
