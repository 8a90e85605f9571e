/- Lists of blocks: when they are blocks of a division, the division, its part. No program is spoken of. -/
import Derived.Test.YthelncibpoijoaaPtO
import Derived.Test.YthelncibpoijoaaPtT
namespace Go.Proofs.Ythelncibpoijoaa

/-- How long the i-th list is; its k-th number. -/
def ln (rs : List (List Int)) (i : Nat) : Nat := (rs.getD i []).length
def el (rs : List (List Int)) (i k : Nat) : Int := (rs.getD i []).getD k 0

/-- The k-th number of the i-th list may stand there. -/
def GoodE (n : Int) (rs : List (List Int)) (i k : Nat) : Prop :=
  0 ≤ el rs i k ∧ el rs i k < n ∧ (0 < k → el rs i (k - 1) < el rs i k) ∧ ∀ j, j < i → ∀ l, l < ln rs j → el rs j l ≠ el rs i k

/-- The lists are blocks of a division of n numbers. -/
def Good (n : Int) (rs : List (List Int)) : Prop := ∀ i, i < rs.length → 0 < ln rs i ∧ ∀ k, k < ln rs i → GoodE n rs i k

/-- So far all is well: up to the k-th number of the i-th list. -/
def GoodTo (n : Int) (rs : List (List Int)) (i k : Nat) : Prop := (∀ j, j < i → 0 < ln rs j ∧ ∀ l, l < ln rs j → GoodE n rs j l) ∧ ∀ l, l < k → GoodE n rs i l

theorem GoodTo.start (n : Int) (rs : List (List Int)) : GoodTo n rs 0 0 := ⟨fun j hj => by omega, fun l hl => by omega⟩
theorem GoodTo.step {n : Int} {rs : List (List Int)} {i k : Nat} (h : GoodTo n rs i k) (he : GoodE n rs i k) : GoodTo n rs i (k + 1) :=
  ⟨h.1, fun l hl => by
    by_cases e : l = k
    · subst e; exact he
    · exact h.2 l (by omega)⟩
theorem GoodTo.next {n : Int} {rs : List (List Int)} {i : Nat} (h : GoodTo n rs i (ln rs i)) (hp : 0 < ln rs i) : GoodTo n rs (i + 1) 0 :=
  ⟨fun j hj => by
    by_cases e : j = i
    · subst e; exact ⟨hp, h.2⟩
    · exact h.1 j (by omega), fun l hl => by omega⟩
theorem GoodTo.all {n : Int} {rs : List (List Int)} (h : GoodTo n rs rs.length 0) : Good n rs := h.1
theorem Good.to {n : Int} {rs : List (List Int)} (h : Good n rs) {i k : Nat} (hi : i < rs.length) (hk : k ≤ ln rs i) : GoodTo n rs i k := ⟨fun j hj => h j (by omega), fun l hl => (h i hi).2 l (by omega)⟩

/-- A number has stood ahead of the k-th of the i-th list. -/
def Met (rs : List (List Int)) (i k : Nat) (z : Nat) : Prop := (∃ j, j < i ∧ ∃ l, l < ln rs j ∧ el rs j l = z) ∨ ∃ l, l < k ∧ el rs i l = z

theorem Met.step (rs : List (List Int)) (i k z : Nat) : Met rs i (k + 1) z ↔ (el rs i k = z ∨ Met rs i k z) := by
  unfold Met
  constructor
  · rintro (h | ⟨l, hl, e⟩)
    · exact .inr (.inl h)
    · by_cases e2 : l = k
      · subst e2; exact .inl e
      · exact .inr (.inr ⟨l, by omega, e⟩)
  · rintro (e | h | ⟨l, hl, e⟩)
    · exact .inr ⟨k, by omega, e⟩
    · exact .inl h
    · exact .inr ⟨l, by omega, e⟩

theorem Met.next (rs : List (List Int)) (i z : Nat) : Met rs (i + 1) 0 z ↔ Met rs i (ln rs i) z := by
  unfold Met
  constructor
  · rintro (⟨j, hj, l, hl, e⟩ | ⟨l, hl, _⟩)
    · by_cases e2 : j = i
      · subst e2; exact .inr ⟨l, hl, e⟩
      · exact .inl ⟨j, by omega, l, hl, e⟩
    · omega
  · rintro (⟨j, hj, l, hl, e⟩ | ⟨l, hl, e⟩)
    · exact .inl ⟨j, by omega, l, hl, e⟩
    · exact .inl ⟨i, by omega, l, hl, e⟩

theorem asc_lt {n : Int} {rs : List (List Int)} {i : Nat} {k : Nat} (h : ∀ l, l < k → GoodE n rs i l) (a b : Nat) (hab : a < b) (hb : b < k) : el rs i a < el rs i b := by
  induction b with
  | zero => omega
  | succ b ih =>
    have h1 := (h (b + 1) hb).2.2.1 (by omega)
    rw [Nat.add_sub_cancel] at h1
    by_cases e : a = b
    · subst e; exact h1
    · have := ih (by omega) (by omega)
      omega

/-- What the next number must be. -/
theorem goodE_iff {n : Int} {rs : List (List Int)} {i k : Nat} (h : GoodTo n rs i k) (x : Nat) (hx : el rs i k = x) (hp : 0 < k → el rs i (k - 1) < el rs i k) (hn : (x : Int) < n) : GoodE n rs i k ↔ ¬ Met rs i k x := by
  constructor
  · rintro ⟨_, _, h3, h4⟩ (⟨j, hj, l, hl, e⟩ | ⟨l, hl, e⟩)
    · exact h4 j hj l hl (by rw [e, hx])
    · have h5 : el rs i l < el rs i k := by
        by_cases e2 : l = k - 1
        · subst e2; exact h3 (by omega)
        · have := asc_lt h.2 l (k - 1) (by omega) (by omega)
          have := h3 (by omega)
          omega
      omega
  · intro hm
    refine ⟨by omega, by omega, hp, fun j hj l hl e => hm (.inl ⟨j, hj, l, hl, by rw [e, hx]⟩)⟩

/-- The least number of the list in which z stands, or z. -/
noncomputable def leastZ (rs : List (List Int)) (z : Nat) : Int :=
  open Classical in if h : ∃ i k, i < rs.length ∧ k < ln rs i ∧ el rs i k = z then el rs h.choose 0 else z
noncomputable def leastOf (rs : List (List Int)) : List Int := (List.range 8).map (leastZ rs)

theorem at8_least (rs : List (List Int)) (z : Nat) (hz : z < 8) : at8 (leastOf rs) z = leastZ rs z := by
  unfold leastOf at8
  simp [List.getD, hz]

theorem Good.one {n : Int} {rs : List (List Int)} (h : Good n rs) {i k j l : Nat} (hi : i < rs.length) (hk : k < ln rs i) (hj : j < rs.length) (hl : l < ln rs j) (e : el rs i k = el rs j l) : i = j ∧ k = l := by
  have hij : i = j := by
    rcases Nat.lt_trichotomy i j with h1 | h1 | h1
    · exact absurd e (((h j hj).2 l hl).2.2.2 i h1 k hk)
    · exact h1
    · exact absurd e.symm (((h i hi).2 k hk).2.2.2 j h1 l hl)
  subst hij
  refine ⟨rfl, ?_⟩
  rcases Nat.lt_trichotomy k l with h1 | h1 | h1
  · have := asc_lt (h i hi).2 k l h1 hl; omega
  · exact h1
  · have := asc_lt (h i hi).2 l k h1 hk; omega

theorem leastZ_in {n : Int} {rs : List (List Int)} (h : Good n rs) {i k z : Nat} (hi : i < rs.length) (hk : k < ln rs i) (e : el rs i k = z) : leastZ rs z = el rs i 0 := by
  have hex : ∃ i k, i < rs.length ∧ k < ln rs i ∧ el rs i k = z := ⟨i, k, hi, hk, e⟩
  unfold leastZ
  rw [dif_pos hex]
  obtain ⟨k2, h1, h2, h3⟩ := hex.choose_spec
  have := (h.one hi hk h1 h2 (by rw [e, h3])).1
  rw [← this]

theorem leastZ_out {rs : List (List Int)} {z : Nat} (h : ¬ ∃ i k, i < rs.length ∧ k < ln rs i ∧ el rs i k = z) : leastZ rs z = z := by
  unfold leastZ
  rw [dif_neg h]

/-- The least numbers, as far as the model has come. -/
def LeastP (rs : List (List Int)) (i k : Nat) (L : List Int) : Prop :=
  L.length = 8 ∧ ∀ z : Nat, z < 8 → ((∀ j, j < i → ∀ l, l < ln rs j → el rs j l = z → at8 L z = el rs j 0) ∧ (∀ l, l < k → el rs i l = z → at8 L z = el rs i 0) ∧ (¬ Met rs i k z → at8 L z = z))

theorem LeastP.start (rs : List (List Int)) : LeastP rs 0 0 [0, 1, 2, 3, 4, 5, 6, 7] := by
  refine ⟨rfl, fun z hz => ⟨fun j hj => by omega, fun l hl => by omega, fun _ => ?_⟩⟩
  have : z = 0 ∨ z = 1 ∨ z = 2 ∨ z = 3 ∨ z = 4 ∨ z = 5 ∨ z = 6 ∨ z = 7 := by omega
  rcases this with rfl | rfl | rfl | rfl | rfl | rfl | rfl | rfl <;> rfl

theorem LeastP.step {n : Int} {rs : List (List Int)} {i k : Nat} {L : List Int} (h : LeastP rs i k L) (hg : GoodTo n rs i (k + 1)) (x : Nat) (hx : el rs i k = x) (hx8 : x < 8) : LeastP rs i (k + 1) (L.set x (el rs i 0)) := by
  have hge := hg.2 k (by omega)
  refine ⟨by rw [List.length_set, h.1], fun z hz => ?_⟩
  obtain ⟨h1, h2, h3⟩ := h.2 z hz
  rw [at8_set _ _ _ _ (by rw [h.1]; exact hx8)]
  by_cases e : x = z
  · subst e
    rw [if_pos rfl]
    refine ⟨fun j hj l hl e => absurd (by rw [e, hx]) (hge.2.2.2 j hj l hl), fun _ _ _ => rfl, fun hm => absurd ((Met.step rs i k x).2 (.inl hx)) hm⟩
  · rw [if_neg e]
    refine ⟨h1, fun l hl e2 => ?_, fun hm => h3 fun h4 => hm ((Met.step rs i k z).2 (.inr h4))⟩
    by_cases e3 : l = k
    · subst e3; omega
    · exact h2 l (by omega) e2

theorem LeastP.next {rs : List (List Int)} {i : Nat} {L : List Int} (h : LeastP rs i (ln rs i) L) : LeastP rs (i + 1) 0 L := by
  refine ⟨h.1, fun z hz => ?_⟩
  obtain ⟨h1, h2, h3⟩ := h.2 z hz
  refine ⟨fun j hj l hl e => ?_, fun l hl => by omega, fun hm => h3 fun h4 => hm ((Met.next rs i z).2 h4)⟩
  by_cases e2 : j = i
  · subst e2; exact h2 l hl e
  · exact h1 j (by omega) l hl e

theorem LeastP.is {n : Int} {rs : List (List Int)} {L : List Int} (h : LeastP rs rs.length 0 L) (hg : Good n rs) : L = leastOf rs := by
  refine ext8 h.1 (by simp [leastOf]) fun z hz => ?_
  rw [at8_least rs z hz]
  obtain ⟨h1, _, h3⟩ := h.2 z hz
  by_cases hex : ∃ i k, i < rs.length ∧ k < ln rs i ∧ el rs i k = z
  · obtain ⟨i, k, hi, hk, e⟩ := hex
    rw [leastZ_in hg hi hk e, h1 i hi k hk e]
  · rw [leastZ_out hex, h3]
    rintro (⟨j, hj, l, hl, e⟩ | ⟨l, hl, _⟩)
    · exact hex ⟨j, l, hj, hl, e⟩
    · omega

/-- The part, as far as the program has come. -/
def PartP (n : Nat) (rs : List (List Int)) (i k : Nat) (P : List Int) : Prop :=
  P.length = 8 ∧ ∀ z : Nat, z < 8 → ((∀ j, j < i → ∀ l, l < ln rs j → el rs j l = z → at8 P z = el rs j ((l + 1) % ln rs j)) ∧ (∀ l, l < k → el rs i l = z → at8 P z = el rs i ((l + 1) % ln rs i)) ∧ (¬ Met rs i k z → at8 P z = if z < n then (z : Int) else 0))

theorem PartP.start (n : Nat) (h8 : n ≤ 8) (rs : List (List Int)) : PartP n rs 0 0 (sameR n) := by
  refine ⟨mapR_len _ _ h8, fun z hz => ⟨fun j hj => by omega, fun l hl => by omega, fun _ => ?_⟩⟩
  unfold sameR
  rw [at8_mapR]

theorem PartP.step {n : Nat} {rs : List (List Int)} {i k : Nat} {P : List Int} (h : PartP n rs i k P) (hg : GoodTo n rs i (k + 1)) (x : Nat) (hx : el rs i k = x) (hx8 : x < 8) : PartP n rs i (k + 1) (P.set x (el rs i ((k + 1) % ln rs i))) := by
  have hge := hg.2 k (by omega)
  refine ⟨by rw [List.length_set, h.1], fun z hz => ?_⟩
  obtain ⟨h1, h2, h3⟩ := h.2 z hz
  rw [at8_set _ _ _ _ (by rw [h.1]; exact hx8)]
  by_cases e : x = z
  · subst e
    rw [if_pos rfl]
    refine ⟨fun j hj l hl e => absurd (by rw [e, hx]) (hge.2.2.2 j hj l hl), fun l hl e => ?_, fun hm => absurd ((Met.step rs i k x).2 (.inl hx)) hm⟩
    by_cases e2 : l = k
    · rw [e2]
    · have := asc_lt hg.2 l k (by omega) (by omega)
      omega
  · rw [if_neg e]
    refine ⟨h1, fun l hl e2 => ?_, fun hm => h3 fun h4 => hm ((Met.step rs i k z).2 (.inr h4))⟩
    by_cases e3 : l = k
    · subst e3; omega
    · exact h2 l (by omega) e2

theorem PartP.next {n : Nat} {rs : List (List Int)} {i : Nat} {P : List Int} (h : PartP n rs i (ln rs i) P) : PartP n rs (i + 1) 0 P := by
  refine ⟨h.1, fun z hz => ?_⟩
  obtain ⟨h1, h2, h3⟩ := h.2 z hz
  refine ⟨fun j hj l hl e => ?_, fun l hl => by omega, fun hm => h3 fun h4 => hm ((Met.next rs i z).2 h4)⟩
  by_cases e2 : j = i
  · subst e2; exact h2 l hl e
  · exact h1 j (by omega) l hl e

/-- Least numbers of classes. -/
structure Cls (n : Nat) (L : Nat → Nat) : Prop where
  le : ∀ x, x < n → L x ≤ x
  id : ∀ x, x < n → L (L x) = L x

theorem leastOf_cls {n : Nat} (h8 : n ≤ 8) {rs : List (List Int)} (hg : Good n rs) : Cls n (nx (leastOf rs)) := by
  have key : ∀ x, x < n → (nx (leastOf rs) x : Int) = leastZ rs x ∧ leastZ rs x ≤ x ∧ 0 ≤ leastZ rs x ∧ leastZ rs (leastZ rs x).toNat = leastZ rs x := by
    intro x hx
    have e0 : (nx (leastOf rs) x : Int) = ((leastZ rs x).toNat : Nat) := by unfold nx; rw [at8_least rs x (by omega)]
    by_cases hex : ∃ i k, i < rs.length ∧ k < ln rs i ∧ el rs i k = x
    · obtain ⟨i, k, hi, hk, e⟩ := hex
      have h1 := leastZ_in hg hi hk e
      have h2 := ((hg i hi).2 0 (by omega)).1
      have h3 : el rs i 0 ≤ el rs i k := by
        by_cases e0 : k = 0
        · subst e0; exact Int.le_refl _
        · have := asc_lt (hg i hi).2 0 k (by omega) hk; omega
      have h4 : leastZ rs (el rs i 0).toNat = el rs i 0 := leastZ_in hg hi (by omega : 0 < ln rs i) (by omega)
      rw [h1]
      refine ⟨by rw [e0, h1]; omega, by omega, h2, h4⟩
    · have h1 := leastZ_out hex
      refine ⟨by rw [e0, h1, Int.toNat_natCast], by omega, by omega, by rw [h1, Int.toNat_natCast, h1]⟩
  refine ⟨fun x hx => by have := key x hx; omega, fun x hx => ?_⟩
  obtain ⟨h1, h2, h3, h4⟩ := key x hx
  have h5 : nx (leastOf rs) x = (leastZ rs x).toNat := by omega
  have h6 := (key (leastZ rs x).toNat (by omega)).1
  rw [h4] at h6
  rw [h5]
  omega

/-- The part of the division is what the program makes. -/
theorem PartP.is {n : Nat} (h8 : n ≤ 8) {rs : List (List Int)} {P : List Int} (h : PartP n rs rs.length 0 P) (hg : Good n rs) : P = madeR n (leastOf rs) := by
  have e0 : ∀ x, x < n → (nx (leastOf rs) x : Int) = leastZ rs x := fun x hx => by
    unfold nx
    rw [at8_least rs x (by omega)]
    by_cases hex : ∃ i k, i < rs.length ∧ k < ln rs i ∧ el rs i k = x
    · obtain ⟨i, k, hi, hk, e⟩ := hex
      rw [leastZ_in hg hi hk e]
      have := ((hg i hi).2 0 (by omega)).1
      omega
    · rw [leastZ_out hex, Int.toNat_natCast]
  refine ext8 h.1 (mapR_len _ _ h8) fun z hz => ?_
  unfold madeR
  rw [at8_mapR]
  obtain ⟨h1, _, h3⟩ := h.2 z hz
  have hnm : (¬ ∃ i k, i < rs.length ∧ k < ln rs i ∧ el rs i k = z) → ¬ Met rs rs.length 0 z := by
    rintro hex (⟨j, hj, l, hl, e⟩ | ⟨l, hl, _⟩)
    · exact hex ⟨j, l, hj, hl, e⟩
    · omega
  by_cases hzn : z < n
  · rw [if_pos hzn]
    by_cases hex : ∃ i k, i < rs.length ∧ k < ln rs i ∧ el rs i k = z
    · obtain ⟨i, k, hi, hk, e⟩ := hex
      have hLz := leastZ_in hg hi hk e
      have cls : ∀ y : Nat, y < n → (nx (leastOf rs) y = nx (leastOf rs) z ↔ ∃ l, l < ln rs i ∧ el rs i l = y) := by
        intro y hy
        constructor
        · intro e2
          have e3 : leastZ rs y = el rs i 0 := by rw [← hLz, ← e0 z hzn, ← e0 y hy, e2]
          by_cases hy2 : ∃ i k, i < rs.length ∧ k < ln rs i ∧ el rs i k = y
          · obtain ⟨j, l, hj, hl, e4⟩ := hy2
            have h5 := leastZ_in hg hj hl e4
            have h6 := (hg.one hj (by omega : 0 < ln rs j) hi (by omega : 0 < ln rs i) (by rw [← h5, e3])).1
            subst h6
            exact ⟨l, hl, e4⟩
          · rw [leastZ_out hy2] at e3
            exact ⟨0, by omega, e3.symm⟩
        · rintro ⟨l, hl, e2⟩
          have := leastZ_in hg hi hl e2
          have := e0 z hzn
          have := e0 y hy
          omega
      rw [h1 i hi k hk e]
      by_cases hlast : k + 1 < ln rs i
      · rw [Nat.mod_eq_of_lt hlast]
        have g1 := (hg i hi).2 (k + 1) hlast
        have g2 := asc_lt (hg i hi).2 k (k + 1) (by omega) hlast
        have g3 : el rs i (k + 1) = ((el rs i (k + 1)).toNat : Nat) := by have := g1.1; omega
        rw [g3]
        congr 1
        refine (mdN_next _ n z _ hzn (by omega) (by have := g1.2.1; omega) ((cls _ (by have := g1.2.1; omega)).2 ⟨k + 1, hlast, g3⟩) (fun y y1 y2 e2 => ?_)).symm
        obtain ⟨l, hl, e3⟩ := (cls y (by have := g1.2.1; omega)).1 e2
        rcases Nat.lt_trichotomy l (k + 1) with h6 | h6 | h6
        · by_cases e4 : l = k
          · subst e4; omega
          · have := asc_lt (hg i hi).2 l k (by omega) hk; omega
        · subst h6; omega
        · have := asc_lt (hg i hi).2 (k + 1) l h6 hl; omega
      · have hk1 : k + 1 = ln rs i := by omega
        rw [hk1, Nat.mod_self]
        rw [mdN_last _ n z hzn (fun y y1 y2 e2 => ?_), e0 z hzn, hLz]
        obtain ⟨l, hl, e3⟩ := (cls y y2).1 e2
        by_cases e4 : l = k
        · subst e4; omega
        · have := asc_lt (hg i hi).2 l k (by omega) hk; omega
    · have hz1 := leastZ_out hex
      rw [h3 (hnm hex), if_pos hzn, mdN_last _ n z hzn (fun y y1 y2 e2 => ?_), e0 z hzn, hz1]
      have h4 := e0 y y2
      have h5 := e0 z hzn
      by_cases hy2 : ∃ i k, i < rs.length ∧ k < ln rs i ∧ el rs i k = y
      · obtain ⟨j, l, hj, hl, e4⟩ := hy2
        have h6 := leastZ_in hg hj hl e4
        exact hex ⟨j, 0, hj, by omega, by omega⟩
      · rw [leastZ_out hy2] at h4
        omega
  · rw [if_neg hzn]
    by_cases hex : ∃ i k, i < rs.length ∧ k < ln rs i ∧ el rs i k = z
    · obtain ⟨i, k, hi, hk, e⟩ := hex
      have := ((hg i hi).2 k hk).2.1
      omega
    · rw [h3 (hnm hex), if_neg hzn]

theorem madeR_sim {n : Nat} (h1 : 1 ≤ n) (h8 : n ≤ 8) {L : List Int} (hc : Cls n (nx L)) : Sim n (madeR n L) := by
  have low := hc.id
  have hle := hc.le
  have bd : ∀ x, x < n → mdN (nx L) n x < n := fun x hx => mdN_lt _ n x hx (by have := hle x hx; omega)
  unfold madeR
  refine Sim.mk' h1 h8 (fun x hx => ?_) (fun x y hx hy hxy => ?_)
  · have := bd x hx
    omega
  · have h3 : mdN (nx L) n x = mdN (nx L) n y := by omega
    obtain ⟨K, hK⟩ : ∃ K, K = nx L := ⟨_, rfl⟩
    rw [← hK] at h3 low hle
    rcases mdN_cases K n x hx with ⟨g1, g2, g3, g4⟩ | ⟨g1, g2⟩
    · rcases mdN_cases K n y hy with ⟨k1, k2, k3, k4⟩ | ⟨k1, k2⟩
      · have hxy2 : K x = K y := by rw [← g3, h3, k3]
        rcases Nat.lt_trichotomy x y with h | h | h
        · exact absurd hxy2.symm (g4 y h (by omega))
        · exact h
        · exact absurd hxy2 (k4 x h (by omega))
      · exfalso
        have h5 : K x = K y := by rw [← g3, h3, k2, low y hy]
        have := hle x hx
        omega
    · rcases mdN_cases K n y hy with ⟨k1, k2, k3, k4⟩ | ⟨k1, k2⟩
      · exfalso
        have h5 : K y = K x := by rw [← k3, ← h3, g2, low x hx]
        have := hle y hy
        omega
      · have hxy2 : K x = K y := by rw [← g2, h3, k2]
        rcases Nat.lt_trichotomy x y with h | h | h
        · exact absurd hxy2.symm (g1 y h hy)
        · exact h
        · exact absurd hxy2 (k1 x h hx)

/-- The least numbers of the part of a division are those of the division. -/
theorem lst_made {n : Nat} (h1 : 1 ≤ n) (h8 : n ≤ 8) {L : List Int} (hc : Cls n (nx L)) (x : Nat) (hx : x < n) : lstN n (madeR n L) x = nx L x := by
  have hs := madeR_sim h1 h8 hc
  have hn : ∀ y, y < n → nx (madeR n L) y = mdN (nx L) n y := fun y hy => by
    show (at8 (madeR n L) y).toNat = _
    unfold madeR
    rw [at8_mapR, if_pos hy, Int.toNat_natCast]
  have hcl : ∀ y, y < n → nx L (nx (madeR n L) y) = nx L y := fun y hy => by
    rw [hn y hy]
    rcases mdN_cases (nx L) n y hy with ⟨_, _, g3, _⟩ | ⟨_, g2⟩
    · exact g3
    · rw [g2, hc.id y hy]
  have hall : ∀ j, nx L (itN (nx (madeR n L)) j x) = nx L x := fun j => by
    induction j with
    | zero => rfl
    | succ j ih => show nx L (nx (madeR n L) (itN (nx (madeR n L)) j x)) = _; rw [hcl _ (hs.prm.it j x hx), ih]
  obtain ⟨a, _, ea⟩ := cmin_is (nx (madeR n L)) n x
  have hlo : nx L x ≤ lstN n (madeR n L) x := by
    have h2 : lstN n (madeR n L) x = itN (nx (madeR n L)) a x := ea
    rw [h2, ← hall a]
    exact hc.le _ (hs.prm.it a x hx)
  have hwrap : ∃ j, itN (nx (madeR n L)) j x = nx L x := by
    apply Classical.byContradiction
    intro hno
    have hup : ∀ j, itN (nx (madeR n L)) j x < itN (nx (madeR n L)) (j + 1) x := fun j => by
      have hy := hs.prm.it j x hx
      have h3 : itN (nx (madeR n L)) (j + 1) x = mdN (nx L) n (itN (nx (madeR n L)) j x) := hn _ hy
      rcases mdN_cases (nx L) n _ hy with ⟨g1, _, _, _⟩ | ⟨_, g2⟩
      · rw [h3]; exact g1
      · exact absurd ⟨j + 1, by rw [h3, g2, hall j]⟩ hno
    have hgt : ∀ j, x + j ≤ itN (nx (madeR n L)) j x := fun j => by
      induction j with
      | zero => exact Nat.le_refl _
      | succ j ih => have := hup j; omega
    have := hgt n
    have := hs.prm.it n x hx
    omega
  obtain ⟨j, hj⟩ := hwrap
  have := hs.prm.cmin_all x hx j
  rw [hj] at this
  exact Nat.le_antisymm this hlo

theorem isPt_made {n : Nat} (h1 : 1 ≤ n) (h8 : n ≤ 8) {L : List Int} (hc : Cls n (nx L)) : isPt n (madeR n L) = !crN (nx L) n := by
  have hs := madeR_sim h1 h8 hc
  have hl := fun z hz => lst_made h1 h8 hc z hz
  unfold isPt
  rw [(simB_iff _ _ hs.len).2 ⟨n, rfl, hs⟩, Bool.true_and, Int.toNat_natCast, Bool.eq_iff_iff, ncN_iff, crN_congr _ _ n hl]
  have h2 : ∀ x, x < n → mdN (lstN n (madeR n L)) n x = nx (madeR n L) x := fun x hx => by
    rw [mdN_congr _ _ n x hx hl]
    show _ = (at8 (madeR n L) x).toNat
    unfold madeR
    rw [at8_mapR, if_pos hx, Int.toNat_natCast]
  cases crN (nx L) n with
  | true => simp
  | false => simpa using h2

theorem leastOf_bd {n : Nat} (h8 : n ≤ 8) {rs : List (List Int)} (hg : Good n rs) (x : Nat) (hx : x < n) : 0 ≤ at8 (leastOf rs) x ∧ at8 (leastOf rs) x < 8 := by
  rw [at8_least rs x (by omega)]
  by_cases hex : ∃ i k, i < rs.length ∧ k < ln rs i ∧ el rs i k = x
  · obtain ⟨i, k, hi, hk, e⟩ := hex
    rw [leastZ_in hg hi hk e]
    have := (hg i hi).2 0 (by omega)
    have h1 := this.1
    have h2 := this.2.1
    omega
  · rw [leastZ_out hex]
    omega

/-- What PartOfBlocks gives. -/
noncomputable def mPartsOf (n : Int) (rs : List (List Int)) : List Int × Int :=
  open Classical in if (1 ≤ n ∧ n ≤ 8) ∧ Good n rs then (if crN (nx (leastOf rs)) n.toNat = true then ([0, 0, 0, 0, 0, 0, 0, 0], 1) else (madeR n.toNat (leastOf rs), 0)) else ([0, 0, 0, 0, 0, 0, 0, 0], 2)

end Go.Proofs.Ythelncibpoijoaa
