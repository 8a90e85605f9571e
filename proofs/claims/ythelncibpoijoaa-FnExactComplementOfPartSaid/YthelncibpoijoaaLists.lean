/- Plain functions on lists of integers: what the chapter on words of braids computes. No program is spoken of. -/
namespace Go.Proofs.Ythelncibpoijoaa

/-- x is a letter of words with s strands. -/
def okLetter (s x : Int) : Bool := decide (x ≠ 0) && (decide (-s < x) && decide (x < s))

/-- s strands and the letters xs are a braid. -/
def isBraid (s : Int) (xs : List Int) : Bool := decide (1 ≤ s) && (decide (s ≤ 8) && (decide (xs.length ≤ 200) && xs.all (okLetter s)))

/-- n is in lo..hi. -/
def inB (n lo hi : Int) : Bool := decide (lo ≤ n) && decide (n ≤ hi)

theorem inB_iff (n lo hi : Int) : inB n lo hi = true ↔ lo ≤ n ∧ n ≤ hi := by simp [inB]

theorem inB_not (n lo hi : Int) : inB n lo hi = false ↔ n < lo ∨ hi < n := by
  rw [← Bool.not_eq_true, inB_iff]
  omega

/-- The numbers k, k + 1 .. of which there are n. -/
def marks (k : Int) (n : Nat) : List Int := (List.range n).map fun (j : Nat) => k + (j : Int)

theorem marks_length (k : Int) (n : Nat) : (marks k n).length = n := by simp [marks]

theorem marks_getD (k : Int) (n j : Nat) (h : j < n) : (marks k n).getD j 0 = k + (j : Int) := by
  simp [marks, List.getD, h]

theorem marks_snoc (k : Int) (n : Nat) : marks k (n + 1) = marks k n ++ [k + (n : Int)] := by
  simp [marks, List.range_succ]

theorem isBraid_iff (s : Int) (xs : List Int) : isBraid s xs = true ↔ 1 ≤ s ∧ s ≤ 8 ∧ xs.length ≤ 200 ∧ ∀ x ∈ xs, x ≠ 0 ∧ -s < x ∧ x < s := by
  simp [isBraid, okLetter, List.all_eq_true]

theorem getD_mem (xs : List Int) (k : Nat) (h : k < xs.length) : xs.getD k 0 ∈ xs := by
  simp [List.getD, h]

theorem all_of_getD (xs : List Int) (p : Int → Bool) (h : ∀ j, j < xs.length → p (xs.getD j 0) = true) : xs.all p = true := by
  rw [List.all_eq_true]
  intro x hx
  obtain ⟨j, hj, rfl⟩ := List.getElem_of_mem hx
  have := h j hj
  simpa [List.getD, hj] using this

theorem all_false_of_getD (xs : List Int) (p : Int → Bool) (j : Nat) (hj : j < xs.length) (h : p (xs.getD j 0) = false) : xs.all p = false := by
  rw [List.all_eq_false]
  exact ⟨_, getD_mem xs j hj, by rw [h]; simp⟩

theorem eq_of_getD (xs ys : List Int) (hl : xs.length = ys.length) (h : ∀ j, j < xs.length → xs.getD j 0 = ys.getD j 0) : xs = ys := by
  refine List.ext_getElem hl fun j h1 h2 => ?_
  have := h j h1
  simpa [List.getD, h1, h2] using this

theorem take_snoc (xs : List Int) (k : Nat) (h : k < xs.length) : xs.take (k + 1) = xs.take k ++ [xs.getD k 0] := by
  rw [List.take_succ_eq_append_getElem h]
  simp [List.getD, h]

/-- All numbers are small. -/
def Small (xs : List Int) : Prop := ∀ x ∈ xs, -1000 < x ∧ x < 1000

theorem small_of_isBraid (s : Int) (xs : List Int) (h : isBraid s xs = true) : Small xs := by
  obtain ⟨_, _, _, h4⟩ := (isBraid_iff s xs).1 h
  intro x hx
  have := h4 x hx
  omega

theorem len_of_isBraid (s : Int) (xs : List Int) (h : isBraid s xs = true) : xs.length ≤ 200 := ((isBraid_iff s xs).1 h).2.2.1
theorem lo_of_isBraid (s : Int) (xs : List Int) (h : isBraid s xs = true) : 1 ≤ s := ((isBraid_iff s xs).1 h).1
theorem hi_of_isBraid (s : Int) (xs : List Int) (h : isBraid s xs = true) : s ≤ 8 := ((isBraid_iff s xs).1 h).2.1
theorem letter_of_isBraid (s : Int) (xs : List Int) (h : isBraid s xs = true) (k : Nat) (hk : k < xs.length) : xs.getD k 0 ≠ 0 ∧ -s < xs.getD k 0 ∧ xs.getD k 0 < s :=
  ((isBraid_iff s xs).1 h).2.2.2 _ (getD_mem xs k hk)

/-- The inverse letters in the reversed order. -/
def inverse (xs : List Int) : List Int := (xs.map fun x => -x).reverse

/-- The inverse of a braid, and the code. -/
def mInverse (s : Int) (xs : List Int) : Int × List Int × Int := if isBraid s xs = true then (s, inverse xs, 0) else (0, [], 1)
def mMirror (s : Int) (xs : List Int) : Int × List Int × Int := if isBraid s xs = true then (s, xs.map fun x => -x, 0) else (0, [], 1)
def mReverse (s : Int) (xs : List Int) : Int × List Int × Int := if isBraid s xs = true then (s, xs.reverse, 0) else (0, [], 1)

theorem inverse_length (xs : List Int) : (inverse xs).length = xs.length := by simp [inverse]

theorem inverse_step (xs : List Int) (k : Nat) (h : k < xs.length) : (inverse xs).take (k + 1) = (inverse xs).take k ++ [-(xs.getD (xs.length - 1 - k) 0)] := by
  rw [take_snoc _ _ (by rw [inverse_length]; exact h)]
  congr 2
  have h1 : xs.length - 1 - k < xs.length := by omega
  simp [inverse, List.getD, h, h1]

theorem reverse_step (xs : List Int) (k : Nat) (h : k < xs.length) : xs.reverse.take (k + 1) = xs.reverse.take k ++ [xs.getD (xs.length - 1 - k) 0] := by
  rw [take_snoc _ _ (by simpa using h)]
  congr 2
  have h1 : xs.length - 1 - k < xs.length := by omega
  simp [List.getD, h, h1]

theorem map_step (xs : List Int) (f : Int → Int) (k : Nat) (h : k < xs.length) : (xs.map f).take (k + 1) = (xs.map f).take k ++ [f (xs.getD k 0)] := by
  rw [take_snoc _ _ (by simpa using h)]
  congr 2
  simp [List.getD, h]

end Go.Proofs.Ythelncibpoijoaa
