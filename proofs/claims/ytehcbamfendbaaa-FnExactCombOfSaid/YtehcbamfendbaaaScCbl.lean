/- CombOf: what the law wants. -/
import Derived.Test.YtehcbamfendbaaaScMg13
namespace Go.Proofs.Ytehcbamfendbaaa
open Go.RowKit Go.ChangeShapes

theorem mCombOf_len2 (s : Int) (xs : List Int) : (mCombOf s xs).1.length ≤ 8 := by
 unfold mCombOf
 split
 ·rename_i h
  obtain ⟨h1, h2, _, _⟩ := (isBraid_iff s xs).1 (pureC_zero h).1
  unfold mComb
  cases hc : combF (s - 1).toNat xs with
  | none => simp
  | some d => have := combF_len hc; simp; omega
 ·simp

theorem OwnSP.drew {lo hi : Nat} {w : World} {ad : Option Addr} {m : Nat} {rs : List RowV} (h : OwnSP lo hi w ad m rs) : OwnSP lo hi w.drew ad m rs := h

theorem implCombOf_law {s : Int} {a : Option Addr} {n cap : Nat} {ls : List Int} {w : World} {r : List (List Int)} {fc : Int} (hr : Reads w a n ls) (hf : Fits ls) (hn : n ≤ 1048576) (hM : mCombOf s ls = (r, fc)) :
  Calls Try.prog 43 #[.agg #[.int .i64 s, .slice a n cap]] w fun e w' => ∃ b d rs, e = .returned (.tuple #[.slice b rs.length d, .int .i64 fc]) ∧ rs.map RowV.xs = r ∧ OwnSP w.heap.size w'.heap.size w' b rs.length rs ∧ Below w.heap.size w w' := by
 refine (implCombOf_any hr hf hn hM).mono ?_
 rintro e w' ⟨b, m, d, rs, rfl, hx, _, ho, hb⟩
 obtain rfl : rs.length = m := ho.1
 exact ⟨b, d, rs, rfl, hx, ho, hb⟩

end Go.Proofs.Ytehcbamfendbaaa

