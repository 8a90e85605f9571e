/- The program: cycling. -/
import Derived.Test.YthpmehhfhngnbaaFrNConj
import Derived.Test.YthpmehhfhngnbaaFrCycP
namespace Go.Proofs.Ythpmehhfhngnbaa
open Go.RowKit Go.ChangeShapes

theorem ReadsA.tail {w : World} {b off n : Nat} {l : List (List Int)} (h : ReadsA w (some ⟨b, off, none⟩) (n + 1) l) (c : Nat) (hc : n ≤ c) : ReadsA w (if c = 0 then some ⟨b, off, none⟩ else some ⟨b, off + 8, none⟩) n (l.drop 1) := by
 obtain ⟨h2, h1, h3⟩ := h
 refine ⟨by rw [List.length_drop, h2]; omega, fun r hr => h1 r (List.mem_of_mem_drop hr), ?_⟩
 by_cases hz : n = 0
 ·exact .inl hz
 ·rw [if_neg (by omega)]
  rcases h3 with h3 | ⟨b2, o2, ha, hcl⟩
  ·omega
  ·cases ha
   refine .inr ⟨b, off + 8, rfl, fun j hj i hi => ?_⟩
   have h4 := hcl (j + 1) (by omega) i hi
   rw [show off + (j + 1) * 8 + i = off + 8 + j * 8 + i by omega] at h4
   rw [h4]
   have e1 : rowAt (l.drop 1) j = rowAt l (j + 1) := by simp [rowAt, List.getD]
   rw [e1]

set_option maxRecDepth 100000 in
set_option maxHeartbeats 1000000 in
theorem clone_any (a : Option Addr) (n cap : Nat) (rs : List (List Int)) (w : World) (hr : ReadsA w a n rs) (hn : n ≤ 1048576) :
  Calls Try.prog 114 #[.slice a n cap] w fun e w' => ∃ b d, e = .returned (.slice b n d) ∧ OwnS w.heap.size w' b n rs ∧ Below w.heap.size w w' := by
 obtain ⟨i0, hi, hz0, hz1, hz2⟩ := info_parts infoSimple
 have R := Lib.hid hr
 have HL := Lib.hid hr.len
 clear hr
 go_enter Try.func114, Try.ntmps114
 cases a with
 | none =>
  have hn0 : n = 0 := by
   rcases R.out.2.2 with h | ⟨b, off, ha, _⟩
   ·exact h
   ·cases ha
  subst hn0
  have h0 : rs = [] := List.eq_nil_of_length_eq_zero HL.out
  have heq : ∀ W, Sem.run Try.prog (binOp BinOp.eql 26 (.slice none 0 cap) (.slice none 0 0)) W = .ok (.bool true) W := fun W => by kernel_rfl
  go_wp2
  go_ret
  exact ⟨_, _, rfl, by rw [h0]; exact OwnS.nil _ _ _, Below.refl _ _⟩
 | some ad =>
  have O := Lib.hid (OwnAV.empty w)
  have heq : ∀ W, Sem.run Try.prog (binOp BinOp.eql 26 (.slice (some ad) n cap) (.slice none 0 0)) W = .ok (.bool false) W := fun W => by kernel_rfl
  go_wp2_with (at_builtin; refine wpList_append_rows_at rfl _ _ 26 rfl w.heap.size i0 Try.underlying26 hi hz0 hz1 hz2 _ _ _ rfl O.out _ _ _ rs rfl (R.out.alloc _) (by omega) (by simp) ?_)
  intro v' w5 ho' hg hv
  have KB := below_ownA (below1 w (.cells #[] 78)) (by simp) (Nat.le_refl _) O.out hg
  obtain ⟨b, d, rfl, ho⟩ := ho'.form
  go_wp2
  go_ret
  exact ⟨b, d, rfl, ho.toS, KB⟩

end Go.Proofs.Ythpmehhfhngnbaa

