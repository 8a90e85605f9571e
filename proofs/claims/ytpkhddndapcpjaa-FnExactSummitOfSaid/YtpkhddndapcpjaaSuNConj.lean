/- Conjugates of normal forms: the model and the program. -/
import Derived.Test.YtpkhddndapcpjaaSuNMul
import Derived.Test.YtpkhddndapcpjaaSuSInv
import Derived.Test.YtpkhddndapcpjaaSuITrd
import Derived.Test.YtpkhddndapcpjaaSuKit15
import Derived.Test.YtpkhddndapcpjaaSuSMk0
import Derived.Test.YtpkhddndapcpjaaSuSB
namespace Go.Proofs.Ytpkhddndapcpjaa
open Go.RowKit Go.ChangeShapes

theorem l03Fit_own {B : Nat} (s q : Int) (a : Option Addr) (n cap : Nat) (rs : List (List Int)) (w : World) (ho : OwnS B w a n rs) (fs fp : Int) (frs : List (List Int)) (fc : Int) (hf : fitN s q rs = (fs, fp, frs, fc)) :
  Calls Try.prog 23 #[.agg #[.int .i64 s, .int .i64 q, .slice a n cap]] w fun e w' => ∃ b m d, e = .returned (.tuple #[.agg #[.int .i64 fs, .int .i64 fp, .slice b m d], .int .i64 fc]) ∧ OwnS B w' b m frs ∧ m ≤ 200 ∧ (m = 0 ∨ b = a ∧ m = n) ∧ Below w.heap.size w w' := by
 unfold fitN at hf
 by_cases hc : -200 ≤ q ∧ q ≤ 200 ∧ n ≤ 200
 ·rw [if_pos (by rw [ho.len]; exact hc)] at hf
  simp only [Prod.mk.injEq] at hf
  obtain ⟨rfl, rfl, rfl, rfl⟩ := hf
  exact (l03Fit_yes s q a n cap w hc).mono fun e w' ⟨he, hb⟩ => ⟨a, n, cap, he, ho.below hb, hc.2.2, .inr ⟨rfl, rfl⟩, hb⟩
 ·rw [if_neg (by rw [ho.len]; exact hc)] at hf
  simp only [Prod.mk.injEq] at hf
  obtain ⟨rfl, rfl, rfl, rfl⟩ := hf
  exact (l03Fit_no s q a n cap w hc).mono fun e w' ⟨he, hb⟩ => ⟨none, 0, 0, he, OwnS.nil _ _ _, by omega, .inl rfl, hb⟩

theorem limited_own {B : Nat} (s q : Int) (a : Option Addr) (n cap : Nat) (rs : List (List Int)) (w : World) (ho : OwnS B w a n rs) (fs fp : Int) (frs : List (List Int)) (fc : Int) (hf : fitN s q rs = (fs, fp, frs, fc)) :
  Calls Try.prog 27 #[.agg #[.int .i64 s, .int .i64 q, .slice a n cap]] w fun e w' => ∃ b m d, e = .returned (.tuple #[.agg #[.int .i64 fs, .int .i64 fp, .slice b m d], .int .i64 fc]) ∧ OwnS B w' b m frs ∧ m ≤ 200 ∧ (m = 0 ∨ b = a ∧ m = n) ∧ Below w.heap.size w w' := by
 unfold fitN at hf
 by_cases hc : -200 ≤ q ∧ q ≤ 200 ∧ n ≤ 200
 ·rw [if_pos (by rw [ho.len]; exact hc)] at hf
  simp only [Prod.mk.injEq] at hf
  obtain ⟨rfl, rfl, rfl, rfl⟩ := hf
  exact (limited_yes s q a n cap w hc).mono fun e w' ⟨he, hb⟩ => ⟨a, n, cap, he, ho.below hb, hc.2.2, .inr ⟨rfl, rfl⟩, hb⟩
 ·rw [if_neg (by rw [ho.len]; exact hc)] at hf
  simp only [Prod.mk.injEq] at hf
  obtain ⟨rfl, rfl, rfl, rfl⟩ := hf
  exact (limited_no s q a n cap w hc).mono fun e w' ⟨he, hb⟩ => ⟨none, 0, 0, he, OwnS.nil _ _ _, by omega, .inl rfl, hb⟩

end Go.Proofs.Ytpkhddndapcpjaa

