/- slices.Reverse over rows, empty or not, of the call's own. -/
import Derived.Test.YthpmehhfhngnbaaRnIRno
namespace Go.Proofs.Ythpmehhfhngnbaa
open Go.RowKit Go.ChangeShapes

theorem OwnS.rowsAt {B : Nat} {w : World} {g off n : Nat} {rs : List (List Int)} (h : OwnS B w (some ⟨g, off, none⟩) n rs) (hn : 0 < n) : RowsAt w g off n rs ∧ B ≤ g := by
 obtain ⟨h1, h2, h | ⟨g', off', ha, hB, hg, hc, hf⟩⟩ := h
 ·omega
 ·simp only [Option.some.injEq, Addr.mk.injEq] at ha
  obtain ⟨rfl, rfl, _⟩ := ha
  exact ⟨⟨h1, h2, hg, fun j hj i hi => hc j hj i hi, hf⟩, hB⟩

theorem RowsAt.own {B : Nat} {w : World} {g off n : Nat} {rs : List (List Int)} (h : RowsAt w g off n rs) (hB : B ≤ g) : OwnS B w (some ⟨g, off, none⟩) n rs :=
 ⟨h.1, h.2.1, .inr ⟨g, off, rfl, hB, h.2.2.1, fun j hj i hi => h.2.2.2.1 j hj i hi, h.2.2.2.2⟩⟩

set_option maxRecDepth 100000 in
set_option maxHeartbeats 600000 in
theorem reverse_nil (a : Option Addr) (cap : Nat) (w : World) :
  Calls Try.prog 64 #[.slice a 0 cap] w (fun e w' => e = .returned (.tuple #[]) ∧ w' = w) := by
 go_enter Try.func64, Try.ntmps64
 go_wp2_with fail
 go_loopw [2, 3] (fun i j wr => i = .int .i64 0 ∧ j = .int .i64 (-1) ∧ wr = w) (fun _ _ _ => 0)
 case atStart => exact ⟨rfl, by go_num, rfl⟩
 case round =>
  obtain ⟨rfl, rfl, rfl⟩ := hrel
  go_wp2
  go_end0
  exact ⟨rfl, rfl⟩

theorem reverse_all {lo hi : Nat} (a : Option Addr) (n cap : Nat) (rs : List (List Int)) (w : World) (hn : n ≤ 1048576) (hr : OwnSIn lo hi w a n rs) :
  Calls Try.prog 64 #[.slice a n cap] w (fun e w' => e = .returned (.tuple #[]) ∧ OwnSIn lo hi w' a n rs.reverse ∧ Wrote lo hi w w') := by
 obtain ⟨ho, hh⟩ := hr
 rcases Nat.eq_zero_or_pos n with h0 | h0
 ·subst h0
  refine (reverse_nil a cap w).mono ?_
  rintro e w' ⟨rfl, rfl⟩
  have hl := ho.len
  rw [List.length_eq_zero_iff.1 hl, List.reverse_nil]
  exact ⟨rfl, ⟨OwnS.nil _ _ _, .inl rfl⟩, ⟨rfl, rfl, rfl, Nat.le_refl _, fun _ _ _ => rfl⟩⟩
 ·obtain ⟨_, _, h | ⟨g, off, rfl, _⟩⟩ := id ho
  ·omega
  ·obtain ⟨hR, hB⟩ := ho.rowsAt h0
   have hg : g < hi := (hh.resolve_left (by omega)) _ rfl
   refine (reverse_any g off n cap rs w h0 hn hR).mono ?_
   rintro e w' ⟨rfl, hR', hb⟩
   exact ⟨rfl, ⟨hR'.own hB, .inr fun x hx => by cases hx; exact hg⟩, ⟨hb.os, hb.tape, hb.output, hb.size, fun k hk hd => hb.block k hk (by omega)⟩⟩

end Go.Proofs.Ythpmehhfhngnbaa

