/- The program: weighed factors without the greatest one ahead and the one without letters behind. -/
import Derived.Test.YtpkhddndapcpjaaSmBB
import Derived.Test.YtpkhddndapcpjaaSmKit15
import Derived.Test.YtpkhddndapcpjaaSmIRows
import Derived.Test.YtpkhddndapcpjaaSmIIs
import Derived.Test.YtpkhddndapcpjaaSmKK
import Derived.Test.YtpkhddndapcpjaaSmPB
import Derived.Deep.RegionHeld3
import Derived.Deep.DeepCutAuto
namespace Go.Proofs.Ytpkhddndapcpjaa
open Go.RowKit Go.ChangeShapes

/-- What withoutEnds gives: how many greatest ones, and the other factors. -/
def RetWE (B hi : Nat) (w : World) (f : Nat) (kf : List (List Int)) (e : Ending) (w' : World) : Prop :=
 ∃ a n cap, e = .returned (.tuple #[.int .i64 f, .slice a n cap]) ∧ n ≤ cap ∧ OwnSIn B hi w' a n kf ∧ Below w.heap.size w w'

theorem OwnSIn.set3out {lo hi : Nat} {w : World} {a : Option Addr} {n : Nat} {rs : List (List Int)} (h : OwnSIn lo hi w a n rs) {g2 : Nat} (hg : hi ≤ g2) (x y z : Value) : OwnS lo (((w.setCell ⟨g2, 0, none⟩ x).setCell ⟨g2, 1, none⟩ y).setCell ⟨g2, 2, none⟩ z) a n rs := by
 rcases h.2 with h0 | h0
 ·exact ⟨h.1.1, h.1.2.1, .inl h0⟩
 ·refine h.1.heap (by simp [World.setCell]) fun p hp _ _ => ?_
  have hlt := h0 p hp
  rw [Below.heap_setCell _ _ _ _ (by show p.block ≠ g2; omega), Below.heap_setCell _ _ _ _ (by show p.block ≠ g2; omega), Below.heap_setCell _ _ _ _ (by show p.block ≠ g2; omega)]

set_option maxRecDepth 100000 in
set_option maxHeartbeats 4000000 in
theorem withoutEnds_any (gr no : List Int) (lg : gr.length = 8) (ln : no.length = 8) (hne : gr ≠ no) (B gb n cap : Nat) (R : List (List Int)) (w : World) (ho : OwnA B w (some ⟨gb, 0, none⟩) n cap R) (h8 : ∀ j, j < n → (rowAt R j).length = 8) (hpos : 0 < n) (hn : n ≤ 1000000) (hi : Nat) (hhi : gb < hi) (f : Nat) (kf : List (List Int)) (hf : f = if rowAt R 0 = gr then 1 else 0) (hk : kf = (R.take (n - if rowAt R (n - 1) = no then 1 else 0)).drop f) :
  Calls Try.prog 84 #[.slice (some ⟨gb, 0, none⟩) n cap, arr8 .u8 gr, arr8 .u8 no] w (RetWE B hi w f kf) := by
 have RL := Lib.hid ho.len
 have HCP : Hid (n ≤ cap) := Lib.hid (by
  rcases ho.2.2 with ⟨hv, h0⟩ | ⟨g, c', cur, hv, _, _, h1, _⟩
  ·omega
  ·simp only [Value.slice.injEq] at hv
   omega)
 have HGB := Lib.hid (ho.lo _ rfl)
 obtain ⟨k, rfl⟩ : ∃ k, n = k + 1 := ⟨n - 1, by omega⟩
 rw [Nat.add_sub_cancel] at hk
 obtain ⟨ra, hra⟩ : ∃ ra, ra = rowAt R 0 := ⟨_, rfl⟩
 obtain ⟨rb, hrb⟩ : ∃ rb, rb = rowAt R k := ⟨_, rfl⟩
 have SA : Hid (ra.length = 8) := Lib.hid (by rw [hra]; exact h8 0 (by omega))
 have SB : Hid (rb.length = 8) := Lib.hid (by rw [hrb]; exact h8 k (by omega))
 rw [← hra] at hf
 rw [← hrb] at hk
 have HF := Lib.hid hf
 have HK := Lib.hid hk
 have LG := Lib.hid lg
 have LN := Lib.hid ln
 have HNE := Lib.hid hne
 have HC : Hid (∀ W, Below w.heap.size w W → OwnA B W (some ⟨gb, 0, none⟩) (k + 1) cap R) := Lib.hid fun W h => ho.below h
 have HRA : Hid (∀ W, Below w.heap.size w W → Cells8 W gb 0 ra) := Lib.hid fun W h => by have := (ho.below h).cellAt 0 (by omega); rw [Nat.zero_mul] at this; rw [hra]; exact this
 have HRB : Hid (∀ W, Below w.heap.size w W → Cells8 W gb (k * 8) rb) := Lib.hid fun W h => by rw [hrb]; exact (ho.below h).cellAt k (by omega)
 have HSAME : Hid (k = 0 → ra = rb) := Lib.hid fun h => by rw [hra, hrb, h]
 clear hra hrb ho hf hk lg ln hne h8
 have hw1 : IntKind.i64.wrap ((((k + 1 : Nat) : Int)) - 1) = (k : Int) := by rw [show (((k + 1 : Nat) : Int)) - 1 = (k : Int) by omega]; exact IntWalk.i64_in _ (by omega)
 have hw1' : IntKind.i64.wrap ((k : Int) + 1 - 1) = (k : Int) := by rw [show (k : Int) + 1 - 1 = (k : Int) by omega]; exact IntWalk.i64_in _ (by omega)
 have hw4 : IntKind.i64.wrap (k : Int) = (k : Int) := IntWalk.i64_in _ (by omega)
 have hi4 : (k : Int) < (k : Int) + 1 := by omega
 have hi1 : (k : Int) < (((k + 1 : Nat) : Int)) := by omega
 have hi2 : (0 : Int) ≤ (k : Int) := by omega
 have hi3 : (0 : Int) < (((k + 1 : Nat) : Int)) := by omega
 go_enter Try.func84, Try.ntmps84
 have RG := Lib.hid ((Row8.place w .u8 gr 53 w.heap.size rfl LG.out).alloc (.cells #[.int .u8 (at8 no 0), .int .u8 (at8 no 1), .int .u8 (at8 no 2), .int .u8 (at8 no 3), .int .u8 (at8 no 4), .int .u8 (at8 no 5), .int .u8 (at8 no 6), .int .u8 (at8 no 7)] 53))
 have RN := Lib.hid (Row8.place (w.alloc (.cells #[.int .u8 (at8 gr 0), .int .u8 (at8 gr 1), .int .u8 (at8 gr 2), .int .u8 (at8 gr 3), .int .u8 (at8 gr 4), .int .u8 (at8 gr 5), .int .u8 (at8 gr 6), .int .u8 (at8 gr 7)] 53)) .u8 no 53 (w.heap.size + 1) (by simp) LN.out)
 have KB := Lib.hid (below2 w (.cells #[.int .u8 (at8 gr 0), .int .u8 (at8 gr 1), .int .u8 (at8 gr 2), .int .u8 (at8 gr 3), .int .u8 (at8 gr 4), .int .u8 (at8 gr 5), .int .u8 (at8 gr 6), .int .u8 (at8 gr 7)] 53) (.cells #[.int .u8 (at8 no 0), .int .u8 (at8 no 1), .int .u8 (at8 no 2), .int .u8 (at8 no 3), .int .u8 (at8 no 4), .int .u8 (at8 no 5), .int .u8 (at8 no 6), .int .u8 (at8 no 7)] 53))
 obtain ⟨W, hW⟩ : ∃ W, W = ((w.alloc (.cells #[.int .u8 (at8 gr 0), .int .u8 (at8 gr 1), .int .u8 (at8 gr 2), .int .u8 (at8 gr 3), .int .u8 (at8 gr 4), .int .u8 (at8 gr 5), .int .u8 (at8 gr 6), .int .u8 (at8 gr 7)] 53)).alloc (.cells #[.int .u8 (at8 no 0), .int .u8 (at8 no 1), .int .u8 (at8 no 2), .int .u8 (at8 no 3), .int .u8 (at8 no 4), .int .u8 (at8 no 5), .int .u8 (at8 no 6), .int .u8 (at8 no 7)] 53)) := ⟨_, rfl⟩
 go_upto_region 2 with fail
 rw [← hW] at RG RN KB ⊢
 clear hW
 by_cases he1 : ra = gr
 ·have heq1 : ∀ W, Sem.run Try.prog (Op.equalIn 10000 53 (arr8 .u8 ra) (arr8 .u8 gr)) W = .ok true W := fun W => by rw [equal8 ra gr SA.out LG.out W, decide_eq_true he1]
  have HE1 : Hid (f = 1) := Lib.hid (by rw [HF.out, if_pos he1])
  have HX1 := Lib.hid he1; clear he1
  obtain ⟨a0, a1, a2, a3, a4, a5, a6, a7⟩ := (HRA.out _ KB.out).flat
  obtain ⟨g0, g1, g2, g3, g4, g5, g6, g7⟩ := RG.out.flat
  go_upto_region 4 with (go_region)
  clear a0 a1 a2 a3 a4 a5 a6 a7 g0 g1 g2 g3 g4 g5 g6 g7
  replace RG := Lib.hid RG.out.drew
  replace RN := Lib.hid RN.out.drew
  replace KB := Lib.hid KB.out.drew
  obtain ⟨W1, hW1⟩ : ∃ W1, W1 = W.drew := ⟨_, rfl⟩
  rw [← hW1] at RG RN KB ⊢
  clear hW1
  by_cases he2 : rb = no
  ·have heq2 : ∀ W, Sem.run Try.prog (Op.equalIn 10000 53 (arr8 .u8 rb) (arr8 .u8 no)) W = .ok true W := fun W => by rw [equal8 rb no SB.out LN.out W, decide_eq_true he2]
   have HKF : Hid (kf = (R.take k).drop 1) := Lib.hid (by rw [HK.out, HE1.out, if_pos he2]; try rfl)
   have HX2 := Lib.hid he2; clear he2
   have hk0 : 0 < k := by
    rcases Nat.eq_zero_or_pos k with h | h
    ·exact absurd (HX1.out.symm.trans ((HSAME.out h).trans HX2.out)) HNE.out
    ·exact h
   obtain ⟨b0, b1, b2, b3, b4, b5, b6, b7⟩ := (HRB.out _ KB.out).flat
   obtain ⟨g0, g1, g2, g3, g4, g5, g6, g7⟩ := RN.out.flat
   go_upto_region 6 with (go_region)
   clear b0 b1 b2 b3 b4 b5 b6 b7 g0 g1 g2 g3 g4 g5 g6 g7
   replace KB := Lib.hid KB.out.drew.drew
   have hcap := HCP.out
   have hc1 : ((k : Int) : Int) ≤ (cap : Int) := by omega
   have hc2 : (1 : Int) ≤ (k : Int) := by omega
   have OS := Lib.hid ((HC.out _ KB.out).sub 1 k (by omega) (by omega))
   rw [← HKF.out] at OS
   go_region
   go_wp2
   ·try rw [Exit.noGoto_ret]
    exact bodyPost_ret (v := .tuple #[.int .i64 f, .slice (some ⟨gb, 0, none⟩) 0 0]) (by simp [results, Try.results84, go_sem, HE1.out]) rfl ⟨_, 0, 0, rfl, Nat.le_refl _, by have h0 : kf = [] := List.eq_nil_of_length_eq_zero (by rw [HKF.out, List.length_drop, List.length_take]; omega); rw [h0]; exact ⟨OwnS.nil _ _ _, .inl rfl⟩, KB.out⟩
   ·try rw [Exit.noGoto_ret]
    exact bodyPost_ret (v := .tuple #[.int .i64 f, .slice (some ⟨gb, 8, none⟩) (k - 1) (k - 1)]) (by simp [results, Try.results84, go_sem, HE1.out]) rfl ⟨_, (k - 1), (k - 1), rfl, Nat.le_refl _, ⟨OS.out, .inr fun x hx => by cases hx; exact hhi⟩, KB.out⟩
  ·have heq2 : ∀ W, Sem.run Try.prog (Op.equalIn 10000 53 (arr8 .u8 rb) (arr8 .u8 no)) W = .ok false W := fun W => by rw [equal8 rb no SB.out LN.out W, decide_eq_false he2]
   have HKF : Hid (kf = (R.take (k + 1)).drop 1) := Lib.hid (by rw [HK.out, HE1.out, if_neg he2]; try rfl)
   have HX2 := Lib.hid he2; clear he2
   obtain ⟨b0, b1, b2, b3, b4, b5, b6, b7⟩ := (HRB.out _ KB.out).flat
   obtain ⟨g0, g1, g2, g3, g4, g5, g6, g7⟩ := RN.out.flat
   go_upto_region 6 with (go_region)
   clear b0 b1 b2 b3 b4 b5 b6 b7 g0 g1 g2 g3 g4 g5 g6 g7
   replace KB := Lib.hid KB.out.drew.drew
   have hcap := HCP.out
   have hc1 : (((k + 1 : Nat) : Int) : Int) ≤ (cap : Int) := by omega
   have hc2 : (1 : Int) ≤ ((k + 1 : Nat) : Int) := by omega
   have OS := Lib.hid ((HC.out _ KB.out).sub 1 (k + 1) (by omega) (by omega))
   rw [← HKF.out] at OS
   go_region
   go_wp2
   ·try rw [Exit.noGoto_ret]
    exact bodyPost_ret (v := .tuple #[.int .i64 f, .slice (some ⟨gb, 0, none⟩) 0 0]) (by simp [results, Try.results84, go_sem, HE1.out]) rfl ⟨_, 0, 0, rfl, Nat.le_refl _, by have h0 : kf = [] := List.eq_nil_of_length_eq_zero (by rw [HKF.out, List.length_drop, List.length_take]; omega); rw [h0]; exact ⟨OwnS.nil _ _ _, .inl rfl⟩, KB.out⟩
   ·try rw [Exit.noGoto_ret]
    exact bodyPost_ret (v := .tuple #[.int .i64 f, .slice (some ⟨gb, 8, none⟩) k k]) (by simp [results, Try.results84, go_sem, HE1.out]) rfl ⟨_, k, k, rfl, Nat.le_refl _, ⟨OS.out, .inr fun x hx => by cases hx; exact hhi⟩, KB.out⟩
 ·have heq1 : ∀ W, Sem.run Try.prog (Op.equalIn 10000 53 (arr8 .u8 ra) (arr8 .u8 gr)) W = .ok false W := fun W => by rw [equal8 ra gr SA.out LG.out W, decide_eq_false he1]
  have HE1 : Hid (f = 0) := Lib.hid (by rw [HF.out, if_neg he1])
  have HX1 := Lib.hid he1; clear he1
  obtain ⟨a0, a1, a2, a3, a4, a5, a6, a7⟩ := (HRA.out _ KB.out).flat
  obtain ⟨g0, g1, g2, g3, g4, g5, g6, g7⟩ := RG.out.flat
  go_upto_region 4 with (go_region)
  clear a0 a1 a2 a3 a4 a5 a6 a7 g0 g1 g2 g3 g4 g5 g6 g7
  replace RG := Lib.hid RG.out.drew
  replace RN := Lib.hid RN.out.drew
  replace KB := Lib.hid KB.out.drew
  obtain ⟨W1, hW1⟩ : ∃ W1, W1 = W.drew := ⟨_, rfl⟩
  rw [← hW1] at RG RN KB ⊢
  clear hW1
  by_cases he2 : rb = no
  ·have heq2 : ∀ W, Sem.run Try.prog (Op.equalIn 10000 53 (arr8 .u8 rb) (arr8 .u8 no)) W = .ok true W := fun W => by rw [equal8 rb no SB.out LN.out W, decide_eq_true he2]
   have HKF : Hid (kf = (R.take k).drop 0) := Lib.hid (by rw [HK.out, HE1.out, if_pos he2]; try rfl)
   have HX2 := Lib.hid he2; clear he2
   obtain ⟨b0, b1, b2, b3, b4, b5, b6, b7⟩ := (HRB.out _ KB.out).flat
   obtain ⟨g0, g1, g2, g3, g4, g5, g6, g7⟩ := RN.out.flat
   go_upto_region 6 with (go_region)
   clear b0 b1 b2 b3 b4 b5 b6 b7 g0 g1 g2 g3 g4 g5 g6 g7
   replace KB := Lib.hid KB.out.drew.drew
   have hcap := HCP.out
   have hc1 : ((k : Int) : Int) ≤ (cap : Int) := by omega
   have hc2 : (0 : Int) ≤ (k : Int) := by omega
   have OS := Lib.hid ((HC.out _ KB.out).sub 0 k (by omega) (by omega))
   rw [← HKF.out] at OS
   go_region
   go_wp2
   try rw [Exit.noGoto_ret]
   exact bodyPost_ret (v := .tuple #[.int .i64 f, .slice (some ⟨gb, 0, none⟩) k k]) (by simp [results, Try.results84, go_sem, HE1.out]) rfl ⟨_, k, k, rfl, Nat.le_refl _, ⟨OS.out, .inr fun x hx => by cases hx; exact hhi⟩, KB.out⟩
  ·have heq2 : ∀ W, Sem.run Try.prog (Op.equalIn 10000 53 (arr8 .u8 rb) (arr8 .u8 no)) W = .ok false W := fun W => by rw [equal8 rb no SB.out LN.out W, decide_eq_false he2]
   have HKF : Hid (kf = (R.take (k + 1)).drop 0) := Lib.hid (by rw [HK.out, HE1.out, if_neg he2]; try rfl)
   have HX2 := Lib.hid he2; clear he2
   obtain ⟨b0, b1, b2, b3, b4, b5, b6, b7⟩ := (HRB.out _ KB.out).flat
   obtain ⟨g0, g1, g2, g3, g4, g5, g6, g7⟩ := RN.out.flat
   go_upto_region 6 with (go_region)
   clear b0 b1 b2 b3 b4 b5 b6 b7 g0 g1 g2 g3 g4 g5 g6 g7
   replace KB := Lib.hid KB.out.drew.drew
   have hcap := HCP.out
   have hc1 : (((k + 1 : Nat) : Int) : Int) ≤ (cap : Int) := by omega
   have hc2 : (0 : Int) ≤ ((k + 1 : Nat) : Int) := by omega
   have OS := Lib.hid ((HC.out _ KB.out).sub 0 (k + 1) (by omega) (by omega))
   rw [← HKF.out] at OS
   go_region
   go_wp2
   try rw [Exit.noGoto_ret]
   exact bodyPost_ret (v := .tuple #[.int .i64 f, .slice (some ⟨gb, 0, none⟩) (k + 1) (k + 1)]) (by simp [results, Try.results84, go_sem, HE1.out]) rfl ⟨_, (k + 1), (k + 1), rfl, Nat.le_refl _, ⟨OS.out, .inr fun x hx => by cases hx; exact hhi⟩, KB.out⟩

end Go.Proofs.Ytpkhddndapcpjaa

