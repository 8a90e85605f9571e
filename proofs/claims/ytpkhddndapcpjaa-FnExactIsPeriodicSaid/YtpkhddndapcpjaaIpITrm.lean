/- The program: half turns and 'nothing' are taken off. -/
import Derived.Test.YtpkhddndapcpjaaIpIWoe
namespace Go.Proofs.Ytpkhddndapcpjaa
open Go.RowKit Go.ChangeShapes

set_option maxRecDepth 100000 in
set_option maxHeartbeats 4000000 in
theorem trimmed_any (m : Nat) (m2 : 1 < m) (m8 : m ≤ 8) (p : Int) (hp : -1000000 ≤ p ∧ p ≤ 1000000) (B gb n cap : Nat) (R : List (List Int)) (w : World) (ho : OwnA B w (some ⟨gb, 0, none⟩) n cap R) (hpos : 0 < n) (hs : Sims m R) (hn : n ≤ 1000000) (q : Int) (kf : List (List Int)) (hq : trimR m p R = (q, kf)) :
  Calls Try.prog 75 #[.int .i64 m, .int .i64 p, .slice (some ⟨gb, 0, none⟩) n cap] w (RetNS B w m q kf) := by
 have HS := Lib.hid hs; clear hs
 have RL := Lib.hid ho.len
 obtain ⟨f, hf⟩ : ∃ f : Nat, f = if rowAt R 0 = halfR m then 1 else 0 := ⟨_, rfl⟩
 have hf1 : f ≤ 1 := by rw [hf]; split <;> omega
 unfold trimR at hq
 rw [RL.out, ← hf] at hq
 have hqq : p + (f : Int) = q := by have h := congrArg Prod.fst hq; exact h
 have hkk : kf = (R.take (n - if rowAt R (n - 1) = sameR m then 1 else 0)).drop f := by have h := congrArg Prod.snd hq; exact h.symm
 have HFF := Lib.hid hf
 have HKK := Lib.hid hkk
 have HQQ := Lib.hid hqq
 have HO := Lib.hid ho
 have HGB := Lib.hid (ho.lo _ rfl)
 clear hq hf hqq hkk ho
 have hwq : IntKind.i64.wrap (p + (f : Int)) = p + (f : Int) := IntWalk.i64_in _ (by omega)
 go_enter Try.func75, Try.ntmps75
 have Z := Lib.hid (At3.place w (.int .i64 0) (.int .i64 0) (.slice none 0 0) 28 w.heap.size rfl)
 have KB := Lib.hid (below1 w (.cells #[.int .i64 0, .int .i64 0, .slice none 0 0] 28))
 go_wp2_with fail
 refine (halfTurn_any m m8 _).mono ?_
 rintro e w3 ⟨rfl, gg⟩
 replace Z := Lib.hid (Z.out.below gg)
 replace KB := Lib.hid (below_go KB.out gg KB.out.size)
 clear gg
 go_wp2_with fail
 refine (nothing_any m m8 _).mono ?_
 rintro e w4 ⟨rfl, gg⟩
 replace Z := Lib.hid (Z.out.below gg)
 replace KB := Lib.hid (below_go KB.out gg KB.out.size)
 clear gg
 go_wp2_with fail
 refine (withoutEnds_any (halfR m) (sameR m) (mapR_len _ _ m8) (mapR_len _ _ m8) (half_ne m2) B gb n cap R _ (HO.out.below KB.out) (fun j hj => (HS.out _ (rowAt_getElem (by rw [RL.out]; exact hj))).len) hpos hn w.heap.size HGB.out.2 f kf HFF.out HKK.out).mono ?_
 rintro e w5 ⟨a9, n9, c9, rfl, hc9, ho9, gg⟩
 replace Z := Lib.hid (Z.out.below gg)
 replace KB := Lib.hid (below_go KB.out gg KB.out.size)
 have O9 := Lib.hid ho9
 clear gg ho9
 have hgb := HGB.out
 have OX := Lib.hid (O9.out.set3out (g2 := w.heap.size) (Nat.le_refl _) (.int .i64 m) (.int .i64 q) (.slice a9 n9 c9))
 have BL := Lib.hid (below_set3 KB.out (g2 := w.heap.size) (Nat.le_refl _) (.int .i64 m) (.int .i64 q) (.slice a9 n9 c9))
 obtain ⟨x0, ⟨x1, x2, x3⟩, y1, y2, y3⟩ := Z.out
 obtain ⟨_, ⟨e1, e2, e3⟩, _⟩ := Z.out.fill (.int .i64 m) (.int .i64 q) (.slice a9 n9 c9)
 have hqq := HQQ.out
 rw [hqq] at hwq
 go_wp2
 try rw [Exit.noGoto_ret]
 exact bodyPost_ret (v := .agg #[.int .i64 m, .int .i64 q, .slice a9 n9 c9]) (by simp [results, Try.results75, go_sem, e1, e2, e3]) rfl ⟨a9, n9, c9, rfl, hc9, OX.out, BL.out⟩

end Go.Proofs.Ytpkhddndapcpjaa

