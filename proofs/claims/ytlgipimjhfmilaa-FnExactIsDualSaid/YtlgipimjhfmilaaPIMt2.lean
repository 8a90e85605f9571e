/- The program: the meet of two parts, whole. -/
import Derived.Test.YtlgipimjhfmilaaPIMeet
namespace Go.Proofs.Ytlgipimjhfmilaa
open Go.RowKit Go.ChangeShapes

theorem meetP_eq (n : Nat) (h8 : n ≤ 8) (p q : List Int) : mapR n (fun x => at8 (meetP n p q) x) = meetP n p q := by
  refine ext8 (mapR_len _ _ h8) (mapR_len _ _ h8) fun j hj => ?_
  rw [at8_mapR]
  by_cases e : j < n
  · rw [if_pos e]
  · rw [if_neg e]
    unfold meetP madeR
    rw [at8_mapR, if_neg e]

theorem meetP_len (n : Nat) (h8 : n ≤ 8) (p q : List Int) : (meetP n p q).length = 8 := mapR_len _ _ h8

/-- The meet is a row of different numbers. -/
theorem meetP_sim {n : Nat} {p q : List Int} (hp : Sim n p) : Sim n (meetP n p q) := by
  have h8 := hp.hi
  have hM : ∀ z, z < n → nx (mtR n p q) z = mtN n (lstN n p) (lstN n q) z := fun z hz => by
    unfold nx mtR
    rw [at8_mapR, if_pos hz, Int.toNat_natCast]
  have e : meetP n p q = mapR n fun x => ((mdN (mtN n (lstN n p) (lstN n q)) n x : Nat) : Int) := by
    unfold meetP madeR
    exact mapR_congr _ _ _ fun x hx => by rw [mdN_congr _ _ n x hx hM]
  have low : ∀ x, x < n → mtN n (lstN n p) (lstN n q) (mtN n (lstN n p) (lstN n q) x) = mtN n (lstN n p) (lstN n q) x := fun x hx => by
    obtain ⟨a1, a2, a3, a4⟩ := mtN_is n (lstN n p) (lstN n q) x hx h8
    exact (mtN_same n _ _ x _ hx (by omega) h8).2 ⟨a2, a3⟩
  rw [e]
  have bd : ∀ x, x < n → mdN (mtN n (lstN n p) (lstN n q)) n x < n := fun x hx => mdN_lt _ n x hx (by have := (mtN_is n (lstN n p) (lstN n q) x hx h8).1; omega)
  refine Sim.mk' hp.lo h8 (fun x hx => ?_) (fun x y hx hy hxy => ?_)
  · have := bd x hx
    omega
  · have h3 : mdN (mtN n (lstN n p) (lstN n q)) n x = mdN (mtN n (lstN n p) (lstN n q)) n y := by omega
    obtain ⟨L, hL⟩ : ∃ L, L = mtN n (lstN n p) (lstN n q) := ⟨_, rfl⟩
    rw [← hL] at h3 low
    have hle : ∀ z, z < n → L z ≤ z := fun z hz => by rw [hL]; exact (mtN_is n (lstN n p) (lstN n q) z hz h8).1
    rcases mdN_cases L n x hx with ⟨g1, g2, g3, g4⟩ | ⟨g1, g2⟩
    · rcases mdN_cases L n y hy with ⟨k1, k2, k3, k4⟩ | ⟨k1, k2⟩
      · have hxy2 : L x = L y := by rw [← g3, h3, k3]
        rcases Nat.lt_trichotomy x y with h | h | h
        · exact absurd hxy2.symm (g4 y h (by omega))
        · exact h
        · exact absurd hxy2 (k4 x h (by omega))
      · exfalso
        have h5 : L x = L y := by rw [← g3, h3, k2, low y hy]
        have := hle x hx
        omega
    · rcases mdN_cases L n y hy with ⟨k1, k2, k3, k4⟩ | ⟨k1, k2⟩
      · exfalso
        have h5 : L y = L x := by rw [← k3, ← h3, g2, low x hx]
        have := hle y hy
        omega
      · have hxy2 : L x = L y := by rw [← g2, h3, k2]
        rcases Nat.lt_trichotomy x y with h | h | h
        · exact absurd hxy2.symm (g1 y h hy)
        · exact h
        · exact absurd hxy2 (k1 x h hx)

set_option maxRecDepth 100000 in
set_option maxHeartbeats 1000000 in
theorem pMeet_any (n : Nat) (p q : List Int) (hp : Sim n p) (hq : Sim n q) (hasc : ∀ x, x < n → mdN (lstN n p) n x = nx p x) (w : World) :
    Calls Try.prog 46 #[arr8 .u8 p, arr8 .u8 q, .int .i64 n] w (RetArr .u8 w (meetP n p q)) := by
  have h8 := hp.hi
  have lp := hp.len
  have lq := hq.len
  have HP := Lib.hid hp
  have HQ := Lib.hid hq
  have HA := Lib.hid hasc
  clear hp hq hasc
  go_enter Try.func46, Try.ntmps46
  have RA := Lib.hid (((Row8.place w .u8 p 59 w.heap.size rfl lp).alloc (.cells #[.int .u8 (at8 q 0), .int .u8 (at8 q 1), .int .u8 (at8 q 2), .int .u8 (at8 q 3), .int .u8 (at8 q 4), .int .u8 (at8 q 5), .int .u8 (at8 q 6), .int .u8 (at8 q 7)] 59)).alloc (.cells #[.int .u8 0, .int .u8 0, .int .u8 0, .int .u8 0, .int .u8 0, .int .u8 0, .int .u8 0, .int .u8 0] 59))
  have RB := Lib.hid ((Row8.place (w.alloc (.cells #[.int .u8 (at8 p 0), .int .u8 (at8 p 1), .int .u8 (at8 p 2), .int .u8 (at8 p 3), .int .u8 (at8 p 4), .int .u8 (at8 p 5), .int .u8 (at8 p 6), .int .u8 (at8 p 7)] 59)) .u8 q 59 (w.heap.size + 1) (by simp) lq).alloc (.cells #[.int .u8 0, .int .u8 0, .int .u8 0, .int .u8 0, .int .u8 0, .int .u8 0, .int .u8 0, .int .u8 0] 59))
  have RZ := Lib.hid (Row8.zeros ((w.alloc (.cells #[.int .u8 (at8 p 0), .int .u8 (at8 p 1), .int .u8 (at8 p 2), .int .u8 (at8 p 3), .int .u8 (at8 p 4), .int .u8 (at8 p 5), .int .u8 (at8 p 6), .int .u8 (at8 p 7)] 59)).alloc (.cells #[.int .u8 (at8 q 0), .int .u8 (at8 q 1), .int .u8 (at8 q 2), .int .u8 (at8 q 3), .int .u8 (at8 q 4), .int .u8 (at8 q 5), .int .u8 (at8 q 6), .int .u8 (at8 q 7)] 59)) .u8 59 (w.heap.size + 1 + 1) (by simp))
  have BB := Lib.hid (below3 w (.cells #[.int .u8 (at8 p 0), .int .u8 (at8 p 1), .int .u8 (at8 p 2), .int .u8 (at8 p 3), .int .u8 (at8 p 4), .int .u8 (at8 p 5), .int .u8 (at8 p 6), .int .u8 (at8 p 7)] 59) (.cells #[.int .u8 (at8 q 0), .int .u8 (at8 q 1), .int .u8 (at8 q 2), .int .u8 (at8 q 3), .int .u8 (at8 q 4), .int .u8 (at8 q 5), .int .u8 (at8 q 6), .int .u8 (at8 q 7)] 59) (.cells #[.int .u8 0, .int .u8 0, .int .u8 0, .int .u8 0, .int .u8 0, .int .u8 0, .int .u8 0, .int .u8 0] 59))
  clear lp lq
  have HE : Hid (mapR n (fun x => at8 (meetP n p q) x) = meetP n p q) := Lib.hid (meetP_eq n h8 p q)
  go_wp2_with fail
  refine (simpleFrom_any 84 #[.pointer (some ⟨w.heap.size, 0, none⟩), .pointer (some ⟨w.heap.size + 1, 0, none⟩)] (fun x => at8 (meetP n p q) x) n h8 _ enter_meet1 (fun x W hW hx => meet1_any n x _ _ p q HP.out HQ.out HA.out hx W (RA.out.below hW) (RB.out.below hW))).mono ?_
  rw [HE.out]
  rintro e w2 ⟨rfl, hb⟩
  replace RZ := Lib.hid (RZ.out.below hb)
  replace BB := Lib.hid (below_go BB.out hb BB.out.size)
  clear hb RA RB
  obtain ⟨⟨d0, d1, d2, d3⟩, d4, d5, d6, d7⟩ := RZ.out.all
  obtain ⟨⟨f0, f1, f2, f3⟩, f4, f5, f6, f7⟩ := RZ.out.frees
  have zq := RZ.out.lt
  go_wp2
  obtain ⟨⟨e0, e1, e2, e3⟩, e4, e5, e6, e7⟩ := (RZ.out.fill (meetP n p q) (mapR_len _ _ h8)).all
  refine bodyPost_ret (v := arr8 .u8 (meetP n p q)) (by simp [results, Try.results46, go_sem, e0, e1, e2, e3, e4, e5, e6, e7]) rfl ⟨rfl, ?_⟩
  exact below_fill8 BB.out _ (by omega) _ _ _ _ _ _ _ _

end Go.Proofs.Ytlgipimjhfmilaa
