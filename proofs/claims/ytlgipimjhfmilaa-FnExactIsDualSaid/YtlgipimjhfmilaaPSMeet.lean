/- The model: the meet of two parts. -/
import Derived.Test.YtlgipimjhfmilaaPSMade
import Derived.Test.YtlgipimjhfmilaaQB
import Derived.Deep.DeepCutAuto
namespace Go.Proofs.Ytlgipimjhfmilaa
open Go.RowKit Go.ChangeShapes

/-- The places from x on are done. -/
def topR (n : Nat) (F : Nat → Nat) (x : Nat) : List Int := mapR n fun z => if x ≤ z then ((F z : Nat) : Int) else 0

theorem topR_start (n : Nat) (F : Nat → Nat) : topR n F n = [0, 0, 0, 0, 0, 0, 0, 0] ∨ 8 < n := by
  by_cases h8 : n ≤ 8
  · refine .inl (ext8 (mapR_len _ _ h8) rfl fun j hj => ?_)
    unfold topR
    rw [at8_mapR]
    have e : at8 [0, 0, 0, 0, 0, 0, 0, 0] j = 0 := by
      have : j = 0 ∨ j = 1 ∨ j = 2 ∨ j = 3 ∨ j = 4 ∨ j = 5 ∨ j = 6 ∨ j = 7 := by omega
      rcases this with rfl | rfl | rfl | rfl | rfl | rfl | rfl | rfl <;> rfl
    rw [e]
    split
    · rw [if_neg (by omega)]
    · rfl
  · exact .inr (by omega)

theorem topR_len (n : Nat) (h8 : n ≤ 8) (F : Nat → Nat) (x : Nat) : (topR n F x).length = 8 := mapR_len _ _ h8

theorem topR_zero (n : Nat) (h8 : n ≤ 8) (F : Nat → Nat) (x : Nat) (hx : x < n) (P : Nat → Bool) : (topR n F (x + 1)).set x ((lwN P (8 - 8) 8 : Nat) : Int) = topR n F (x + 1) := by
  refine ext8 (by rw [List.length_set]; exact topR_len n h8 F _) (topR_len n h8 F _) fun j hj => ?_
  rw [at8_set _ _ _ _ (by rw [topR_len n h8]; omega)]
  by_cases e : x = j
  · subst e
    rw [if_pos rfl]
    unfold topR
    rw [at8_mapR, if_pos hx, if_neg (by omega)]
    rfl
  · rw [if_neg e]

theorem topR_step (n : Nat) (h8 : n ≤ 8) (F : Nat → Nat) (x : Nat) (hx : x < n) : topR n F x = (topR n F (x + 1)).set x ((F x : Nat) : Int) := by
  refine ext8 (topR_len n h8 F _) (by rw [List.length_set]; exact topR_len n h8 F _) fun j hj => ?_
  rw [at8_set _ _ _ _ (by rw [topR_len n h8]; omega)]
  unfold topR
  rw [at8_mapR, at8_mapR]
  by_cases e : x = j
  · subst e
    rw [if_pos rfl, if_pos hx, if_pos (Nat.le_refl _)]
  · rw [if_neg e]
    by_cases e2 : j < n
    · rw [if_pos e2, if_pos e2]
      by_cases e3 : x ≤ j
      · rw [if_pos e3, if_pos (by omega)]
      · rw [if_neg e3, if_neg (by omega)]
    · rw [if_neg e2, if_neg e2]

theorem topR_end (n : Nat) (p q : List Int) : topR n (mtN n (lstN n p) (lstN n q)) 0 = mtR n p q := by
  unfold topR mtR
  exact mapR_congr _ _ _ fun j _ => by rw [if_pos (Nat.zero_le _)]

theorem bytes_of_sim {n : Nat} {p : List Int} (h : Sim n p) : Bytes8 p := fun j => by
  have := h.all j
  have := h.hi
  omega

theorem lstM_of {n : Nat} {p : List Int} (h : Sim n p) : lstM n p = lstR n p := by
  unfold lstM
  rw [if_pos ((simB_iff _ _ h.len).2 ⟨n, rfl, h⟩), Int.toNat_natCast]

set_option maxRecDepth 100000 in
set_option maxHeartbeats 4000000 in
theorem l07Meet_any (n : Nat) (p q : List Int) (hp : Sim n p) (hq : Sim n q) (w : World) :
    Calls Try.prog 75 #[arr8 .u8 p, arr8 .u8 q, .int .i64 n] w (RetArr .u8 w (meetP n p q)) := by
  have h1 := hp.lo
  have h8 := hp.hi
  have lp := hp.len
  have lq := hq.len
  have HP := Lib.hid hp
  have HQ := Lib.hid hq
  clear hp hq
  have YP : Hid (Bytes8 p) := Lib.hid (bytes_of_sim HP.out)
  have YQ : Hid (Bytes8 q) := Lib.hid (bytes_of_sim HQ.out)
  have EP : Hid (lstM n p = lstR n p) := Lib.hid (lstM_of HP.out)
  have EQ : Hid (lstM n q = lstR n q) := Lib.hid (lstM_of HQ.out)
  go_enter Try.func75, Try.ntmps75
  have RA := Lib.hid (((Row8.place w .u8 p 59 w.heap.size rfl lp).alloc (.cells #[.int .u8 (at8 q 0), .int .u8 (at8 q 1), .int .u8 (at8 q 2), .int .u8 (at8 q 3), .int .u8 (at8 q 4), .int .u8 (at8 q 5), .int .u8 (at8 q 6), .int .u8 (at8 q 7)] 59)).alloc (.cells #[.int .u8 0, .int .u8 0, .int .u8 0, .int .u8 0, .int .u8 0, .int .u8 0, .int .u8 0, .int .u8 0] 59))
  have RB := Lib.hid ((Row8.place (w.alloc (.cells #[.int .u8 (at8 p 0), .int .u8 (at8 p 1), .int .u8 (at8 p 2), .int .u8 (at8 p 3), .int .u8 (at8 p 4), .int .u8 (at8 p 5), .int .u8 (at8 p 6), .int .u8 (at8 p 7)] 59)) .u8 q 59 (w.heap.size + 1) (by simp) lq).alloc (.cells #[.int .u8 0, .int .u8 0, .int .u8 0, .int .u8 0, .int .u8 0, .int .u8 0, .int .u8 0, .int .u8 0] 59))
  have RZ := Lib.hid (Row8.zeros ((w.alloc (.cells #[.int .u8 (at8 p 0), .int .u8 (at8 p 1), .int .u8 (at8 p 2), .int .u8 (at8 p 3), .int .u8 (at8 p 4), .int .u8 (at8 p 5), .int .u8 (at8 p 6), .int .u8 (at8 p 7)] 59)).alloc (.cells #[.int .u8 (at8 q 0), .int .u8 (at8 q 1), .int .u8 (at8 q 2), .int .u8 (at8 q 3), .int .u8 (at8 q 4), .int .u8 (at8 q 5), .int .u8 (at8 q 6), .int .u8 (at8 q 7)] 59)) .u8 59 (w.heap.size + 1 + 1) (by simp))
  have BB := Lib.hid (below3 w (.cells #[.int .u8 (at8 p 0), .int .u8 (at8 p 1), .int .u8 (at8 p 2), .int .u8 (at8 p 3), .int .u8 (at8 p 4), .int .u8 (at8 p 5), .int .u8 (at8 p 6), .int .u8 (at8 p 7)] 59) (.cells #[.int .u8 (at8 q 0), .int .u8 (at8 q 1), .int .u8 (at8 q 2), .int .u8 (at8 q 3), .int .u8 (at8 q 4), .int .u8 (at8 q 5), .int .u8 (at8 q 6), .int .u8 (at8 q 7)] 59) (.cells #[.int .u8 0, .int .u8 0, .int .u8 0, .int .u8 0, .int .u8 0, .int .u8 0, .int .u8 0, .int .u8 0] 59))
  clear lp lq
  obtain ⟨⟨qRA0, qRA1, qRA2, qRA3⟩, qRA4, qRA5, qRA6, qRA7⟩ := RA.out.all
  obtain ⟨⟨qRB0, qRB1, qRB2, qRB3⟩, qRB4, qRB5, qRB6, qRB7⟩ := RB.out.all
  go_wp2_with fail
  refine (l07Least_any n h1 h8 p HP.out.len YP.out _).mono ?_
  rintro e w2 ⟨rfl, hb⟩
  clear qRA0 qRA1 qRA2 qRA3 qRA4 qRA5 qRA6 qRA7 qRB0 qRB1 qRB2 qRB3 qRB4 qRB5 qRB6 qRB7
  replace RA := Lib.hid (RA.out.below hb)
  replace RB := Lib.hid (RB.out.below hb)
  replace RZ := Lib.hid (RZ.out.below hb)
  replace BB := Lib.hid (below_go BB.out hb BB.out.size)
  clear hb
  rw [EP.out]
  have RL := Lib.hid (Row8.place w2 .i64 (lstR n p) 57 w2.heap.size rfl (mapR_len _ _ h8))
  have zRL := RZ.out.lt
  replace RA := Lib.hid (RA.out.alloc (.cells #[.int .i64 (at8 (lstR n p) 0), .int .i64 (at8 (lstR n p) 1), .int .i64 (at8 (lstR n p) 2), .int .i64 (at8 (lstR n p) 3), .int .i64 (at8 (lstR n p) 4), .int .i64 (at8 (lstR n p) 5), .int .i64 (at8 (lstR n p) 6), .int .i64 (at8 (lstR n p) 7)] 57))
  replace RB := Lib.hid (RB.out.alloc (.cells #[.int .i64 (at8 (lstR n p) 0), .int .i64 (at8 (lstR n p) 1), .int .i64 (at8 (lstR n p) 2), .int .i64 (at8 (lstR n p) 3), .int .i64 (at8 (lstR n p) 4), .int .i64 (at8 (lstR n p) 5), .int .i64 (at8 (lstR n p) 6), .int .i64 (at8 (lstR n p) 7)] 57))
  replace RZ := Lib.hid (RZ.out.alloc (.cells #[.int .i64 (at8 (lstR n p) 0), .int .i64 (at8 (lstR n p) 1), .int .i64 (at8 (lstR n p) 2), .int .i64 (at8 (lstR n p) 3), .int .i64 (at8 (lstR n p) 4), .int .i64 (at8 (lstR n p) 5), .int .i64 (at8 (lstR n p) 6), .int .i64 (at8 (lstR n p) 7)] 57))
  replace BB := Lib.hid (BB.out.alloc BB.out.size (.cells #[.int .i64 (at8 (lstR n p) 0), .int .i64 (at8 (lstR n p) 1), .int .i64 (at8 (lstR n p) 2), .int .i64 (at8 (lstR n p) 3), .int .i64 (at8 (lstR n p) 4), .int .i64 (at8 (lstR n p) 5), .int .i64 (at8 (lstR n p) 6), .int .i64 (at8 (lstR n p) 7)] 57))
  obtain ⟨W1, hW1⟩ : ∃ W, W = w2.alloc (.cells #[.int .i64 (at8 (lstR n p) 0), .int .i64 (at8 (lstR n p) 1), .int .i64 (at8 (lstR n p) 2), .int .i64 (at8 (lstR n p) 3), .int .i64 (at8 (lstR n p) 4), .int .i64 (at8 (lstR n p) 5), .int .i64 (at8 (lstR n p) 6), .int .i64 (at8 (lstR n p) 7)] 57) := ⟨_, rfl⟩
  go_upto_region 2 with fail
  rw [← hW1] at RA RB RZ BB RL ⊢
  clear hW1
  obtain ⟨gl, hgl⟩ : ∃ g, g = w2.heap.size := ⟨_, rfl⟩
  rw [← hgl] at RL zRL ⊢
  clear hgl
  obtain ⟨⟨qRB0, qRB1, qRB2, qRB3⟩, qRB4, qRB5, qRB6, qRB7⟩ := RB.out.all
  go_wp2_with fail
  refine (l07Least_any n h1 h8 q HQ.out.len YQ.out _).mono ?_
  rintro e w4 ⟨rfl, hb⟩
  clear qRB0 qRB1 qRB2 qRB3 qRB4 qRB5 qRB6 qRB7
  replace RA := Lib.hid (RA.out.below hb)
  replace RB := Lib.hid (RB.out.below hb)
  replace RZ := Lib.hid (RZ.out.below hb)
  replace RL := Lib.hid (RL.out.below hb)
  replace BB := Lib.hid (below_go BB.out hb BB.out.size)
  clear hb
  rw [EQ.out]
  have zl := RL.out.lt
  have RM := Lib.hid (Row8.place w4 .i64 (lstR n q) 57 w4.heap.size rfl (mapR_len _ _ h8))
  replace RA := Lib.hid (RA.out.alloc (.cells #[.int .i64 (at8 (lstR n q) 0), .int .i64 (at8 (lstR n q) 1), .int .i64 (at8 (lstR n q) 2), .int .i64 (at8 (lstR n q) 3), .int .i64 (at8 (lstR n q) 4), .int .i64 (at8 (lstR n q) 5), .int .i64 (at8 (lstR n q) 6), .int .i64 (at8 (lstR n q) 7)] 57))
  replace RB := Lib.hid (RB.out.alloc (.cells #[.int .i64 (at8 (lstR n q) 0), .int .i64 (at8 (lstR n q) 1), .int .i64 (at8 (lstR n q) 2), .int .i64 (at8 (lstR n q) 3), .int .i64 (at8 (lstR n q) 4), .int .i64 (at8 (lstR n q) 5), .int .i64 (at8 (lstR n q) 6), .int .i64 (at8 (lstR n q) 7)] 57))
  replace RZ := Lib.hid (RZ.out.alloc (.cells #[.int .i64 (at8 (lstR n q) 0), .int .i64 (at8 (lstR n q) 1), .int .i64 (at8 (lstR n q) 2), .int .i64 (at8 (lstR n q) 3), .int .i64 (at8 (lstR n q) 4), .int .i64 (at8 (lstR n q) 5), .int .i64 (at8 (lstR n q) 6), .int .i64 (at8 (lstR n q) 7)] 57))
  replace RL := Lib.hid (RL.out.alloc (.cells #[.int .i64 (at8 (lstR n q) 0), .int .i64 (at8 (lstR n q) 1), .int .i64 (at8 (lstR n q) 2), .int .i64 (at8 (lstR n q) 3), .int .i64 (at8 (lstR n q) 4), .int .i64 (at8 (lstR n q) 5), .int .i64 (at8 (lstR n q) 6), .int .i64 (at8 (lstR n q) 7)] 57))
  replace BB := Lib.hid (BB.out.alloc BB.out.size (.cells #[.int .i64 (at8 (lstR n q) 0), .int .i64 (at8 (lstR n q) 1), .int .i64 (at8 (lstR n q) 2), .int .i64 (at8 (lstR n q) 3), .int .i64 (at8 (lstR n q) 4), .int .i64 (at8 (lstR n q) 5), .int .i64 (at8 (lstR n q) 6), .int .i64 (at8 (lstR n q) 7)] 57))
  obtain ⟨W2, hW2⟩ : ∃ W, W = w4.alloc (.cells #[.int .i64 (at8 (lstR n q) 0), .int .i64 (at8 (lstR n q) 1), .int .i64 (at8 (lstR n q) 2), .int .i64 (at8 (lstR n q) 3), .int .i64 (at8 (lstR n q) 4), .int .i64 (at8 (lstR n q) 5), .int .i64 (at8 (lstR n q) 6), .int .i64 (at8 (lstR n q) 7)] 57) := ⟨_, rfl⟩
  go_upto_region 3 with fail
  rw [← hW2] at RA RB RZ BB RL RM ⊢
  clear hW2
  obtain ⟨gm, hgm⟩ : ∃ g, g = w4.heap.size := ⟨_, rfl⟩
  rw [← hgm] at RM zl ⊢
  clear hgm
  have zm := RM.out.lt
  have RO := Lib.hid (Row8.zeros W2 .i64 57 W2.heap.size rfl)
  replace RA := Lib.hid (RA.out.alloc (.cells #[.int .i64 0, .int .i64 0, .int .i64 0, .int .i64 0, .int .i64 0, .int .i64 0, .int .i64 0, .int .i64 0] 57))
  replace RB := Lib.hid (RB.out.alloc (.cells #[.int .i64 0, .int .i64 0, .int .i64 0, .int .i64 0, .int .i64 0, .int .i64 0, .int .i64 0, .int .i64 0] 57))
  replace RZ := Lib.hid (RZ.out.alloc (.cells #[.int .i64 0, .int .i64 0, .int .i64 0, .int .i64 0, .int .i64 0, .int .i64 0, .int .i64 0, .int .i64 0] 57))
  replace RL := Lib.hid (RL.out.alloc (.cells #[.int .i64 0, .int .i64 0, .int .i64 0, .int .i64 0, .int .i64 0, .int .i64 0, .int .i64 0, .int .i64 0] 57))
  replace RM := Lib.hid (RM.out.alloc (.cells #[.int .i64 0, .int .i64 0, .int .i64 0, .int .i64 0, .int .i64 0, .int .i64 0, .int .i64 0, .int .i64 0] 57))
  replace BB := Lib.hid (BB.out.alloc BB.out.size (.cells #[.int .i64 0, .int .i64 0, .int .i64 0, .int .i64 0, .int .i64 0, .int .i64 0, .int .i64 0, .int .i64 0] 57))
  obtain ⟨W3, hW3⟩ : ∃ W, W = W2.alloc (.cells #[.int .i64 0, .int .i64 0, .int .i64 0, .int .i64 0, .int .i64 0, .int .i64 0, .int .i64 0, .int .i64 0] 57) := ⟨_, rfl⟩
  go_wp2
  rw [← hW3] at RA RB RZ BB RL RM RO ⊢
  clear hW3
  obtain ⟨go, hgo⟩ : ∃ g, g = W2.heap.size := ⟨_, rfl⟩
  rw [← hgo] at RO zm ⊢
  clear hgo RA RB
  have HA : Hid (∀ j, j < n → at8 (lstR n p) j = (lstN n p j : Nat)) := Lib.hid (fun j hj => by unfold lstR; rw [at8_mapR, if_pos hj])
  have HB : Hid (∀ j, j < n → at8 (lstR n q) j = (lstN n q j : Nat)) := Lib.hid (fun j hj => by unfold lstR; rw [at8_mapR, if_pos hj])
  go_loopw [12] (fun i wr => ∃ x : Nat, x ≤ n ∧ i = .int .i64 ((x : Int) - 1) ∧ Row8 wr (w.heap.size + 1 + 1) .u8 [0, 0, 0, 0, 0, 0, 0, 0] ∧ Row8 wr gl .i64 (lstR n p) ∧ Row8 wr gm .i64 (lstR n q) ∧ Row8 wr go .i64 (topR n (mtN n (lstN n p) (lstN n q)) x) ∧ Below w.heap.size w wr) (fun i _ => (intOf i + 1).toNat)
  case atStart => exact ⟨n, Nat.le_refl _, rfl, RZ.out, RL.out, RM.out, by rw [(topR_start n _).resolve_right (by omega)]; exact RO.out, BB.out⟩
  case round =>
    obtain ⟨x1, hx, rfl, hRZ, hRL, hRM, hRO, hBB⟩ := hrel
    clear RZ RL RM RO BB
    have RZ := Lib.hid hRZ
    have RL := Lib.hid hRL
    have RM := Lib.hid hRM
    have RO := Lib.hid hRO
    have BB := Lib.hid hBB
    clear hRZ hRL hRM hRO hBB
    by_cases hlt : 1 ≤ x1
    · obtain ⟨x, rfl⟩ : ∃ x, x1 = x + 1 := ⟨x1 - 1, by omega⟩
      have ex : ((x + 1 : Nat) : Int) - 1 = x := by omega
      rw [ex]
      have EX := Lib.hid ex
      clear ex
      go_wp2
      go_loopw [13] (fun i wr => ∃ y : Nat, y ≤ 8 ∧ i = .int .i64 ((y : Int) - 1) ∧ Row8 wr (w.heap.size + 1 + 1) .u8 [0, 0, 0, 0, 0, 0, 0, 0] ∧ Row8 wr gl .i64 (lstR n p) ∧ Row8 wr gm .i64 (lstR n q) ∧ Row8 wr go .i64 ((topR n (mtN n (lstN n p) (lstN n q)) (x + 1)).set x ((lwN (bothB n (lstN n p) (lstN n q) x) (8 - y) y : Nat) : Int)) ∧ Below w.heap.size w wr) (fun i _ => (intOf i + 1).toNat)
      case atStart => exact ⟨8, Nat.le_refl _, rfl, RZ.out, RL.out, RM.out, by rw [topR_zero n h8 _ x (by omega)]; exact RO.out, BB.out⟩
      case round =>
        obtain ⟨y1, hy, rfl, hRZ, hRL, hRM, hRO, hBB⟩ := hrel
        clear RZ RL RM RO BB
        have RZ := Lib.hid hRZ
        have RL := Lib.hid hRL
        have RM := Lib.hid hRM
        have RO := Lib.hid hRO
        have BB := Lib.hid hBB
        clear hRZ hRL hRM hRO hBB
        by_cases hly : 1 ≤ y1
        · obtain ⟨y, rfl⟩ : ∃ y, y1 = y + 1 := ⟨y1 - 1, by omega⟩
          have ey : ((y + 1 : Nat) : Int) - 1 = y := by omega
          rw [ey]
          have EY := Lib.hid ey
          clear ey
          have HST : Hid (lwN (bothB n (lstN n p) (lstN n q) x) (8 - y) y = if bothB n (lstN n p) (lstN n q) x y = true then y else lwN (bothB n (lstN n p) (lstN n q) x) (8 - (y + 1)) (y + 1)) := Lib.hid (by rw [show 8 - y = 8 - (y + 1) + 1 by omega]; rfl)
          by_cases hyn : y < n
          · skip
            have c1 := RL.out.cell x (by omega)
            have c2 := RL.out.cell y (by omega)
            have c3 := RM.out.cell x (by omega)
            have c4 := RM.out.cell y (by omega)
            rw [HA.out x (by omega)] at c1
            rw [HA.out y hyn] at c2
            rw [HB.out x (by omega)] at c3
            rw [HB.out y hyn] at c4
            obtain ⟨ax, hax⟩ : ∃ a, a = lstN n p x := ⟨_, rfl⟩
            obtain ⟨ay, hay⟩ : ∃ a, a = lstN n p y := ⟨_, rfl⟩
            obtain ⟨bx, hbx⟩ : ∃ a, a = lstN n q x := ⟨_, rfl⟩
            obtain ⟨bY, hby⟩ : ∃ a, a = lstN n q y := ⟨_, rfl⟩
            rw [← hax] at c1
            rw [← hay] at c2
            rw [← hbx] at c3
            rw [← hby] at c4
            have HAX := Lib.hid hax
            have HAY := Lib.hid hay
            have HBX := Lib.hid hbx
            have HBY := Lib.hid hby
            clear hax hay hbx hby
            by_cases e1 : ay = ax
            · have t1 : ((ay : Int) == (ax : Int)) = true := by simp [e1]
              by_cases e2 : bY = bx
              · have t2 : ((bY : Int) == (bx : Int)) = true := by simp [e2]
                have HYB : Hid (bothB n (lstN n p) (lstN n q) x y = true) := Lib.hid ((bothB_iff _ _ _ _ _).2 ⟨hyn, by rw [← HAX.out, ← HAY.out, e1], by rw [← HBX.out, ← HBY.out, e2]⟩)
                clear e1 e2
                go_wp2
                go_quiet (fail)
                have hb := below_draws wr.heap.size wr nq
                have RO2 := Lib.hid (RO.out.below hb)
                have RZ2 := Lib.hid (RZ.out.below hb)
                have RL2 := Lib.hid (RL.out.below hb)
                have RM2 := Lib.hid (RM.out.below hb)
                have BB2 := Lib.hid (below_go BB.out hb BB.out.size)
                clear hb c1 c2 c3 c4
                have c5 := RO2.out.cell x (by omega)
                have f5 := RO2.out.free x (by omega)
                have z5 := RO2.out.lt
                go_wp2
                go_roundw
                case rel =>
                  refine ⟨y, by omega, by go_num, RZ2.out.setCell (by first | (simp; done) | (simp; omega)) _, RL2.out.setCell (by first | (simp; done) | (simp; omega)) _, RM2.out.setCell (by first | (simp; done) | (simp; omega)) _, ?_, BB2.out.setCell (by first | (simp; done) | (simp; omega)) _⟩
                  rw [HST.out, if_pos HYB.out]
                  have := RO2.out.store x (by omega) y
                  rwa [List.set_set] at this
                case measure => first | (simp [intOf]; done) | (simp [intOf]; omega)
              · have t2 : ((bY : Int) == (bx : Int)) = false := by rw [beq_eq_false_iff_ne]; omega
                have HNB : Hid (bothB n (lstN n p) (lstN n q) x y = false) := Lib.hid (by rw [← Bool.not_eq_true, bothB_iff]; exact fun h => e2 (by rw [HBX.out, HBY.out]; exact h.2.2))
                clear e1 e2
                go_wp2
                go_quiet (fail)
                go_wp2
                go_roundw
                case rel =>
                  have hb := below_draws wr.heap.size wr nq
                  exact ⟨y, by omega, by go_num, RZ.out.below hb, RL.out.below hb, RM.out.below hb, by rw [HST.out, if_neg (by rw [HNB.out]; simp)]; exact RO.out.below hb, below_go BB.out hb BB.out.size⟩
                case measure => first | (simp [intOf]; done) | (simp [intOf]; omega)
            · have t1 : ((ay : Int) == (ax : Int)) = false := by rw [beq_eq_false_iff_ne]; omega
              have HNB : Hid (bothB n (lstN n p) (lstN n q) x y = false) := Lib.hid (by rw [← Bool.not_eq_true, bothB_iff]; exact fun h => e1 (by rw [HAX.out, HAY.out]; exact h.2.1))
              clear e1
              go_wp2
              go_quiet (fail)
              go_wp2
              go_roundw
              case rel =>
                have hb := below_draws wr.heap.size wr nq
                exact ⟨y, by omega, by go_num, RZ.out.below hb, RL.out.below hb, RM.out.below hb, by rw [HST.out, if_neg (by rw [HNB.out]; simp)]; exact RO.out.below hb, below_go BB.out hb BB.out.size⟩
              case measure => first | (simp [intOf]; done) | (simp [intOf]; omega)
          · have HNB : Hid (bothB n (lstN n p) (lstN n q) x y = false) := Lib.hid (by rw [← Bool.not_eq_true, bothB_iff]; exact fun h => hyn h.1)
            go_wp2
            go_quiet (fail)
            go_wp2
            go_roundw
            case rel =>
              have hb := below_draws wr.heap.size wr nq
              exact ⟨y, by omega, by go_num, RZ.out.below hb, RL.out.below hb, RM.out.below hb, by rw [HST.out, if_neg (by rw [HNB.out]; simp)]; exact RO.out.below hb, below_go BB.out hb BB.out.size⟩
            case measure => first | (simp [intOf]; done) | (simp [intOf]; omega)
        · have hy0 : y1 = 0 := by omega
          subst hy0
          go_wp2
          go_roundw
          case rel => exact ⟨x, by omega, by go_num, RZ.out, RL.out, RM.out, by rw [topR_step n h8 _ x (by omega)]; exact RO.out, BB.out⟩
          case measure => first | (simp [intOf]; done) | (simp [intOf]; omega)
    · have hx0 : x1 = 0 := by omega
      subst hx0
      have ROE : Hid (Row8 wr go .i64 (mtR n p q)) := Lib.hid (by rw [← topR_end n]; exact RO.out)
      clear RO
      have HMB : Hid (∀ j, j < n → 0 ≤ at8 (mtR n p q) j ∧ at8 (mtR n p q) j < 8) := Lib.hid (fun j hj => by
        unfold mtR
        rw [at8_mapR, if_pos hj]
        have := (mtN_is n (lstN n p) (lstN n q) j hj h8).1
        omega)
      obtain ⟨⟨qROE0, qROE1, qROE2, qROE3⟩, qROE4, qROE5, qROE6, qROE7⟩ := ROE.out.all
      go_wp2_with fail
      refine (l07Made_any n h8 (mtR n p q) ROE.out.len HMB.out _).mono ?_
      rintro e w6 ⟨rfl, hb⟩
      clear qROE0 qROE1 qROE2 qROE3 qROE4 qROE5 qROE6 qROE7
      replace RZ := Lib.hid (RZ.out.below hb)
      replace ROE := Lib.hid (ROE.out.below hb)
      replace BB := Lib.hid (below_go BB.out hb BB.out.size)
      clear hb
      obtain ⟨⟨d0, d1, d2, d3⟩, d4, d5, d6, d7⟩ := RZ.out.all
      obtain ⟨⟨f0, f1, f2, f3⟩, f4, f5, f6, f7⟩ := RZ.out.frees
      have zq := RZ.out.lt
      go_wp2
      obtain ⟨⟨e0, e1, e2, e3⟩, e4, e5, e6, e7⟩ := (RZ.out.fill (madeR n (mtR n p q)) (mapR_len _ _ h8)).all
      refine bodyPost_ret (v := arr8 .u8 (madeR n (mtR n p q))) (by simp [results, Try.results75, go_sem, e0, e1, e2, e3, e4, e5, e6, e7]) rfl ⟨rfl, ?_⟩
      exact below_fill8 BB.out _ (by omega) _ _ _ _ _ _ _ _

end Go.Proofs.Ytlgipimjhfmilaa
