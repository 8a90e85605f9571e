/- The model: the least numbers of the blocks of a row. -/
import Derived.Test.YthelncibpoijoaaSIs
import Derived.Test.YthelncibpoijoaaQA
import Derived.Test.YthelncibpoijoaaQB
import Derived.Deep.LoopGhost
namespace Go.Proofs.Ythelncibpoijoaa
open Go.RowKit Go.ChangeShapes

theorem Bool8.alloc {w : World} {g : Nat} {f : Nat → Bool} (h : Bool8 w g f) (o : Obj) : Bool8 (w.alloc o) g f :=
  have b := (Below.refl w.heap.size w).alloc (Nat.le_refl _) o
  ⟨Nat.lt_of_lt_of_le h.lt b.size, fun j hj => (World.cell?_of_block (w := w) (a := ⟨g, j, none⟩) (b.block g h.lt)).trans (h.cell j hj), fun j hj => (World.frozen?_of_block (w := w) (a := ⟨g, j, none⟩) (b.block g h.lt)).trans (h.free j hj)⟩

theorem Bool8.setCell {w : World} {g : Nat} {f : Nat → Bool} (h : Bool8 w g f) {p : Addr} (hp : p.block ≠ g) (x : Value) : Bool8 (w.setCell p x) g f :=
  have b : (w.setCell p x).heap[g]? = w.heap[g]? := Below.heap_setCell _ _ _ _ (fun e => hp e.symm)
  ⟨by simpa [World.setCell] using h.lt, fun j hj => (World.cell?_of_block (w := w) (a := ⟨g, j, none⟩) b).trans (h.cell j hj), fun j hj => (World.frozen?_of_block (w := w) (a := ⟨g, j, none⟩) b).trans (h.free j hj)⟩

set_option maxRecDepth 100000 in
set_option maxHeartbeats 4000000 in
theorem l07Least_any (n : Nat) (h1 : 1 ≤ n) (h8 : n ≤ 8) (s : List Int) (ls : s.length = 8) (hb : Bytes8 s) (w : World) :
    Calls Try.prog 76 #[arr8 .u8 s, .int .i64 n] w fun e w' => e = .returned (.tuple #[arr8 .i64 (lstM n s), .bool (simB n s)]) ∧ Below w.heap.size w w' := by
  have HB := Lib.hid hb
  clear hb
  go_enter Try.func76, Try.ntmps76
  have RA := Lib.hid ((((Row8.place w .u8 s 24 w.heap.size rfl ls).alloc (.cells #[.int .i64 0, .int .i64 0, .int .i64 0, .int .i64 0, .int .i64 0, .int .i64 0, .int .i64 0, .int .i64 0] 67)).alloc (.cells #[.int .i64 0, .int .i64 0, .int .i64 0, .int .i64 0, .int .i64 0, .int .i64 0, .int .i64 0, .int .i64 0] 67)).alloc (.cells #[.bool false, .bool false, .bool false, .bool false, .bool false, .bool false, .bool false, .bool false] 68))
  have RZ := Lib.hid (((Row8.zeros (w.alloc (.cells #[.int .u8 (at8 s 0), .int .u8 (at8 s 1), .int .u8 (at8 s 2), .int .u8 (at8 s 3), .int .u8 (at8 s 4), .int .u8 (at8 s 5), .int .u8 (at8 s 6), .int .u8 (at8 s 7)] 24)) .i64 67 (w.heap.size + 1) (by simp)).alloc (.cells #[.int .i64 0, .int .i64 0, .int .i64 0, .int .i64 0, .int .i64 0, .int .i64 0, .int .i64 0, .int .i64 0] 67)).alloc (.cells #[.bool false, .bool false, .bool false, .bool false, .bool false, .bool false, .bool false, .bool false] 68))
  have RO := Lib.hid ((Row8.zeros ((w.alloc (.cells #[.int .u8 (at8 s 0), .int .u8 (at8 s 1), .int .u8 (at8 s 2), .int .u8 (at8 s 3), .int .u8 (at8 s 4), .int .u8 (at8 s 5), .int .u8 (at8 s 6), .int .u8 (at8 s 7)] 24)).alloc (.cells #[.int .i64 0, .int .i64 0, .int .i64 0, .int .i64 0, .int .i64 0, .int .i64 0, .int .i64 0, .int .i64 0] 67)) .i64 67 (w.heap.size + 1 + 1) (by simp)).alloc (.cells #[.bool false, .bool false, .bool false, .bool false, .bool false, .bool false, .bool false, .bool false] 68))
  have RM := Lib.hid (Bool8.place (((w.alloc (.cells #[.int .u8 (at8 s 0), .int .u8 (at8 s 1), .int .u8 (at8 s 2), .int .u8 (at8 s 3), .int .u8 (at8 s 4), .int .u8 (at8 s 5), .int .u8 (at8 s 6), .int .u8 (at8 s 7)] 24)).alloc (.cells #[.int .i64 0, .int .i64 0, .int .i64 0, .int .i64 0, .int .i64 0, .int .i64 0, .int .i64 0, .int .i64 0] 67)).alloc (.cells #[.int .i64 0, .int .i64 0, .int .i64 0, .int .i64 0, .int .i64 0, .int .i64 0, .int .i64 0, .int .i64 0] 67)) 68 (w.heap.size + 1 + 1 + 1) (by simp))
  have BB := Lib.hid (below4 w (.cells #[.int .u8 (at8 s 0), .int .u8 (at8 s 1), .int .u8 (at8 s 2), .int .u8 (at8 s 3), .int .u8 (at8 s 4), .int .u8 (at8 s 5), .int .u8 (at8 s 6), .int .u8 (at8 s 7)] 24) (.cells #[.int .i64 0, .int .i64 0, .int .i64 0, .int .i64 0, .int .i64 0, .int .i64 0, .int .i64 0, .int .i64 0] 67) (.cells #[.int .i64 0, .int .i64 0, .int .i64 0, .int .i64 0, .int .i64 0, .int .i64 0, .int .i64 0, .int .i64 0] 67) (.cells #[.bool false, .bool false, .bool false, .bool false, .bool false, .bool false, .bool false, .bool false] 68))
  have LS := Lib.hid ls
  clear ls
  obtain ⟨W, hW⟩ : ∃ W, W = ((((w.alloc (.cells #[.int .u8 (at8 s 0), .int .u8 (at8 s 1), .int .u8 (at8 s 2), .int .u8 (at8 s 3), .int .u8 (at8 s 4), .int .u8 (at8 s 5), .int .u8 (at8 s 6), .int .u8 (at8 s 7)] 24)).alloc (.cells #[.int .i64 0, .int .i64 0, .int .i64 0, .int .i64 0, .int .i64 0, .int .i64 0, .int .i64 0, .int .i64 0] 67)).alloc (.cells #[.int .i64 0, .int .i64 0, .int .i64 0, .int .i64 0, .int .i64 0, .int .i64 0, .int .i64 0, .int .i64 0] 67)).alloc (.cells #[.bool false, .bool false, .bool false, .bool false, .bool false, .bool false, .bool false, .bool false] 68)) := ⟨_, rfl⟩
  go_wp2
  rw [← hW] at RA RZ RO RM BB ⊢
  clear hW
  have HNO0 : Hid (simB n s = false → lstM n s = zeros8) := Lib.hid (fun h => by unfold lstM; rw [h]; rfl)
  go_loopw [8] (fun i wr => ∃ k : Nat, k ≤ 8 ∧ i = .int .i64 k ∧ (∀ j, j < k → (j < n → at8 s j < n ∧ ∀ i, i < j → at8 s i ≠ at8 s j) ∧ (n ≤ j → at8 s j = 0)) ∧ Row8 wr w.heap.size .u8 s ∧ Row8 wr (w.heap.size + 1) .i64 [0, 0, 0, 0, 0, 0, 0, 0] ∧ Row8 wr (w.heap.size + 1 + 1) .i64 [0, 0, 0, 0, 0, 0, 0, 0] ∧ Bool8 wr (w.heap.size + 1 + 1 + 1) (metB s (min k n)) ∧ Below w.heap.size w wr) (fun i _ => 8 - (intOf i).toNat)
  case atStart => exact ⟨0, Nat.zero_le _, rfl, fun j hj => absurd hj (Nat.not_lt_zero _), RA.out, RZ.out, RO.out, RM.out.congr fun j _ => by simp [metB], BB.out⟩
  case round =>
    obtain ⟨k, hk, rfl, hok, hRA, hRZ, hRO, hRM, hBB⟩ := hrel
    have HOK := Lib.hid hok; clear hok
    clear RA RZ RO RM BB
    have RA := Lib.hid hRA
    have RZ := Lib.hid hRZ
    have RO := Lib.hid hRO
    have RM := Lib.hid hRM
    have BB := Lib.hid hBB
    clear hRA hRZ hRO hRM hBB
    have z1 := RM.out.lt
    by_cases hlt : k < 8
    · have c1 := RA.out.cell k (by omega)
      obtain ⟨y1, y2⟩ := HB.out k
      obtain ⟨v, hv⟩ : ∃ v : Nat, at8 s k = (v : Int) := ⟨(at8 s k).toNat, by omega⟩
      rw [hv] at c1 y1 y2
      have HV := Lib.hid hv
      clear hv
      by_cases hkn : n ≤ k
      · by_cases hz : v = 0
        · have t1 : ((v : Int) != 0) = false := by simp [hz]
          have HZ := Lib.hid hz
          clear hz
          go_wp2
          go_roundw
          case rel =>
            refine ⟨k + 1, by omega, by go_num, fun j hj => ?_, RA.out, RZ.out, RO.out, RM.out.congr fun j _ => by rw [show min (k + 1) n = min k n by omega], BB.out⟩
            by_cases e : j = k
            · subst e
              exact ⟨fun h => by omega, fun _ => by rw [HV.out, HZ.out]; rfl⟩
            · exact HOK.out j (by omega)
          case measure => simp [intOf]; omega
        · have t1 : ((v : Int) != 0) = true := by rw [bne_iff_ne]; omega
          have HNO : Hid (simB n s = false) := Lib.hid (by
            rw [← Bool.not_eq_true, simB_iff _ _ LS.out]
            rintro ⟨m, hm, h⟩
            have : m = n := by omega
            subst this
            have := h.tail k hkn
            rw [HV.out] at this
            omega)
          obtain ⟨⟨c0, c1, c2, c3⟩, c4, c5, c6, c7⟩ := RO.out.all
          obtain ⟨⟨d0, d1, d2, d3⟩, d4, d5, d6, d7⟩ := RZ.out.all
          obtain ⟨⟨f0, f1, f2, f3⟩, f4, f5, f6, f7⟩ := RZ.out.frees
          have zq := RZ.out.lt
          go_wp2
          obtain ⟨⟨e0, e1, e2, e3⟩, e4, e5, e6, e7⟩ := (RZ.out.fill [0, 0, 0, 0, 0, 0, 0, 0] rfl).all
          refine bodyPost_ret (v := .tuple #[arr8 .i64 [0, 0, 0, 0, 0, 0, 0, 0], .bool false]) (by simp [results, Try.results76, go_sem, e0, e1, e2, e3, e4, e5, e6, e7]) rfl ⟨by rw [HNO0.out HNO.out, HNO.out]; rfl, ?_⟩
          exact below_fill8 BB.out _ (by omega) _ _ _ _ _ _ _ _
      · by_cases hbig : n ≤ v
        · have HNO : Hid (simB n s = false) := Lib.hid (by
            rw [← Bool.not_eq_true, simB_iff _ _ LS.out]
            rintro ⟨m, hm, h⟩
            have : m = n := by omega
            subst this
            have := h.bd k (by omega)
            rw [HV.out] at this
            omega)
          obtain ⟨⟨c0, c1, c2, c3⟩, c4, c5, c6, c7⟩ := RO.out.all
          obtain ⟨⟨d0, d1, d2, d3⟩, d4, d5, d6, d7⟩ := RZ.out.all
          obtain ⟨⟨f0, f1, f2, f3⟩, f4, f5, f6, f7⟩ := RZ.out.frees
          have zq := RZ.out.lt
          go_wp2
          obtain ⟨⟨e0, e1, e2, e3⟩, e4, e5, e6, e7⟩ := (RZ.out.fill [0, 0, 0, 0, 0, 0, 0, 0] rfl).all
          refine bodyPost_ret (v := .tuple #[arr8 .i64 [0, 0, 0, 0, 0, 0, 0, 0], .bool false]) (by simp [results, Try.results76, go_sem, e0, e1, e2, e3, e4, e5, e6, e7]) rfl ⟨by rw [HNO0.out HNO.out, HNO.out]; rfl, ?_⟩
          exact below_fill8 BB.out _ (by omega) _ _ _ _ _ _ _ _
        · have c2 := RM.out.cell v (by omega)
          have f2 := RM.out.free v (by omega)
          by_cases hm : metB s (min k n) v = true
          · have HNO : Hid (simB n s = false) := Lib.hid (by
              obtain ⟨x, hx, ex⟩ := (metB_iff _ _ _).1 hm
              rw [← Bool.not_eq_true, simB_iff _ _ LS.out]
              rintro ⟨m, hm, h⟩
              have : m = n := by omega
              subst this
              have := h.inj x k (by omega) (by omega) (by rw [ex, HV.out])
              omega)
            rw [hm] at c2
            clear hm
            obtain ⟨⟨c0, c1, c2, c3⟩, c4, c5, c6, c7⟩ := RO.out.all
            obtain ⟨⟨d0, d1, d2, d3⟩, d4, d5, d6, d7⟩ := RZ.out.all
            obtain ⟨⟨f0, f1, f2, f3⟩, f4, f5, f6, f7⟩ := RZ.out.frees
            have zq := RZ.out.lt
            go_wp2
            obtain ⟨⟨e0, e1, e2, e3⟩, e4, e5, e6, e7⟩ := (RZ.out.fill [0, 0, 0, 0, 0, 0, 0, 0] rfl).all
            refine bodyPost_ret (v := .tuple #[arr8 .i64 [0, 0, 0, 0, 0, 0, 0, 0], .bool false]) (by simp [results, Try.results76, go_sem, e0, e1, e2, e3, e4, e5, e6, e7]) rfl ⟨by rw [HNO0.out HNO.out, HNO.out]; rfl, ?_⟩
            exact below_fill8 BB.out _ (by omega) _ _ _ _ _ _ _ _
          · have hm0 : metB s (min k n) v = false := by simpa using hm
            clear hm
            rw [hm0] at c2
            have HM := Lib.hid hm0
            clear hm0
            go_wp2
            go_roundw
            case rel =>
              refine ⟨k + 1, by omega, by go_num, fun j hj => ?_, RA.out.setCell (by first | (simp; done) | (simp; omega)) _, RZ.out.setCell (by first | (simp; done) | (simp; omega)) _, RO.out.setCell (by first | (simp; done) | (simp; omega)) _, ?_, BB.out.setCell (by first | (simp; done) | (simp; omega)) _⟩
              · by_cases e : j = k
                · subst e
                  refine ⟨fun _ => ⟨by rw [HV.out]; omega, fun i hi e => ?_⟩, fun h => by omega⟩
                  have := HM.out
                  rw [← Bool.not_eq_true, metB_iff] at this
                  exact this ⟨i, by omega, by rw [e, HV.out]⟩
                · exact HOK.out j (by omega)
              · refine (RM.out.store v (by omega) true).congr fun j _ => ?_
                rw [show min (k + 1) n = k + 1 by omega, show min k n = k by omega, metB_step s k j v HV.out]
            case measure => simp [intOf]; omega
    · have hk8 : k = 8 := by omega
      subst hk8
      have SS : Hid (Sim n s) := Lib.hid ⟨h1, h8, LS.out, fun j hj => ⟨(HB.out j).1, ((HOK.out j (by omega)).1 hj).1⟩, fun i j hi hj e => by
        rcases Nat.lt_trichotomy i j with h3 | h3 | h3
        · exact absurd e (((HOK.out j (by omega)).1 hj).2 i h3)
        · exact h3
        · exact absurd e.symm (((HOK.out i (by omega)).1 hi).2 j h3), fun j hj => by
        by_cases e : j < 8
        · exact (HOK.out j e).2 hj
        · exact at8_over LS.out j (by omega)⟩
      have HYES : Hid (simB n s = true) := Lib.hid ((simB_iff _ _ LS.out).2 ⟨n, rfl, SS.out⟩)
      have HLM : Hid (lstM n s = lstR n s) := Lib.hid (by unfold lstM; rw [if_pos HYES.out, Int.toNat_natCast])
      clear HNO0 HOK RM
      have RD := Lib.hid (Bool8.place wr 68 wr.heap.size rfl)
      replace RA := Lib.hid (RA.out.alloc (.cells #[.bool false, .bool false, .bool false, .bool false, .bool false, .bool false, .bool false, .bool false] 68))
      replace RZ := Lib.hid (RZ.out.alloc (.cells #[.bool false, .bool false, .bool false, .bool false, .bool false, .bool false, .bool false, .bool false] 68))
      replace RO := Lib.hid (RO.out.alloc (.cells #[.bool false, .bool false, .bool false, .bool false, .bool false, .bool false, .bool false, .bool false] 68))
      replace BB := Lib.hid (BB.out.alloc BB.out.size (.cells #[.bool false, .bool false, .bool false, .bool false, .bool false, .bool false, .bool false, .bool false] 68))
      obtain ⟨W2, hW2⟩ : ∃ W2, W2 = wr.alloc (.cells #[.bool false, .bool false, .bool false, .bool false, .bool false, .bool false, .bool false, .bool false] 68) := ⟨_, rfl⟩
      go_wp2
      rw [← hW2] at RA RZ RO RD BB ⊢
      clear hW2
      obtain ⟨gd, hgd⟩ : ∃ gd, gd = wr.heap.size := ⟨_, rfl⟩
      rw [← hgd] at RD z1 ⊢
      clear hgd
      go_loopw [10] (fun i wr => ∃ x : Nat, x ≤ n ∧ i = .int .i64 x ∧ Row8 wr w.heap.size .u8 s ∧ Row8 wr (w.heap.size + 1) .i64 [0, 0, 0, 0, 0, 0, 0, 0] ∧ Row8 wr (w.heap.size + 1 + 1) .i64 (outP n s x 0) ∧ Bool8 wr gd (metP n s x 0) ∧ Below w.heap.size w wr) (fun i _ => n - (intOf i).toNat)
      case atStart => exact ⟨0, Nat.zero_le _, rfl, RA.out, RZ.out, by rw [outP_start n h8]; exact RO.out, RD.out.congr fun j _ => (metP_start n s j).symm, BB.out⟩
      case round =>
        obtain ⟨x, hx, rfl, hRA, hRZ, hRO, hRD, hBB⟩ := hrel
        clear RA RZ RO RD BB
        have RA := Lib.hid hRA
        have RZ := Lib.hid hRZ
        have RO := Lib.hid hRO
        have RD := Lib.hid hRD
        have BB := Lib.hid hBB
        clear hRA hRZ hRO hRD hBB
        by_cases hlt : x < n
        · go_wp2
          go_loopg [11] (n + 1) (fun g y wr => ∃ j : Nat, g + j = n + 1 ∧ y = .int .i64 (itN (nx s) j x : Nat) ∧ Way n s x j ∧ Row8 wr w.heap.size .u8 s ∧ Row8 wr (w.heap.size + 1) .i64 [0, 0, 0, 0, 0, 0, 0, 0] ∧ Row8 wr (w.heap.size + 1 + 1) .i64 (outP n s x j) ∧ Bool8 wr gd (metP n s x j) ∧ Below w.heap.size w wr)
          case atStart => exact ⟨0, by omega, rfl, Way.start x hlt, RA.out, RZ.out, RO.out, RD.out, BB.out⟩
          case round =>
            obtain ⟨j, hgj, rfl, hway, hRA, hRZ, hRO, hRD, hBB⟩ := hrel
            clear RA RZ RO RD BB
            have RA := Lib.hid hRA
            have RZ := Lib.hid hRZ
            have RO := Lib.hid hRO
            have RD := Lib.hid hRD
            have BB := Lib.hid hBB
            clear hRA hRZ hRO hRD hBB
            have hin := hway.here SS.out
            obtain ⟨v, hv⟩ : ∃ v, v = itN (nx s) j x := ⟨_, rfl⟩
            have c1 := RD.out.cell v (by omega)
            have f1 := RD.out.free v (by omega)
            have c2 := RO.out.cell v (by omega)
            have f2 := RO.out.free v (by omega)
            have c3 := RA.out.cell v (by omega)
            have z3 := RD.out.lt
            have z4 := RO.out.lt
            rw [SS.out.nx v] at c3
            have hv2 : v < 8 := by omega
            have hn2 := SS.out.prm.bd v (by omega)
            have hn3 : nx s v < 8 := by omega
            obtain ⟨u, hu⟩ : ∃ u, u = nx s v := ⟨_, rfl⟩
            rw [← hu] at c3 hn2 hn3
            rw [← hv] at hin ⊢
            have HV := Lib.hid hv
            have HU := Lib.hid hu
            have HW := Lib.hid hway
            clear hv hu hway
            have hne : gd ≠ w.heap.size + 1 + 1 := by omega
            by_cases hm : metP n s x j v = true
            · have HN := Lib.hid (HW.out.next SS.out (by rw [← HV.out]; exact hm))
              rw [hm] at c1
              clear hm
              go_wp2
              go_roundw
              case rel => exact ⟨x + 1, by omega, by go_num, RA.out, RZ.out, by rw [← HN.out.2]; exact RO.out, RD.out.congr HN.out.1, BB.out⟩
              case measure => simp [intOf]; omega
            · have hm0 : metP n s x j v = false := by simpa using hm
              clear hm
              have HG := Lib.hid (HW.out.go SS.out (by rw [← HV.out]; exact hm0))
              rw [hm0] at c1
              clear hm0
              go_wp2
              have hjn := HG.out.2
              go_roundg (gk - 1)
              case measure => omega
              case rel =>
                refine ⟨j + 1, by omega, by rw [show itN (nx s) (j + 1) x = nx s (itN (nx s) j x) from rfl, ← HV.out, ← HU.out], HG.out.1, (RA.out.setCell (by first | (simp; done) | (simp; omega)) _).setCell (by first | (simp; done) | (simp; omega)) _, (RZ.out.setCell (by first | (simp; done) | (simp; omega)) _).setCell (by first | (simp; done) | (simp; omega)) _, ?_, ?_, (BB.out.setCell (by first | (simp; done) | (simp; omega)) _).setCell (by first | (simp; done) | (simp; omega)) _⟩
                · rw [← outP_step SS.out HG.out.1, ← HV.out]
                  exact (RO.out.setCell (by first | (simp; done) | (simp; omega)) _).store v (by omega) x
                · refine ((RD.out.store v (by omega) true).setCell (by first | (simp; done) | (simp; omega)) _).congr fun z _ => ?_
                  rw [metP_step, ← HV.out]
        · have hxn : x = n := by omega
          subst hxn
          have HE := Lib.hid (outP_end SS.out)
          have RL : Hid (Row8 wr (w.heap.size + 1 + 1) .i64 (lstR x s)) := Lib.hid (by rw [← HE.out]; exact RO.out)
          clear RO
          obtain ⟨⟨c0, c1, c2, c3⟩, c4, c5, c6, c7⟩ := RL.out.all
          obtain ⟨⟨d0, d1, d2, d3⟩, d4, d5, d6, d7⟩ := RZ.out.all
          obtain ⟨⟨f0, f1, f2, f3⟩, f4, f5, f6, f7⟩ := RZ.out.frees
          have zq := RZ.out.lt
          go_wp2
          obtain ⟨⟨e0, e1, e2, e3⟩, e4, e5, e6, e7⟩ := (RZ.out.fill (lstR x s) RL.out.len).all
          refine bodyPost_ret (v := .tuple #[arr8 .i64 (lstR x s), .bool true]) (by simp [results, Try.results76, go_sem, e0, e1, e2, e3, e4, e5, e6, e7]) rfl ⟨by rw [HLM.out, HYES.out], ?_⟩
          exact below_fill8 BB.out _ (by omega) _ _ _ _ _ _ _ _

end Go.Proofs.Ythelncibpoijoaa
