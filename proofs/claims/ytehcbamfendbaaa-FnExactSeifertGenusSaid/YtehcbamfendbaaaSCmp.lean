/- The components of a closure: the model. -/
import Derived.Test.YtehcbamfendbaaaPSLst
import Derived.Test.YtehcbamfendbaaaPerm
import Derived.Test.YtehcbamfendbaaaSrtP
import Derived.Test.YtehcbamfendbaaaPureP
import Derived.Deep.LoopGhost
namespace Go.Proofs.Ytehcbamfendbaaa
open Go.RowKit Go.ChangeShapes

/-- Where the strands end. -/
def permP (n : Nat) (xs : List Int) : List Int := ends 8 (run8 (startM n) xs) n

theorem permP_sim (n : Nat) (h1 : 1 ≤ n) (h8 : n ≤ 8) (xs : List Int) (hx : Letts n xs) : Sim n (permP n xs) := by
  have h := run8_sim n h1 h8 xs hx
  unfold permP
  rw [ends_back h]
  exact backR_sim h

def negL (k : Nat) : List Int := (List.range 8).map fun z => if z < k then -1 else 0

theorem negL_len (k : Nat) : (negL k).length = 8 := by simp [negL]
theorem negL_at (k z : Nat) (hz : z < 8) : at8 (negL k) z = if z < k then -1 else 0 := by
  unfold negL at8
  simp [List.getD, hz]
theorem negL_step (k : Nat) (hk : k < 8) : (negL k).set k (-1) = negL (k + 1) := by
  refine ext8 (by rw [List.length_set]; exact negL_len k) (negL_len _) fun z hz => ?_
  rw [at8_set _ _ _ _ (by rw [negL_len]; exact hk), negL_at _ _ hz, negL_at _ _ hz]
  by_cases e : k = z
  · subst e; rw [if_pos rfl, if_pos (by omega)]
  · rw [if_neg e]
    by_cases h : z < k
    · rw [if_pos h, if_pos (by omega)]
    · rw [if_neg h, if_neg (by omega)]
theorem negL_end : negL 8 = [-1, -1, -1, -1, -1, -1, -1, -1] := by decide
theorem negL_start : negL 0 = [0, 0, 0, 0, 0, 0, 0, 0] := by decide

set_option maxRecDepth 100000 in
set_option maxHeartbeats 4000000 in
theorem l11Components_any (n : Nat) (h1 : 1 ≤ n) (h8 : n ≤ 8) (a : Option Addr) (m cap : Nat) (xs : List Int) (w : World) (hr : Reads w a m xs) (hx : Letts n xs) (hm : m ≤ 1048576) :
    Calls Try.prog 54 #[.int .i64 n, .slice a m cap] w fun e w' => e = .returned (.tuple #[arr8 .i64 (outC n (permP n xs) n 0), .int .i64 (cntL n (permP n xs) n)]) ∧ Below w.heap.size w w' := by
  have SS := Lib.hid (permP_sim n h1 h8 xs hx)
  have K := Lib.hid (fun W (hR : Reads W a m xs) => l01Perm_any n h8 a m cap xs W hR hx hm)
  have HR := Lib.hid hr
  clear hr hx
  change Hid (∀ W, Reads W a m xs → Calls Try.prog _ _ W fun e w' => e = .returned (arr8 .u8 (permP n xs)) ∧ _) at K
  obtain ⟨p, hp⟩ : ∃ p, p = permP n xs := ⟨_, rfl⟩
  rw [← hp] at SS K ⊢
  clear hp
  go_enter Try.func54, Try.ntmps54
  have RZ := Lib.hid (Row8.zeros w .i64 54 w.heap.size rfl)
  have BB := Lib.hid (below1 w (.cells #[.int .i64 0, .int .i64 0, .int .i64 0, .int .i64 0, .int .i64 0, .int .i64 0, .int .i64 0, .int .i64 0] 54))
  go_wp2_with (go_at_call 78; refine (K.out _ (HR.out.alloc _)).mono ?_; rintro e w1 ⟨rfl, hb⟩)
  replace RZ := Lib.hid (RZ.out.below hb)
  replace BB := Lib.hid (below_go BB.out hb (by simp))
  clear hb
  have zz := BB.out.size
  have z0 := RZ.out.lt
  replace RZ := Lib.hid ((RZ.out.alloc (.cells #[.int .u8 (at8 p 0), .int .u8 (at8 p 1), .int .u8 (at8 p 2), .int .u8 (at8 p 3), .int .u8 (at8 p 4), .int .u8 (at8 p 5), .int .u8 (at8 p 6), .int .u8 (at8 p 7)] 60)).alloc (.cells #[.int .i64 0, .int .i64 0, .int .i64 0, .int .i64 0, .int .i64 0, .int .i64 0, .int .i64 0, .int .i64 0] 54))
  replace BB := Lib.hid ((BB.out.alloc zz (.cells #[.int .u8 (at8 p 0), .int .u8 (at8 p 1), .int .u8 (at8 p 2), .int .u8 (at8 p 3), .int .u8 (at8 p 4), .int .u8 (at8 p 5), .int .u8 (at8 p 6), .int .u8 (at8 p 7)] 60)).alloc (by simp; omega) (.cells #[.int .i64 0, .int .i64 0, .int .i64 0, .int .i64 0, .int .i64 0, .int .i64 0, .int .i64 0, .int .i64 0] 54))
  have RA := Lib.hid ((Row8.place w1 .u8 p 60 w1.heap.size rfl SS.out.len).alloc (.cells #[.int .i64 0, .int .i64 0, .int .i64 0, .int .i64 0, .int .i64 0, .int .i64 0, .int .i64 0, .int .i64 0] 54))
  have RO := Lib.hid (Row8.zeros (w1.alloc (.cells #[.int .u8 (at8 p 0), .int .u8 (at8 p 1), .int .u8 (at8 p 2), .int .u8 (at8 p 3), .int .u8 (at8 p 4), .int .u8 (at8 p 5), .int .u8 (at8 p 6), .int .u8 (at8 p 7)] 60)) .i64 54 (w1.heap.size + 1) (by simp))
  obtain ⟨ga, hga⟩ : ∃ g, g = w1.heap.size := ⟨_, rfl⟩
  go_wp2
  obtain ⟨W2, hW2⟩ : ∃ W2, W2 = (w1.alloc (.cells #[.int .u8 (at8 p 0), .int .u8 (at8 p 1), .int .u8 (at8 p 2), .int .u8 (at8 p 3), .int .u8 (at8 p 4), .int .u8 (at8 p 5), .int .u8 (at8 p 6), .int .u8 (at8 p 7)] 60)).alloc (.cells #[.int .i64 0, .int .i64 0, .int .i64 0, .int .i64 0, .int .i64 0, .int .i64 0, .int .i64 0, .int .i64 0] 54) := ⟨_, rfl⟩
  rw [← hW2] at RA RZ RO BB ⊢
  clear hW2
  rw [← hga] at RA RO z0 zz ⊢
  clear hga
  go_loopw [9] (fun i wr => ∃ k : Nat, k ≤ 8 ∧ i = .int .i64 k ∧ Row8 wr w.heap.size .i64 [0, 0, 0, 0, 0, 0, 0, 0] ∧ Row8 wr ga .u8 p ∧ Row8 wr (ga + 1) .i64 (negL k) ∧ Below w.heap.size w wr) (fun i _ => 8 - (intOf i).toNat)
  case atStart => exact ⟨0, by omega, rfl, RZ.out, RA.out, by rw [negL_start]; exact RO.out, BB.out⟩
  case round =>
    obtain ⟨k, hk, rfl, hRZ, hRA, hRO, hBB⟩ := hrel
    clear RA RZ RO BB
    have RA := Lib.hid hRA
    have RZ := Lib.hid hRZ
    have RO := Lib.hid hRO
    have BB := Lib.hid hBB
    clear hRA hRZ hRO hBB
    by_cases hlt : k < 8
    · have f1 := RO.out.free k hlt
      have c1 := RO.out.cell k hlt
      have z4 := RO.out.lt
      have HNS := Lib.hid (negL_step k hlt)
      go_wp2
      go_roundw
      case rel => exact ⟨k + 1, by omega, by go_num, RZ.out.setCell (by first | (simp; done) | (simp; omega)) _, RA.out.setCell (by first | (simp; done) | (simp; omega)) _, by rw [← HNS.out]; exact RO.out.store k hlt (-1), BB.out.setCell (by first | (simp; done) | (simp; omega)) _⟩
      case measure => simp [intOf]; omega
    · have hk8 : k = 8 := by omega
      subst hk8
      replace RO := Lib.hid (show Row8 wr (ga + 1) .i64 (outC n p 0 0) by rw [outC_start, ← negL_end]; exact RO.out)
      go_wp2
      go_loopw [8, 10] (fun c i wr => ∃ x : Nat, x ≤ n ∧ i = .int .i64 x ∧ c = .int .i64 (cntL n p x) ∧ Row8 wr w.heap.size .i64 [0, 0, 0, 0, 0, 0, 0, 0] ∧ Row8 wr ga .u8 p ∧ Row8 wr (ga + 1) .i64 (outC n p x 0) ∧ Below w.heap.size w wr) (fun _ i _ => n - (intOf i).toNat)
      case atStart => exact ⟨0, Nat.zero_le _, rfl, rfl, RZ.out, RA.out, RO.out, BB.out⟩
      case round =>
        obtain ⟨x, hx, rfl, rfl, hRZ, hRA, hRO, hBB⟩ := hrel
        clear RA RZ RO BB
        have RA := Lib.hid hRA
        have RZ := Lib.hid hRZ
        have RO := Lib.hid hRO
        have BB := Lib.hid hBB
        clear hRA hRZ hRO hBB
        have hcl := cntL_le n p x
        by_cases hlt : x < n
        · have c1 := RO.out.cell x (by omega)
          by_cases hm0 : metP n p x 0 x = true
          · have HN := Lib.hid ((Way.start (p := p) x hlt).nextC SS.out hm0)
            have hge := outC_pos n p x 0 x (by omega) hm0
            obtain ⟨v, hv⟩ : ∃ v, v = at8 (outC n p x 0) x := ⟨_, rfl⟩
            rw [← hv] at c1 hge
            clear hv hm0
            obtain ⟨c, hc⟩ : ∃ c, c = cntL n p x := ⟨_, rfl⟩
            have HCX : Hid (cntL n p (x + 1) = c) := Lib.hid (by rw [HN.out.2, if_pos rfl, hc]; rfl)
            rw [← hc]
            clear hc hcl
            have hge2 : v ≥ 0 := hge
            go_wp2
            go_roundw
            case rel => exact ⟨x + 1, by omega, by go_num, by rw [HCX.out], RZ.out, RA.out, by rw [← HN.out.1]; exact RO.out, BB.out⟩
            case measure => simp [intOf]; omega
          · have hmf : metP n p x 0 x = false := by simpa using hm0
            have hneg := outC_neg n p x 0 x (by omega) hmf
            rw [hneg] at c1
            have HMF := Lib.hid hmf
            clear hm0 hmf hneg
            obtain ⟨c, hc⟩ : ∃ c, c = cntL n p x := ⟨_, rfl⟩
            rw [← hc] at hcl ⊢
            have HC := Lib.hid hc; clear hc
            have wc : IntKind.i64.wrap ((c : Int) + 1) = ((c + 1 : Nat) : Int) := (IntWalk.i64_in _ (by omega)).trans (by omega)
            go_wp2
            clear c1
            go_loopg [11] (n + 1) (fun g y wr => ∃ j : Nat, g + j = n + 1 ∧ y = .int .i64 (itN (nx p) j x : Nat) ∧ Way n p x j ∧ Row8 wr w.heap.size .i64 [0, 0, 0, 0, 0, 0, 0, 0] ∧ Row8 wr ga .u8 p ∧ Row8 wr (ga + 1) .i64 (outC n p x j) ∧ Below w.heap.size w wr)
            case atStart => exact ⟨0, by omega, rfl, Way.start x hlt, RZ.out, RA.out, RO.out, BB.out⟩
            case round =>
              obtain ⟨j, hgj, rfl, hway, hRZ, hRA, hRO, hBB⟩ := hrel
              clear RA RZ RO BB
              have RA := Lib.hid hRA
              have RZ := Lib.hid hRZ
              have RO := Lib.hid hRO
              have BB := Lib.hid hBB
              clear hRA hRZ hRO hBB
              have hin := hway.here SS.out
              obtain ⟨v, hv⟩ : ∃ v, v = itN (nx p) j x := ⟨_, rfl⟩
              have c2 := RO.out.cell v (by omega)
              have f2 := RO.out.free v (by omega)
              have c3 := RA.out.cell v (by omega)
              have z3 := RO.out.lt
              rw [SS.out.nx v] at c3
              have hv2 : v < 8 := by omega
              have hn2 := SS.out.prm.bd v (by omega)
              have hn3 : nx p v < 8 := by omega
              obtain ⟨u, hu⟩ : ∃ u, u = nx p v := ⟨_, rfl⟩
              rw [← hu] at c3 hn2 hn3
              rw [← hv] at hin ⊢
              have HV := Lib.hid hv
              have HU := Lib.hid hu
              have HW := Lib.hid hway
              clear hv hu hway
              by_cases hm : metP n p x j v = true
              · have HN := Lib.hid (HW.out.nextC SS.out (by rw [← HV.out]; exact hm))
                have hj0 : j ≠ 0 := by
                  intro e
                  subst e
                  have e2 : v = x := HV.out
                  rw [e2, HMF.out] at hm
                  cases hm
                have hge := outC_pos n p x j v (by omega) hm
                obtain ⟨q, hq⟩ : ∃ q, q = at8 (outC n p x j) v := ⟨_, rfl⟩
                rw [← hq] at c2 hge
                have hge2 : ¬ q < 0 := by omega
                have HCX : Hid (cntL n p (x + 1) = c + 1) := Lib.hid (by rw [HN.out.2, if_neg hj0, HC.out])
                clear hm hq hge hj0
                go_wp2
                go_roundw
                case rel => exact ⟨x + 1, by omega, by go_num, by rw [HCX.out]; go_num, RZ.out, RA.out, by rw [← HN.out.1]; exact RO.out, BB.out⟩
                case measure => simp [intOf]; omega
              · have hmf : metP n p x j v = false := by simpa using hm
                clear hm
                have HG := Lib.hid (HW.out.go SS.out (by rw [← HV.out]; exact hmf))
                have hneg := outC_neg n p x j v (by omega) hmf
                rw [hneg] at c2
                clear hmf hneg
                have hjn := HG.out.2
                have HOS := Lib.hid (outC_step SS.out HG.out.1)
                go_wp2
                go_roundg (gk - 1)
                case measure => omega
                case rel =>
                  refine ⟨j + 1, by omega, by rw [show itN (nx p) (j + 1) x = nx p (itN (nx p) j x) from rfl, ← HV.out, ← HU.out], HG.out.1, RZ.out.setCell (by first | (simp; done) | (simp; omega)) _, RA.out.setCell (by first | (simp; done) | (simp; omega)) _, ?_, BB.out.setCell (by first | (simp; done) | (simp; omega)) _⟩
                  rw [← HOS.out, ← HV.out, ← HC.out]
                  exact RO.out.store v (by omega) c
        · have hxn : x = n := by omega
          subst hxn
          obtain ⟨l, hl⟩ : ∃ l, l = outC x p x 0 := ⟨_, rfl⟩
          have HLL : Hid (l.length = 8) := Lib.hid (by rw [hl]; exact outC_len _ _ _ _)
          rw [← hl] at RO
          have HLE := Lib.hid hl
          clear hl
          obtain ⟨⟨c0, c1, c2, c3⟩, c4, c5, c6, c7⟩ := RO.out.all
          obtain ⟨⟨d0, d1, d2, d3⟩, d4, d5, d6, d7⟩ := RZ.out.all
          obtain ⟨⟨f0, f1, f2, f3⟩, f4, f5, f6, f7⟩ := RZ.out.frees
          have zq := RZ.out.lt
          go_wp2
          obtain ⟨⟨e0, e1, e2, e3⟩, e4, e5, e6, e7⟩ := (RZ.out.fill l HLL.out).all
          refine bodyPost_ret (v := .tuple #[arr8 .i64 l, .int .i64 (cntL x p x)]) (by simp [results, Try.results54, go_sem, e0, e1, e2, e3, e4, e5, e6, e7]) rfl ⟨by rw [HLE.out], ?_⟩
          exact below_fill8 BB.out _ (by omega) _ _ _ _ _ _ _ _

end Go.Proofs.Ytehcbamfendbaaa
