/- The model: crossings; is a row a part? -/
import Derived.Test.YthelncibpoijoaaPSMade
import Derived.Test.YthelncibpoijoaaIIs
namespace Go.Proofs.Ythelncibpoijoaa
open Go.RowKit Go.ChangeShapes

set_option maxRecDepth 100000 in
set_option maxHeartbeats 4000000 in
theorem l07Crossing_any (n : Nat) (h8 : n ≤ 8) (L : List Int) (lL : L.length = 8) (hL : ∀ j, j < n → 0 ≤ at8 L j) (w : World) :
    Calls Try.prog 70 #[arr8 .i64 L, .int .i64 n] w fun e w' => e = .returned (.bool (crN (nx L) n)) ∧ Below w.heap.size w w' := by
  have HL : Hid (∀ j, j < n → at8 L j = (nx L j : Nat)) := Lib.hid (fun j hj => by have := hL j hj; unfold nx; omega)
  clear hL
  go_enter Try.func70, Try.ntmps70
  have RA := Lib.hid (Row8.place w .i64 L 67 w.heap.size rfl lL)
  have BB := Lib.hid (below1 w (.cells #[.int .i64 (at8 L 0), .int .i64 (at8 L 1), .int .i64 (at8 L 2), .int .i64 (at8 L 3), .int .i64 (at8 L 4), .int .i64 (at8 L 5), .int .i64 (at8 L 6), .int .i64 (at8 L 7)] 67))
  clear lL
  obtain ⟨W, hW⟩ : ∃ W, W = w.alloc (.cells #[.int .i64 (at8 L 0), .int .i64 (at8 L 1), .int .i64 (at8 L 2), .int .i64 (at8 L 3), .int .i64 (at8 L 4), .int .i64 (at8 L 5), .int .i64 (at8 L 6), .int .i64 (at8 L 7)] 67) := ⟨_, rfl⟩
  go_wp2
  rw [← hW] at RA BB ⊢
  clear hW
  go_loopw [5] (fun i wr => ∃ a : Nat, a ≤ n ∧ i = .int .i64 a ∧ (∀ a', a' < a → a' < n → ∀ b, a' < b → ∀ c, b < c → ∀ d, c < d → d < n → ¬ X4 (nx L) a' b c d) ∧ Row8 wr w.heap.size .i64 L ∧ Below w.heap.size w wr) (fun i _ => n - (intOf i).toNat)
  case atStart => exact ⟨0, Nat.zero_le _, rfl, fun a' h => by omega, RA.out, BB.out⟩
  case round =>
    obtain ⟨a, hla, rfl, hNa, hRA, hBB⟩ := hrel
    have HNa := Lib.hid hNa
    clear hNa
    clear RA BB
    have RA := Lib.hid hRA
    have BB := Lib.hid hBB
    clear hRA hBB
    by_cases hlta : a < n
    · skip
      go_wp2
      go_loopw [6] (fun i wr => ∃ b : Nat, a < b ∧ b ≤ n ∧ i = .int .i64 b ∧ (∀ b', b' < b → a < b' → b' < n → ∀ c, b' < c → ∀ d, c < d → d < n → ¬ X4 (nx L) a b' c d) ∧ Row8 wr w.heap.size .i64 L ∧ Below w.heap.size w wr) (fun i _ => n - (intOf i).toNat)
      case atStart => exact ⟨a + 1, by omega, by omega, by go_num, fun b' h h2 => by omega, RA.out, BB.out⟩
      case round =>
        obtain ⟨b, hgb, hlb, rfl, hNb, hRA, hBB⟩ := hrel
        have HNb := Lib.hid hNb
        clear hNb
        clear RA BB
        have RA := Lib.hid hRA
        have BB := Lib.hid hBB
        clear hRA hBB
        by_cases hltb : b < n
        · skip
          go_wp2
          go_loopw [7] (fun i wr => ∃ c : Nat, b < c ∧ c ≤ n ∧ i = .int .i64 c ∧ (∀ c', c' < c → b < c' → c' < n → ∀ d, c' < d → d < n → ¬ X4 (nx L) a b c' d) ∧ Row8 wr w.heap.size .i64 L ∧ Below w.heap.size w wr) (fun i _ => n - (intOf i).toNat)
          case atStart => exact ⟨b + 1, by omega, by omega, by go_num, fun c' h h2 => by omega, RA.out, BB.out⟩
          case round =>
            obtain ⟨c, hgc, hlc, rfl, hNc, hRA, hBB⟩ := hrel
            have HNc := Lib.hid hNc
            clear hNc
            clear RA BB
            have RA := Lib.hid hRA
            have BB := Lib.hid hBB
            clear hRA hBB
            by_cases hltc : c < n
            · skip
              go_wp2
              go_loopw [8] (fun i wr => ∃ d : Nat, c < d ∧ d ≤ n ∧ i = .int .i64 d ∧ (∀ d', d' < d → c < d' → d' < n → ¬ X4 (nx L) a b c d') ∧ Row8 wr w.heap.size .i64 L ∧ Below w.heap.size w wr) (fun i _ => n - (intOf i).toNat)
              case atStart => exact ⟨c + 1, by omega, by omega, by go_num, fun d' h h2 => by omega, RA.out, BB.out⟩
              case round =>
                obtain ⟨d, hgd, hld, rfl, hNd, hRA, hBB⟩ := hrel
                have HNd := Lib.hid hNd
                clear hNd
                clear RA BB
                have RA := Lib.hid hRA
                have BB := Lib.hid hBB
                clear hRA hBB
                by_cases hltd : d < n
                · skip
                  have ca := RA.out.cell a (by omega)
                  rw [HL.out a (by omega)] at ca
                  have cb := RA.out.cell b (by omega)
                  rw [HL.out b (by omega)] at cb
                  have cc := RA.out.cell c (by omega)
                  rw [HL.out c (by omega)] at cc
                  have cd := RA.out.cell d (by omega)
                  rw [HL.out d (by omega)] at cd
                  obtain ⟨ua, ha⟩ : ∃ u, u = nx L a := ⟨_, rfl⟩
                  rw [← ha] at ca
                  have Ha := Lib.hid ha
                  clear ha
                  obtain ⟨ub, hb⟩ : ∃ u, u = nx L b := ⟨_, rfl⟩
                  rw [← hb] at cb
                  have Hb := Lib.hid hb
                  clear hb
                  obtain ⟨uc, hc⟩ : ∃ u, u = nx L c := ⟨_, rfl⟩
                  rw [← hc] at cc
                  have Hc := Lib.hid hc
                  clear hc
                  obtain ⟨ud, hd⟩ : ∃ u, u = nx L d := ⟨_, rfl⟩
                  rw [← hd] at cd
                  have Hd := Lib.hid hd
                  clear hd
                  by_cases e1 : ua = uc
                  · have t1 : ((ua : Int) == (uc : Int)) = true := by simp [e1]
                    by_cases e2 : ub = ud
                    · have t2 : ((ub : Int) == (ud : Int)) = true := by simp [e2]
                      by_cases e3 : ua = ub
                      · have t3 : ((ua : Int) != (ub : Int)) = false := by simp [e3]
                        have HNO : Hid (¬ X4 (nx L) a b c d) := Lib.hid (fun h => h.2.2 (by rw [← Ha.out, ← Hb.out, e3]))
                        clear e1 e2 e3
                        go_wp2
                        go_quiet (fail)
                        go_wp2
                        go_roundw
                        case rel =>
                          have hb := below_draws wr.heap.size wr nq
                          refine ⟨d + 1, by omega, by omega, by go_num, fun d' h1 h2 h3 => ?_, RA.out.below hb, below_go BB.out hb BB.out.size⟩
                          by_cases e : d' = d
                          · subst e
                            exact HNO.out
                          · exact HNd.out d' (by omega) h2 h3
                        case measure => simp [intOf]; omega
                      · have t3 : ((ua : Int) != (ub : Int)) = true := by rw [bne_iff_ne]; omega
                        have HY : Hid (crN (nx L) n = true) := Lib.hid ((crN_iff _ _).2 ⟨a, b, c, d, hgb, hgc, hgd, hltd, by rw [← Ha.out, ← Hc.out, e1], by rw [← Hb.out, ← Hd.out, e2], by rw [← Ha.out, ← Hb.out]; exact e3⟩)
                        clear e1 e2 e3
                        go_wp2
                        go_quiet (fail)
                        have hb := below_draws wr.heap.size wr nq
                        have BB2 := Lib.hid (below_go BB.out hb BB.out.size)
                        clear hb
                        go_wp2
                        go_ret
                        exact ⟨ret_bool HY.out.symm, BB2.out⟩
                    · have t2 : ((ub : Int) == (ud : Int)) = false := by rw [beq_eq_false_iff_ne]; omega
                      have HNO : Hid (¬ X4 (nx L) a b c d) := Lib.hid (fun h => e2 (by rw [Hb.out, Hd.out]; exact h.2.1))
                      clear e1 e2
                      go_wp2
                      go_quiet (fail)
                      go_wp2
                      go_roundw
                      case rel =>
                        have hb := below_draws wr.heap.size wr nq
                        refine ⟨d + 1, by omega, by omega, by go_num, fun d' h1 h2 h3 => ?_, RA.out.below hb, below_go BB.out hb BB.out.size⟩
                        by_cases e : d' = d
                        · subst e
                          exact HNO.out
                        · exact HNd.out d' (by omega) h2 h3
                      case measure => simp [intOf]; omega
                  · have t1 : ((ua : Int) == (uc : Int)) = false := by rw [beq_eq_false_iff_ne]; omega
                    have HNO : Hid (¬ X4 (nx L) a b c d) := Lib.hid (fun h => e1 (by rw [Ha.out, Hc.out]; exact h.1))
                    clear e1
                    go_wp2
                    go_quiet (fail)
                    go_wp2
                    go_roundw
                    case rel =>
                      have hb := below_draws wr.heap.size wr nq
                      refine ⟨d + 1, by omega, by omega, by go_num, fun d' h1 h2 h3 => ?_, RA.out.below hb, below_go BB.out hb BB.out.size⟩
                      by_cases e : d' = d
                      · subst e
                        exact HNO.out
                      · exact HNd.out d' (by omega) h2 h3
                    case measure => simp [intOf]; omega
                · have hed : d = n := by omega
                  go_wp2
                  go_roundw
                  case rel =>
                    refine ⟨c + 1, by omega, by omega, by go_num, fun c' g1 g2 g3 => ?_, RA.out, BB.out⟩
                    by_cases e : c' = c
                    · subst e
                      intro d2 g4
                      intro gn
                      exact HNd.out d2 (by omega) g4 (by omega) 
                    · exact HNc.out c' (by omega) g2 g3
                  case measure => simp [intOf]; omega
            · have hec : c = n := by omega
              go_wp2
              go_roundw
              case rel =>
                refine ⟨b + 1, by omega, by omega, by go_num, fun b' g1 g2 g3 => ?_, RA.out, BB.out⟩
                by_cases e : b' = b
                · subst e
                  intro c2 g4
                  intro d2 gd gn
                  exact HNc.out c2 (by omega) g4 (by omega) d2 gd gn
                · exact HNb.out b' (by omega) g2 g3
              case measure => simp [intOf]; omega
        · have heb : b = n := by omega
          go_wp2
          go_roundw
          case rel =>
            refine ⟨a + 1, by omega, by go_num, fun a' g1 g3 => ?_, RA.out, BB.out⟩
            by_cases e : a' = a
            · subst e
              intro b2 g4
              intro c2 gc d2 gd gn
              exact HNb.out b2 (by omega) g4 (by omega) c2 gc d2 gd gn
            · exact HNa.out a' (by omega) g3
          case measure => simp [intOf]; omega
    · have hea : a = n := by omega
      have HNO : Hid (crN (nx L) n = false) := Lib.hid (crN_no _ _ fun a' b c d g1 g2 g3 g4 g5 => HNa.out a' (by omega) g1 b g2 c g3 d g4 g5)
      go_wp2
      go_ret
      exact ⟨ret_bool HNO.out.symm, BB.out⟩

end Go.Proofs.Ythelncibpoijoaa
