/- The sign of a word in its main letter: the model's answer and the program's. -/
import Derived.Test.YtckdhnpnkgmikaaDoorSIdx
import Derived.Test.YtckdhnpnkgmikaaDoorLetters
namespace Go.Proofs.YtckdhnpnkgmikaaDoor
open Go.RowKit Go.ChangeShapes

theorem least_bd (xs : List Int) : Lt8 xs → 1 ≤ least xs ∧ least xs ≤ 8 := by
  refine snocInd (P := fun xs => Lt8 xs → 1 ≤ least xs ∧ least xs ≤ 8) (fun _ => by simp [least]) (fun xs x ih hl => ?_) xs
  have hx := idx_bd (hl x (by simp))
  have := ih (fun y hy => hl y (by simp [hy]))
  rw [least_snoc]
  omega

theorem Lt8.take {xs : List Int} (h : Lt8 xs) (k : Nat) : Lt8 (xs.take k) := fun x hx => h x (List.mem_of_mem_take hx)

theorem least_step (xs : List Int) (k : Nat) (h : k < xs.length) : least (xs.take (k + 1)) = min (least (xs.take k)) (idx (xs.getD k 0)) := by rw [take_snoc xs k h, least_snoc]
theorem hasL_step (xs : List Int) (v : Int) (k : Nat) (h : k < xs.length) : hasL (xs.take (k + 1)) v = (hasL (xs.take k) v || xs.getD k 0 == v) := by rw [take_snoc xs k h, hasL_snoc]
theorem mainS_step (xs : List Int) (k : Nat) (h : k < xs.length) : mainS (xs.take (k + 1)) = mstep (mainS (xs.take k)) (xs.getD k 0) := by rw [take_snoc xs k h, mainS_snoc]

set_option maxRecDepth 100000 in
set_option maxHeartbeats 1000000 in
theorem l06Main_any (a : Option Addr) (n cap : Nat) (xs : List Int) (w : World) (hr : Reads w a n xs) (hx : Lt8 xs) (hn : n ≤ 1048576) :
    Calls Tryd.prog 55 #[.slice a n cap] w fun e w' => e = .returned (.tuple #[.int .i64 (least xs), .int .i64 (sgnM xs)]) ∧ Below w.heap.size w w' := by
  have HL := Lib.hid hr.len
  have HX := Lib.hid hx; clear hx
  have HR := Lib.hid hr; clear hr
  obtain ⟨b, off, ha, hb, hc⟩ : ∃ b off, (n = 0 ∨ a = some ⟨b, off, none⟩) ∧ (n = 0 ∨ b < w.heap.size) ∧ ∀ j, j < n → w.cell? ⟨b, off + j, none⟩ = some (.int .i64 (xs.getD j 0)) := by
    rcases Nat.eq_zero_or_pos n with h0 | h0
    · exact ⟨0, 0, .inl h0, .inl h0, fun j hj => by omega⟩
    · obtain ⟨b, off, ha, hb, hc⟩ := HR.out.cells h0
      exact ⟨b, off, .inr ha, .inr hb, hc⟩
  have HA := Lib.hid ha; clear ha
  have HB := Lib.hid hb; clear hb
  have HC := Lib.hid hc; clear hc
  go_enter Tryd.func55, Tryd.ntmps55
  go_wp2
  go_loop [4, 5] (fun v i => ∃ k : Nat, k ≤ n ∧ i = .int .i64 k ∧ v = .int .i64 (least (xs.take k))) (fun _ i => n - (intOf i).toNat)
  case atStart => exact ⟨0, Nat.zero_le _, rfl, rfl⟩
  case round =>
    obtain ⟨k, hk, rfl, rfl⟩ := hrel
    obtain ⟨b1, b2⟩ := least_bd _ (HX.out.take k)
    by_cases hlt : k < n
    · have ha : a = some ⟨b, off, none⟩ := HA.out.resolve_left (by omega)
      subst ha
      obtain ⟨x0, x1, x2⟩ := HX.out.at k (by rw [HL.out]; exact hlt)
      have h1 := HC.out k hlt
      have hst := least_step xs k (by rw [HL.out]; exact hlt)
      obtain ⟨v, hv⟩ : ∃ v, v = least (xs.take k) := ⟨_, rfl⟩
      obtain ⟨x, hx⟩ : ∃ x, x = xs.getD k 0 := ⟨_, rfl⟩
      rw [← hv] at b1 b2 hst ⊢
      rw [← hx] at h1 x0 x1 x2 hst
      have ST := Lib.hid hst; clear hst hv hx
      go_wp2_with (go_at_call 64; refine (l06Index_any _ _ (by omega) (by omega)).mono ?_; rintro e w' ⟨rfl, rfl⟩)
      go_round
      case rel =>
        refine ⟨k + 1, by omega, by go_num, ?_⟩
        rw [ST.out]
        congr 1
        omega
      case measure => simp [intOf]; omega
    · have hkn : k = n := by omega
      have HK := Lib.hid hkn; clear hkn
      obtain ⟨v, hv⟩ : ∃ v, v = least (xs.take k) := ⟨_, rfl⟩
      have HV : Hid (v = least xs) := Lib.hid (by rw [hv, HK.out, List.take_of_length_le (by rw [HL.out]; exact Nat.le_refl _)])
      rw [← hv] at b1 b2 ⊢
      clear hv
      go_wp2
      go_loop [6, 7, 8] (fun p m i => ∃ k : Nat, k ≤ n ∧ i = .int .i64 k ∧ p = .bool (hasL (xs.take k) v) ∧ m = .bool (hasL (xs.take k) (-v))) (fun _ _ i => n - (intOf i).toNat)
      case atStart => exact ⟨0, Nat.zero_le _, rfl, rfl, rfl⟩
      case round =>
        obtain ⟨j, hj, rfl, rfl, rfl⟩ := hrel
        by_cases hlt : j < n
        · have ha : a = some ⟨b, off, none⟩ := HA.out.resolve_left (by omega)
          subst ha
          have h1 := HC.out j hlt
          have hs1 := hasL_step xs v j (by rw [HL.out]; exact hlt)
          have hs2 := hasL_step xs (-v) j (by rw [HL.out]; exact hlt)
          obtain ⟨x, hx⟩ : ∃ x, x = xs.getD j 0 := ⟨_, rfl⟩
          rw [← hx] at h1 hs1 hs2
          obtain ⟨p, hp⟩ : ∃ p, p = hasL (xs.take j) v := ⟨_, rfl⟩
          obtain ⟨m, hm⟩ : ∃ m, m = hasL (xs.take j) (-v) := ⟨_, rfl⟩
          rw [← hp] at hs1 ⊢
          rw [← hm] at hs2 ⊢
          have S1 := Lib.hid hs1
          have S2 := Lib.hid hs2
          clear hs1 hs2 hp hm hx
          cases p <;> cases m
          all_goals
            go_wp2
            go_round
            case rel => exact ⟨j + 1, by omega, by go_num, by rw [S1.out]; rfl, by rw [S2.out]; rfl⟩
            case measure => simp [intOf]; omega
        · have hjn : j = n := by omega
          have hu : xs.take j = xs := List.take_of_length_le (by rw [HL.out, hjn]; exact Nat.le_refl _)
          rw [hu]
          clear hu
          have hs : sgnM xs = if hasL xs v = true ∧ hasL xs (-v) = false then 1 else if hasL xs (-v) = true ∧ hasL xs v = false then -1 else 0 := by unfold sgnM; rw [← HV.out]
          obtain ⟨p, hp⟩ : ∃ p, p = hasL xs v := ⟨_, rfl⟩
          obtain ⟨m, hm⟩ : ∃ m, m = hasL xs (-v) := ⟨_, rfl⟩
          rw [← hp, ← hm] at hs ⊢
          have HS := Lib.hid hs
          clear hs hp hm
          cases p <;> cases m
          all_goals
            go_wp2
            go_ret2
            exact ⟨by rw [HS.out, HV.out]; rfl, Below.refl _ _⟩

set_option maxRecDepth 100000 in
set_option maxHeartbeats 1000000 in
theorem mainSign_any (a : Option Addr) (n cap : Nat) (xs : List Int) (w : World) (hr : Reads w a n xs) (hx : Lt8 xs) (hn : n ≤ 1048576) :
    Calls Tryd.prog 56 #[.slice a n cap] w fun e w' => e = .returned (.tuple #[.int .i64 (mainS xs).1, .int .i64 (mainS xs).2]) ∧ Below w.heap.size w w' := by
  have HL := Lib.hid hr.len
  have HX := Lib.hid hx; clear hx
  have HR := Lib.hid hr; clear hr
  obtain ⟨b, off, ha, hb, hc⟩ : ∃ b off, (n = 0 ∨ a = some ⟨b, off, none⟩) ∧ (n = 0 ∨ b < w.heap.size) ∧ ∀ j, j < n → w.cell? ⟨b, off + j, none⟩ = some (.int .i64 (xs.getD j 0)) := by
    rcases Nat.eq_zero_or_pos n with h0 | h0
    · exact ⟨0, 0, .inl h0, .inl h0, fun j hj => by omega⟩
    · obtain ⟨b, off, ha, hb, hc⟩ := HR.out.cells h0
      exact ⟨b, off, .inr ha, .inr hb, hc⟩
  have HA := Lib.hid ha; clear ha
  have HB := Lib.hid hb; clear hb
  have HC := Lib.hid hc; clear hc
  go_enter Tryd.func56, Tryd.ntmps56
  go_wp2
  go_loop [4, 5, 11] (fun v s i => ∃ k : Nat, k ≤ n ∧ i = .int .i64 k ∧ v = .int .i64 (mainS (xs.take k)).1 ∧ s = .int .i64 (mainS (xs.take k)).2) (fun _ _ i => n - (intOf i).toNat)
  case atStart => exact ⟨0, Nat.zero_le _, rfl, rfl, rfl⟩
  case round =>
    obtain ⟨k, hk, rfl, rfl, rfl⟩ := hrel
    by_cases hlt : k < n
    · have ha : a = some ⟨b, off, none⟩ := HA.out.resolve_left (by omega)
      subst ha
      obtain ⟨x0, x1, x2⟩ := HX.out.at k (by rw [HL.out]; exact hlt)
      have h1 := HC.out k hlt
      have hst := mainS_step xs k (by rw [HL.out]; exact hlt)
      obtain ⟨x, hx⟩ : ∃ x, x = xs.getD k 0 := ⟨_, rfl⟩
      obtain ⟨v, s, hv⟩ : ∃ v s, mainS (xs.take k) = (v, s) := ⟨_, _, rfl⟩
      rw [hv] at hst ⊢
      rw [← hx] at h1 x0 x1 x2 hst
      have ST := Lib.hid hst; clear hst hv hx
      have CI := fun W => index_any x W (by omega) (by omega)
      have CC := fun W => count_any x W
      rw [show x * cnt x = idx x from idx_eq x] at CI
      rw [show cnt x = sg x from rfl] at CC
      have KI := Lib.hid CI; clear CI
      have KC := Lib.hid CC; clear CC
      by_cases hc1 : v = 0 ∨ idx x < v
      · have hm : mstep (v, s) x = (idx x, sg x) := by unfold mstep; rw [if_pos hc1]
        rw [hm] at ST
        clear hm
        by_cases h0 : v = 0
        · have e0 : (v == 0) = true := by simp [h0]
          go_wp2_with (first | (go_at_call 67; refine (KI.out _).mono ?_; rintro e w' ⟨rfl, rfl⟩) | (go_at_call 68; refine (KC.out _).mono ?_; rintro e w' ⟨rfl, rfl⟩))
          go_round
          case rel => exact ⟨k + 1, by omega, by go_num, by rw [ST.out], by rw [ST.out]⟩
          case measure => simp [intOf]; omega
        · have e0 : (v == 0) = false := by simp [h0]
          have hl : idx x < v := by omega
          go_wp2_with (first | (go_at_call 67; refine (KI.out _).mono ?_; rintro e w' ⟨rfl, rfl⟩) | (go_at_call 68; refine (KC.out _).mono ?_; rintro e w' ⟨rfl, rfl⟩))
          go_round
          case rel => exact ⟨k + 1, by omega, by go_num, by rw [ST.out], by rw [ST.out]⟩
          case measure => simp [intOf]; omega
      · have h0 : ¬ v = 0 := fun h => hc1 (.inl h)
        have hl : ¬ idx x < v := fun h => hc1 (.inr h)
        clear hc1
        have e0 : (v == 0) = false := by simp [h0]
        by_cases hc2 : idx x = v ∧ sg x ≠ s
        · have hm : mstep (v, s) x = (v, 0) := by unfold mstep; rw [if_neg (by simp only; omega), if_pos hc2]
          rw [hm] at ST
          clear hm
          obtain ⟨g1, g2⟩ := hc2
          have e1 : (idx x == v) = true := by simp [g1]
          have e2 : (sg x != s) = true := by simp [g2]
          go_wp2_with (first | (go_at_call 67; refine (KI.out _).mono ?_; rintro e w' ⟨rfl, rfl⟩) | (go_at_call 68; refine (KC.out _).mono ?_; rintro e w' ⟨rfl, rfl⟩))
          go_round
          case rel => exact ⟨k + 1, by omega, by go_num, by rw [ST.out], by rw [ST.out]⟩
          case measure => simp [intOf]; omega
        · have hm : mstep (v, s) x = (v, s) := by unfold mstep; rw [if_neg (by simp only; omega), if_neg hc2]
          rw [hm] at ST
          clear hm
          by_cases g1 : idx x = v
          · have g2 : sg x = s := Classical.byContradiction fun h => hc2 ⟨g1, h⟩
            have e1 : (idx x == v) = true := by simp [g1]
            have e2 : (sg x != s) = false := by simp [g2]
            clear hc2
            go_wp2_with (first | (go_at_call 67; refine (KI.out _).mono ?_; rintro e w' ⟨rfl, rfl⟩) | (go_at_call 68; refine (KC.out _).mono ?_; rintro e w' ⟨rfl, rfl⟩))
            go_round
            case rel => exact ⟨k + 1, by omega, by go_num, by rw [ST.out], by rw [ST.out]⟩
            case measure => simp [intOf]; omega
          · have e1 : (idx x == v) = false := by simp [g1]
            clear hc2
            go_wp2_with (first | (go_at_call 67; refine (KI.out _).mono ?_; rintro e w' ⟨rfl, rfl⟩) | (go_at_call 68; refine (KC.out _).mono ?_; rintro e w' ⟨rfl, rfl⟩))
            go_round
            case rel => exact ⟨k + 1, by omega, by go_num, by rw [ST.out], by rw [ST.out]⟩
            case measure => simp [intOf]; omega
    · have hkn : k = n := by omega
      have hu : xs.take k = xs := List.take_of_length_le (by rw [HL.out, hkn]; exact Nat.le_refl _)
      rw [hu]
      clear hu hkn
      go_wp2
      go_ret2
      exact ⟨rfl, Below.refl _ _⟩

end Go.Proofs.YtckdhnpnkgmikaaDoor
