/- The least common letter of the rows of a map: the program. -/
import Derived.Test.YtkedkleddpnanaaMapB
import Derived.Test.YtkedkleddpnanaaIBeg
import Derived.Test.YtkedkleddpnanaaTakeP
namespace Go.Proofs.Ytkedkleddpnanaa
open Go.RowKit Go.ChangeShapes

/-- The rows of a map. -/
def valsL (L : List (List Int × List Int)) : List (List Int) := L.map (·.2)

/-- Entry i begins with the letter k + 1 (or there is none). -/
def begAt (L : List (List Int × List Int)) (k i : Nat) : Bool := match L[i]? with
  | some x => decide (at8 x.2 (k + 1) < at8 x.2 k)
  | none => true

/-- All entries that have come begin with it. -/
def seenB (L : List (List Int × List Int)) (k : Nat) (seen : Array Nat) : Bool := seen.toList.all (begAt L k)

theorem seenB_push (L : List (List Int × List Int)) (k : Nat) (seen : Array Nat) (i : Nat) (x : List Int × List Int) (h : L[i]? = some x) : seenB L k (seen.push i) = (seenB L k seen && decide (at8 x.2 (k + 1) < at8 x.2 k)) := by
  simp [seenB, begAt, h]

theorem seenB_all (L : List (List Int × List Int)) (k : Nat) (seen : Array Nat) (hs : ∀ i, i < L.length → seen.contains i = true) : seenB L k seen = allBeg (valsL L) k := by
  rw [Bool.eq_iff_iff]
  simp only [seenB, allBeg, valsL, List.all_eq_true, List.mem_map, decide_eq_true_eq]
  constructor
  · rintro h v ⟨x, hx, rfl⟩
    obtain ⟨i, hi⟩ := List.getElem?_of_mem hx
    have hlt := (List.getElem?_eq_some_iff.1 hi).1
    have hm : i ∈ seen.toList := by simpa using hs i hlt
    have := h i hm
    unfold begAt at this
    rw [hi] at this
    simpa using this
  · intro h i _
    unfold begAt
    cases hx : L[i]? with
    | none => rfl
    | some x =>
      have := h x.2 ⟨x, List.mem_of_getElem? hx, rfl⟩
      simpa using this

theorem rangeLeft_same {w w' : World} {b r : Nat} (hb : w'.heap[b]? = w.heap[b]?) (hr : w'.heap[r]? = w.heap[r]?) : w'.rangeLeft b r = w.rangeLeft b r := by
  unfold World.rangeLeft
  rw [hb, hr]

theorem rangeLeft_alloc {w : World} {b r : Nat} {o : Obj} (hb : b < w.heap.size) (hr : r < w.heap.size) : (w.alloc o).rangeLeft b r = w.rangeLeft b r :=
  rangeLeft_same (((Below.refl _ _).alloc (Nat.le_refl _) o).block b hb) (((Below.refl _ _).alloc (Nat.le_refl _) o).block r hr)

/-- The least common letter, or 0. -/
def letC (vs : List (List Int)) (n : Nat) : Int := match common vs (n - 1) 0 with
  | some k => (k : Int) + 1
  | none => 0

set_option maxRecDepth 100000 in
set_option maxHeartbeats 1000000 in
theorem commonLetter_any (n : Nat) (h1 : 1 ≤ n) (h8 : n ≤ 8) (b : Nat) (L : List (List Int × List Int)) (hv : ∀ x ∈ L, x.2.length = 8) (w : World) (hm : MapA w b L) :
    Calls Try.prog 135 #[.map (some b), .int .i64 n] w fun e w' => e = .returned (.int .i64 (letC (valsL L) n)) ∧ Below w.heap.size w w' := by
  have HV := Lib.hid hv
  have HM := Lib.hid hm
  have zb0 := hm.lt
  clear hv hm
  go_enter Try.func135, Try.ntmps135
  go_wp2
  go_loopw [5] (fun i wr => ∃ k : Nat, k + 1 ≤ n ∧ i = .int .i64 ((k : Int) + 1) ∧ (∀ j, j < k → allBeg (valsL L) j = false) ∧ Below w.heap.size w wr) (fun i _ => n - (intOf i).toNat)
  case atStart => exact ⟨0, h1, rfl, fun j hj => absurd hj (Nat.not_lt_zero _), Below.refl _ _⟩
  case round =>
    obtain ⟨k, hk, rfl, hno, hbb⟩ := hrel
    have HNO := Lib.hid hno
    have BB := Lib.hid hbb
    clear hno hbb
    have zz := BB.out.size
    by_cases hlt : k + 1 < n
    · have MW := Lib.hid (HM.out.heap (BB.out.block b zb0))
      have hd : decide ((k : Int) + 1 < (n : Int)) = true := by simp; omega
      go_wp2_with (at_range; refine wpList_range_a rfl _ rfl b L rfl MW.out ?_; intro hit)
      have IT := Lib.hid hit
      clear hit
      obtain ⟨r, hr⟩ : ∃ r, r = wr.heap.size := ⟨_, rfl⟩
      have M0 := Lib.hid (MW.out.alloc (.mapIter (some b) L.length #[] L.length))
      have B0 := Lib.hid (BB.out.alloc zz (.mapIter (some b) L.length #[] L.length))
      obtain ⟨wi0, hwi⟩ : ∃ W, W = wr.alloc (.mapIter (some b) L.length #[] L.length) := ⟨_, rfl⟩
      rw [← hwi] at IT M0 B0 ⊢
      rw [← hr] at IT ⊢
      have zr : w.heap.size ≤ r := by omega
      clear hwi hr
      go_frame
      go_loopw [6] (fun c wi => ∃ seen : Array Nat, c = .bool (seenB L k seen) ∧ IterA wi r b L seen ∧ MapA wi b L ∧ Below w.heap.size w wi) (fun _ wi => wi.rangeLeft b r)
      case atStart => exact ⟨#[], rfl, IT.out, M0.out, B0.out⟩
      case round =>
        obtain ⟨seen, rfl, hi, hm, hb⟩ := hrel
        clear IT M0 B0 BB MW
        have IT := Lib.hid hi
        have MW := Lib.hid hm
        have BB := Lib.hid hb
        clear hi hm hb zz
        have zz := BB.out.size
        go_wp2_with (at_next; refine wpList_next_a rfl _ rfl r b L seen rfl MW.out IT.out (by omega) ?_ ?_)
        · intro hall
          have HA := Lib.hid (seenB_all L k seen hall)
          clear hall
          rw [HA.out]
          by_cases hc : allBeg (valsL L) k = true
          · have HL : Hid (letC (valsL L) n = (k : Int) + 1) := Lib.hid (by
              unfold letC
              rw [common_eq (Nat.zero_le k) (by omega) hc (fun j _ hj => HNO.out j hj)])
            rw [hc]
            clear hc
            go_wp2
            go_ret
            exact ⟨ret_int HL.out.symm, BB.out⟩
          · have hc0 : allBeg (valsL L) k = false := by simpa using hc
            have HC := Lib.hid hc0
            rw [hc0]
            clear hc hc0
            go_wp2
            go_roundw
            case rel =>
              exact ⟨k + 1, by omega, by go_num, fun j hj => by
                by_cases e : j = k
                · rw [e]; exact HC.out
                · exact HNO.out j (by omega), BB.out⟩
            case measure => simp [intOf]; omega
        · intro i x1 x2 w' hx hns hi' hm' hwr hlt' hen
          have hlx : x2.length = 8 := HV.out (x1, x2) (List.mem_of_getElem? hx)
          have HLX := Lib.hid hlx
          have HLT : Hid (w'.rangeLeft b r < wr.rangeLeft b r) := Lib.hid hlt'
          have IT2 := Lib.hid hi'
          have MW2 := Lib.hid hm'
          have B2 := Lib.hid (below_write BB.out hwr zr zz)
          have KB := Lib.hid (fun W => beginsWith_any k (by omega) x2 HLX.out W)
          have HPU := Lib.hid (seenB_push L k seen i (x1, x2) hx)
          have hen2 : (Instr.entry (.pointer (some ⟨r, 0, none⟩))).run Try.prog w' = .ok (.tuple #[arr8 .u8 x1, arr8 .u8 x2]) w' := hen
          clear hx hns hi' hm' hwr hlt' hlx hen
          have zw := B2.out.size
          by_cases hsb : seenB L k seen = true
          · have HSB := Lib.hid hsb
            rw [hsb]
            clear hsb
            have I3 := Lib.hid (IT2.out.alloc (.cells #[.int .u8 (at8 x2 0), .int .u8 (at8 x2 1), .int .u8 (at8 x2 2), .int .u8 (at8 x2 3), .int .u8 (at8 x2 4), .int .u8 (at8 x2 5), .int .u8 (at8 x2 6), .int .u8 (at8 x2 7)] 26))
            have M3 := Lib.hid (MW2.out.alloc (.cells #[.int .u8 (at8 x2 0), .int .u8 (at8 x2 1), .int .u8 (at8 x2 2), .int .u8 (at8 x2 3), .int .u8 (at8 x2 4), .int .u8 (at8 x2 5), .int .u8 (at8 x2 6), .int .u8 (at8 x2 7)] 26))
            have B3 := Lib.hid (B2.out.alloc zw (.cells #[.int .u8 (at8 x2 0), .int .u8 (at8 x2 1), .int .u8 (at8 x2 2), .int .u8 (at8 x2 3), .int .u8 (at8 x2 4), .int .u8 (at8 x2 5), .int .u8 (at8 x2 6), .int .u8 (at8 x2 7)] 26))
            have R3 := Lib.hid (Row8.place w' .u8 x2 26 w'.heap.size rfl HLX.out)
            go_wp2_with fail
            refine (KB.out _).mono ?_
            rintro e w4 ⟨rfl, hb4⟩
            clear hen2
            go_wp2
            go_roundw
            case rel =>
              exact ⟨seen.push i, by rw [HPU.out, HSB.out, Bool.true_and], I3.out.below hb4, M3.out.below hb4, below_go B3.out hb4 B3.out.size⟩
            case measure =>
              rw [rangeLeft_same (hb4.block b M3.out.lt) (hb4.block r I3.out.lt), rangeLeft_alloc MW2.out.lt IT2.out.lt]
              exact HLT.out
          · have hsb0 : seenB L k seen = false := by simpa using hsb
            have HSB := Lib.hid hsb0
            rw [hsb0]
            clear hsb hsb0
            have I3 := Lib.hid (IT2.out.alloc (.cells #[.int .u8 (at8 x2 0), .int .u8 (at8 x2 1), .int .u8 (at8 x2 2), .int .u8 (at8 x2 3), .int .u8 (at8 x2 4), .int .u8 (at8 x2 5), .int .u8 (at8 x2 6), .int .u8 (at8 x2 7)] 26))
            have M3 := Lib.hid (MW2.out.alloc (.cells #[.int .u8 (at8 x2 0), .int .u8 (at8 x2 1), .int .u8 (at8 x2 2), .int .u8 (at8 x2 3), .int .u8 (at8 x2 4), .int .u8 (at8 x2 5), .int .u8 (at8 x2 6), .int .u8 (at8 x2 7)] 26))
            have B3 := Lib.hid (B2.out.alloc zw (.cells #[.int .u8 (at8 x2 0), .int .u8 (at8 x2 1), .int .u8 (at8 x2 2), .int .u8 (at8 x2 3), .int .u8 (at8 x2 4), .int .u8 (at8 x2 5), .int .u8 (at8 x2 6), .int .u8 (at8 x2 7)] 26))
            go_wp2
            go_roundw
            case rel =>
              exact ⟨seen.push i, by rw [HPU.out, HSB.out, Bool.false_and], I3.out, M3.out, B3.out⟩
            case measure =>
              rw [rangeLeft_alloc MW2.out.lt IT2.out.lt]
              exact HLT.out
    · have HL : Hid (letC (valsL L) n = 0) := Lib.hid (by
        unfold letC
        rw [common_no (fun j _ hj => HNO.out j (by omega))])
      go_wp2
      go_ret
      exact ⟨ret_int HL.out.symm, BB.out⟩

end Go.Proofs.Ytkedkleddpnanaa
