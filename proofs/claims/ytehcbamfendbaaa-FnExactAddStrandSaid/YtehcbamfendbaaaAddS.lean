/- AddStrand: the model and the program. -/
import Derived.Test.YtehcbamfendbaaaSFor
import Derived.Test.YtehcbamfendbaaaCct2
import Derived.Test.YtehcbamfendbaaaOwnL
import Derived.Test.YtehcbamfendbaaaStepA
namespace Go.Proofs.Ytehcbamfendbaaa
open Go.RowKit Go.ChangeShapes

/-- A strand added, and the code. -/
def mAdd (s : Int) (xs : List Int) (g : Int) : Int × List Int × Int :=
  if isBraid s xs = true then (if g = 1 ∨ g = -1 then (if s = 8 ∨ xs.length = 200 then (0, [], 3) else (s + 1, xs ++ [g * s], 0)) else (0, [], 2)) else (0, [], 1)

theorem one_reads (w : World) (x : Int) (g : Nat) (hg : w.heap.size = g) : Reads (w.alloc (.cells #[.int .i64 x] 2)) (some ⟨g, 0, none⟩) 1 [x] := by
  subst hg
  refine ⟨rfl, .inr ⟨w.heap.size, 0, rfl, fun j hj => ?_⟩⟩
  obtain rfl : j = 0 := by omega
  simp

/-- What stands behind a copy and a new block of one number, in either order. -/
def Ord (W w1 : World) (gA gZ : Nat) (uA vA uZ vZ : Value) (b : Nat) (v : Int) (a3 : Option Addr) (n c3 : Nat) (xs : List Int) : Prop :=
  Reads W (some ⟨b, 0, none⟩) 1 [v] ∧ At2 W gA uA vA ∧ At2 W gZ uZ vZ ∧ OwnV w1.heap.size W (.slice a3 n c3) n xs ∧ Below w1.heap.size w1.drew W

theorem ord1 {w1 w3 : World} {gA gZ : Nat} {uA vA uZ vZ : Value} {a3 : Option Addr} {n c3 : Nat} {xs : List Int} (v : Int) (A : At2 w1 gA uA vA) (Z : At2 w1 gZ uZ vZ) (ho : Own w1.heap.size w3 a3 n c3 xs) (hb : Below w1.heap.size w1.drew w3) :
    Ord (w3.alloc (.cells #[.int .i64 v] 2)) w1 gA gZ uA vA uZ vZ w3.heap.size v a3 n c3 xs :=
  ⟨one_reads w3 v w3.heap.size rfl, (A.drew.below hb).alloc _, (Z.drew.below hb).alloc _, World.ownsRow.alloc (show OwnV w1.heap.size w3 (.slice a3 n c3) n xs from ho) _, (show Below w1.heap.size w1.drew w3 from hb).alloc (show w1.heap.size ≤ w3.heap.size from hb.size) _⟩

theorem ord2 {w1 w3 : World} {gA gZ : Nat} {uA vA uZ vZ : Value} {a3 : Option Addr} {n c3 : Nat} {xs : List Int} (v : Int) (A : At2 w1 gA uA vA) (Z : At2 w1 gZ uZ vZ) (ho : Own (w1.drew.alloc (.cells #[.int .i64 v] 2)).heap.size w3 a3 n c3 xs) (hb : Below (w1.drew.alloc (.cells #[.int .i64 v] 2)).heap.size (w1.drew.alloc (.cells #[.int .i64 v] 2)) w3) :
    Ord w3 w1 gA gZ uA vA uZ vZ w1.heap.size v a3 n c3 xs := by
  have hle : w1.heap.size ≤ (w1.drew.alloc (.cells #[.int .i64 v] 2)).heap.size := by rw [World.size_alloc]; exact Nat.le_succ _
  exact ⟨(one_reads w1.drew v w1.heap.size rfl).below hb, (A.drew.alloc _).below hb, (Z.drew.alloc _).below hb, (show Own w1.heap.size w3 a3 n c3 xs from ho.mono hle), below_go (show Below w1.heap.size w1.drew (w1.drew.alloc (.cells #[.int .i64 v] 2)) from below1 w1.drew _) hb hle⟩

set_option maxRecDepth 100000 in
set_option maxHeartbeats 1000000 in
theorem implAddStrand_any {s : Int} {a : Option Addr} {n cap : Nat} {xs : List Int} {g : Int} {w : World} {fs : Int} {fxs : List Int} {fc : Int} (hr : Reads w a n xs) (hf : Fits xs) (hn : n ≤ 1048576) (_hx : (Lit.int .i64 g).wf = true) (hM : mAdd s xs g = (fs, fxs, fc)) :
    Calls Try.prog 35 #[.agg #[.int .i64 s, .slice a n cap], .int .i64 g] w (RetBraid w fs fxs fc) := by
  have R := Lib.hid hr; clear hr
  have HF := Lib.hid hf; clear hf
  have HL := Lib.hid R.out.len
  by_cases hbr : isBraid s xs = true
  · have g1 := lo_of_isBraid _ _ hbr
    have g2 := hi_of_isBraid _ _ hbr
    have g3 := len_of_isBraid _ _ hbr
    have hnn : n ≤ 200 := by have := HL.out; omega
    by_cases hg : g = 1 ∨ g = -1
    · by_cases hq : s = 8 ∨ xs.length = 200
      · simp only [mAdd, if_pos hbr, if_pos hg, if_pos hq, Prod.mk.injEq] at hM
        obtain ⟨rfl, rfl, rfl⟩ := hM
        have hq2 : Hid (¬ ((s == 8) = false ∧ (((n : Nat) : Int) == 200) = false)) := Lib.hid (by
          have h2 : s = 8 ∨ n = 200 := by have := HL.out; omega
          rintro ⟨e1, e2⟩
          have e1' := beq_eq_false_iff_ne.1 e1
          have e2' := beq_eq_false_iff_ne.1 e2
          omega)
        clear hq g3
        have h3 : ((s == 8) = true ∧ (((n : Nat) : Int) == 200) = true) ∨ ((s == 8) = true ∧ (((n : Nat) : Int) == 200) = false) ∨ ((s == 8) = false ∧ (((n : Nat) : Int) == 200) = true) := by
          have := hq2.out
          revert this
          cases (s == 8) <;> cases (((n : Nat) : Int) == 200) <;> simp
        clear hq2
        rcases h3 with ⟨e8, e200⟩ | ⟨e8, e200⟩ | ⟨e8, e200⟩
        all_goals
          rcases hg with rfl | rfl
          all_goals
            go_enter Try.func35, Try.ntmps35
            replace R := Lib.hid ((R.out.alloc (.cells #[.int .i64 s, .slice a n cap] 29)).alloc (.cells #[.int .i64 0, .slice none 0 0] 29))
            have A := Lib.hid ((At2.new w (.int .i64 s) (.slice a n cap) 29).alloc (.cells #[.int .i64 0, .slice none 0 0] 29))
            have Z := Lib.hid (At2.place (w.alloc (.cells #[.int .i64 s, .slice a n cap] 29)) (.int .i64 0) (.slice none 0 0) 29 (w.heap.size + 1) (by simp))
            have BB := Lib.hid (below2 w (.cells #[.int .i64 s, .slice a n cap] 29) (.cells #[.int .i64 0, .slice none 0 0] 29))
            obtain ⟨qA1, qA2, qA3, qA4, qA5⟩ := A.out
            go_wp2_with fail
            refine (implIsBraid_any s a n cap xs _ R.out hn).mono ?_
            rintro e w1 ⟨rfl, hb⟩
            clear qA1 qA2 qA3 qA4 qA5
            replace R := Lib.hid (R.out.below hb)
            replace A := Lib.hid (A.out.below hb)
            replace Z := Lib.hid (Z.out.below hb)
            replace BB := Lib.hid (below_go BB.out hb BB.out.size)
            clear hb
            obtain ⟨qA1, qA2, qA3, qA4, qA5⟩ := A.out
            obtain ⟨qZ1, qZ2, qZ3, qZ4, qZ5⟩ := Z.out
            go_wp2
            obtain ⟨_, e2, e3, _, _⟩ := Z.out.fill (.int .i64 0) (.slice none 0 0)
            refine bodyPost_ret (v := .tuple #[.agg #[.int .i64 0, .slice none 0 0], .int .i64 3]) (by simp [results, Try.results35, go_sem, e2, e3]) rfl ⟨none, 0, 0, rfl, Nat.zero_le _, Own.nil _ _, ?_⟩
            exact (BB.out.setCell (p := ⟨w.heap.size + 1, 0, none⟩) (by simp) _).setCell (p := ⟨w.heap.size + 1, 1, none⟩) (by simp) _
      · simp only [mAdd, if_pos hbr, if_pos hg, if_neg hq, Prod.mk.injEq] at hM
        obtain ⟨rfl, rfl, rfl⟩ := hM
        have h8 : ¬ s = 8 := fun h => hq (.inl h)
        have h200 : ¬ n = 200 := fun h => hq (.inr (by have := HL.out; omega))
        have e8 : (s == 8) = false := by simp [h8]
        have e200 : (((n : Nat) : Int) == 200) = false := by simp; omega
        have ws : IntKind.i64.wrap (s + 1) = s + 1 := IntWalk.i64_in _ (by omega)
        have HS8 : Hid (s < 8) := Lib.hid (by omega)
        clear hq g3 h8 h200
        have hgs : IntKind.i64.wrap (g * s) = g * s := IntWalk.i64_in _ (by rcases hg with rfl | rfl <;> omega)
        rcases hg with rfl | rfl
        · rw [Int.one_mul]
          rw [Int.one_mul] at hgs
          go_enter Try.func35, Try.ntmps35
          replace R := Lib.hid ((R.out.alloc (.cells #[.int .i64 s, .slice a n cap] 29)).alloc (.cells #[.int .i64 0, .slice none 0 0] 29))
          have A := Lib.hid ((At2.new w (.int .i64 s) (.slice a n cap) 29).alloc (.cells #[.int .i64 0, .slice none 0 0] 29))
          have Z := Lib.hid (At2.place (w.alloc (.cells #[.int .i64 s, .slice a n cap] 29)) (.int .i64 0) (.slice none 0 0) 29 (w.heap.size + 1) (by simp))
          have BB := Lib.hid (below2 w (.cells #[.int .i64 s, .slice a n cap] 29) (.cells #[.int .i64 0, .slice none 0 0] 29))
          obtain ⟨qA1, qA2, qA3, qA4, qA5⟩ := A.out
          go_wp2_with fail
          refine (implIsBraid_any s a n cap xs _ R.out hn).mono ?_
          rintro e w1 ⟨rfl, hb⟩
          clear qA1 qA2 qA3 qA4 qA5
          replace R := Lib.hid (R.out.below hb)
          replace A := Lib.hid (A.out.below hb)
          replace Z := Lib.hid (Z.out.below hb)
          replace BB := Lib.hid (below_go BB.out hb BB.out.size)
          clear hb
          obtain ⟨qA1, qA2, qA3, qA4, qA5⟩ := A.out
          go_wp2_with fail
          obtain ⟨gq, hgq⟩ : ∃ gq, gq = w1.heap.size := ⟨_, rfl⟩
          have R2 := Lib.hid (((R.out.alloc (.cells #[.int .i64 s] 2)).alloc (.cells #[.slice a n cap, .slice (some ⟨w1.heap.size, 0, none⟩) 1 1] 22)))
          have Q2 := Lib.hid ((one_reads w1 s w1.heap.size rfl).alloc (.cells #[.slice a n cap, .slice (some ⟨w1.heap.size, 0, none⟩) 1 1] 22))
          have D := At2.new (w1.alloc (.cells #[.int .i64 s] 2)) (.slice a n cap) (.slice (some ⟨w1.heap.size, 0, none⟩) 1 1) 22
          have hs1 : (w1.alloc (.cells #[.int .i64 s] 2)).heap.size = w1.heap.size + 1 := by simp
          rw [hs1] at D
          clear hs1
          refine (concat2_any (w1.heap.size + 1) a _ n 1 cap 1 xs [s] _ (by simp) D.2.1 D.2.2.1 R2.out Q2.out hn (by omega)).mono ?_
          rintro e w2 ⟨a2, c2, rfl, ho, hb⟩
          have hb := below_go (below2 w1 (.cells #[.int .i64 s] 2) (.cells #[.slice a n cap, .slice (some ⟨w1.heap.size, 0, none⟩) 1 1] 22)) hb (by simp; omega)
          have O2 : Hid (Own (w.heap.size + 1 + 1) w2 a2 (n + 1) c2 (xs ++ [s])) := Lib.hid (ho.mono (by have := Z.out.1; simp; omega))
          clear ho D R2 Q2 hgq
          clear qA1 qA2 qA3 qA4 qA5
          replace R := Lib.hid (R.out.below hb)
          replace A := Lib.hid (A.out.below hb)
          replace Z := Lib.hid (Z.out.below hb)
          replace BB := Lib.hid (below_go BB.out hb BB.out.size)
          clear hb
          obtain ⟨qA1, qA2, qA3, qA4, qA5⟩ := A.out
          obtain ⟨qZ1, qZ2, qZ3, qZ4, qZ5⟩ := Z.out
          go_wp2
          obtain ⟨_, e2, e3, _, _⟩ := Z.out.fill (.int .i64 (s + 1)) (.slice a2 (n + 1) c2)
          refine bodyPost_ret (v := .tuple #[.agg #[.int .i64 (s + 1), .slice a2 (n + 1) c2], .int .i64 0]) (by simp [results, Try.results35, go_sem, e2, e3]) rfl ⟨a2, (n + 1), c2, rfl, by omega, ?_, ?_⟩
          · exact ((O2.out.setCell_below (by simp) _).setCell_below (by simp) _).mono (by omega)
          · exact (BB.out.setCell (p := ⟨w.heap.size + 1, 0, none⟩) (by simp) _).setCell (p := ⟨w.heap.size + 1, 1, none⟩) (by simp) _
        · rw [show (-1 : Int) * s = -s by omega] at hgs ⊢
          go_enter Try.func35, Try.ntmps35
          replace R := Lib.hid ((R.out.alloc (.cells #[.int .i64 s, .slice a n cap] 29)).alloc (.cells #[.int .i64 0, .slice none 0 0] 29))
          have A := Lib.hid ((At2.new w (.int .i64 s) (.slice a n cap) 29).alloc (.cells #[.int .i64 0, .slice none 0 0] 29))
          have Z := Lib.hid (At2.place (w.alloc (.cells #[.int .i64 s, .slice a n cap] 29)) (.int .i64 0) (.slice none 0 0) 29 (w.heap.size + 1) (by simp))
          have BB := Lib.hid (below2 w (.cells #[.int .i64 s, .slice a n cap] 29) (.cells #[.int .i64 0, .slice none 0 0] 29))
          obtain ⟨qA1, qA2, qA3, qA4, qA5⟩ := A.out
          go_wp2_with fail
          refine (implIsBraid_any s a n cap xs _ R.out hn).mono ?_
          rintro e w1 ⟨rfl, hb⟩
          clear qA1 qA2 qA3 qA4 qA5
          replace R := Lib.hid (R.out.below hb)
          replace A := Lib.hid (A.out.below hb)
          replace Z := Lib.hid (Z.out.below hb)
          replace BB := Lib.hid (below_go BB.out hb BB.out.size)
          clear hb
          obtain ⟨qA1, qA2, qA3, qA4, qA5⟩ := A.out
          go_wp2_with fail
          obtain ⟨gq, hgq⟩ : ∃ gq, gq = w1.heap.size := ⟨_, rfl⟩
          have R2 := Lib.hid (((R.out.alloc (.cells #[.int .i64 (-s)] 2)).alloc (.cells #[.slice a n cap, .slice (some ⟨w1.heap.size, 0, none⟩) 1 1] 22)))
          have Q2 := Lib.hid ((one_reads w1 (-s) w1.heap.size rfl).alloc (.cells #[.slice a n cap, .slice (some ⟨w1.heap.size, 0, none⟩) 1 1] 22))
          have D := At2.new (w1.alloc (.cells #[.int .i64 (-s)] 2)) (.slice a n cap) (.slice (some ⟨w1.heap.size, 0, none⟩) 1 1) 22
          have hs1 : (w1.alloc (.cells #[.int .i64 (-s)] 2)).heap.size = w1.heap.size + 1 := by simp
          rw [hs1] at D
          clear hs1
          refine (concat2_any (w1.heap.size + 1) a _ n 1 cap 1 xs [(-s)] _ (by simp) D.2.1 D.2.2.1 R2.out Q2.out hn (by omega)).mono ?_
          rintro e w2 ⟨a2, c2, rfl, ho, hb⟩
          have hb := below_go (below2 w1 (.cells #[.int .i64 (-s)] 2) (.cells #[.slice a n cap, .slice (some ⟨w1.heap.size, 0, none⟩) 1 1] 22)) hb (by simp; omega)
          have O2 : Hid (Own (w.heap.size + 1 + 1) w2 a2 (n + 1) c2 (xs ++ [(-s)])) := Lib.hid (ho.mono (by have := Z.out.1; simp; omega))
          clear ho D R2 Q2 hgq
          clear qA1 qA2 qA3 qA4 qA5
          replace R := Lib.hid (R.out.below hb)
          replace A := Lib.hid (A.out.below hb)
          replace Z := Lib.hid (Z.out.below hb)
          replace BB := Lib.hid (below_go BB.out hb BB.out.size)
          clear hb
          obtain ⟨qA1, qA2, qA3, qA4, qA5⟩ := A.out
          obtain ⟨qZ1, qZ2, qZ3, qZ4, qZ5⟩ := Z.out
          go_wp2
          obtain ⟨_, e2, e3, _, _⟩ := Z.out.fill (.int .i64 (s + 1)) (.slice a2 (n + 1) c2)
          refine bodyPost_ret (v := .tuple #[.agg #[.int .i64 (s + 1), .slice a2 (n + 1) c2], .int .i64 0]) (by simp [results, Try.results35, go_sem, e2, e3]) rfl ⟨a2, (n + 1), c2, rfl, by omega, ?_, ?_⟩
          · exact ((O2.out.setCell_below (by simp) _).setCell_below (by simp) _).mono (by omega)
          · exact (BB.out.setCell (p := ⟨w.heap.size + 1, 0, none⟩) (by simp) _).setCell (p := ⟨w.heap.size + 1, 1, none⟩) (by simp) _
    · simp only [mAdd, if_pos hbr, if_neg hg, Prod.mk.injEq] at hM
      obtain ⟨rfl, rfl, rfl⟩ := hM
      have e1 : (g != 1) = true := by simp; omega
      have e2' : (g != -1) = true := by simp; omega
      clear hg g3
      go_enter Try.func35, Try.ntmps35
      replace R := Lib.hid ((R.out.alloc (.cells #[.int .i64 s, .slice a n cap] 29)).alloc (.cells #[.int .i64 0, .slice none 0 0] 29))
      have A := Lib.hid ((At2.new w (.int .i64 s) (.slice a n cap) 29).alloc (.cells #[.int .i64 0, .slice none 0 0] 29))
      have Z := Lib.hid (At2.place (w.alloc (.cells #[.int .i64 s, .slice a n cap] 29)) (.int .i64 0) (.slice none 0 0) 29 (w.heap.size + 1) (by simp))
      have BB := Lib.hid (below2 w (.cells #[.int .i64 s, .slice a n cap] 29) (.cells #[.int .i64 0, .slice none 0 0] 29))
      obtain ⟨qA1, qA2, qA3, qA4, qA5⟩ := A.out
      go_wp2_with fail
      refine (implIsBraid_any s a n cap xs _ R.out hn).mono ?_
      rintro e w1 ⟨rfl, hb⟩
      clear qA1 qA2 qA3 qA4 qA5
      replace R := Lib.hid (R.out.below hb)
      replace A := Lib.hid (A.out.below hb)
      replace Z := Lib.hid (Z.out.below hb)
      replace BB := Lib.hid (below_go BB.out hb BB.out.size)
      clear hb
      obtain ⟨qA1, qA2, qA3, qA4, qA5⟩ := A.out
      obtain ⟨qZ1, qZ2, qZ3, qZ4, qZ5⟩ := Z.out
      go_wp2
      obtain ⟨_, e2, e3, _, _⟩ := Z.out.fill (.int .i64 0) (.slice none 0 0)
      refine bodyPost_ret (v := .tuple #[.agg #[.int .i64 0, .slice none 0 0], .int .i64 2]) (by simp [results, Try.results35, go_sem, e2, e3]) rfl ⟨none, 0, 0, rfl, Nat.zero_le _, Own.nil _ _, ?_⟩
      exact (BB.out.setCell (p := ⟨w.heap.size + 1, 0, none⟩) (by simp) _).setCell (p := ⟨w.heap.size + 1, 1, none⟩) (by simp) _
  · have hb0 : isBraid s xs = false := by simpa using hbr
    simp only [mAdd, if_neg hbr, Prod.mk.injEq] at hM
    obtain ⟨rfl, rfl, rfl⟩ := hM
    clear hbr
    go_enter Try.func35, Try.ntmps35
    replace R := Lib.hid ((R.out.alloc (.cells #[.int .i64 s, .slice a n cap] 29)).alloc (.cells #[.int .i64 0, .slice none 0 0] 29))
    have A := Lib.hid ((At2.new w (.int .i64 s) (.slice a n cap) 29).alloc (.cells #[.int .i64 0, .slice none 0 0] 29))
    have Z := Lib.hid (At2.place (w.alloc (.cells #[.int .i64 s, .slice a n cap] 29)) (.int .i64 0) (.slice none 0 0) 29 (w.heap.size + 1) (by simp))
    have BB := Lib.hid (below2 w (.cells #[.int .i64 s, .slice a n cap] 29) (.cells #[.int .i64 0, .slice none 0 0] 29))
    obtain ⟨qA1, qA2, qA3, qA4, qA5⟩ := A.out
    go_wp2_with fail
    refine (implIsBraid_any s a n cap xs _ R.out hn).mono ?_
    rintro e w1 ⟨rfl, hb⟩
    clear qA1 qA2 qA3 qA4 qA5
    replace R := Lib.hid (R.out.below hb)
    replace A := Lib.hid (A.out.below hb)
    replace Z := Lib.hid (Z.out.below hb)
    replace BB := Lib.hid (below_go BB.out hb BB.out.size)
    clear hb
    obtain ⟨qA1, qA2, qA3, qA4, qA5⟩ := A.out
    obtain ⟨qZ1, qZ2, qZ3, qZ4, qZ5⟩ := Z.out
    go_wp2
    obtain ⟨_, e2, e3, _, _⟩ := Z.out.fill (.int .i64 0) (.slice none 0 0)
    refine bodyPost_ret (v := .tuple #[.agg #[.int .i64 0, .slice none 0 0], .int .i64 1]) (by simp [results, Try.results35, go_sem, e2, e3]) rfl ⟨none, 0, 0, rfl, Nat.zero_le _, Own.nil _ _, ?_⟩
    exact (BB.out.setCell (p := ⟨w.heap.size + 1, 0, none⟩) (by simp) _).setCell (p := ⟨w.heap.size + 1, 1, none⟩) (by simp) _

set_option maxRecDepth 100000 in
set_option maxHeartbeats 1000000 in
theorem specAddStrand_any {s : Int} {a : Option Addr} {n cap : Nat} {xs : List Int} {g : Int} {w : World} {fs : Int} {fxs : List Int} {fc : Int} (hr : Reads w a n xs) (hf : Fits xs) (hn : n ≤ 1048576) (_hx : (Lit.int .i64 g).wf = true) (hM : mAdd s xs g = (fs, fxs, fc)) :
    Calls Try.prog 34 #[.agg #[.int .i64 s, .slice a n cap], .int .i64 g] w (RetBraid w fs fxs fc) := by
  have R := Lib.hid hr; clear hr
  have HF := Lib.hid hf; clear hf
  have HL := Lib.hid R.out.len
  by_cases hbr : isBraid s xs = true
  · have g1 := lo_of_isBraid _ _ hbr
    have g2 := hi_of_isBraid _ _ hbr
    have g3 := len_of_isBraid _ _ hbr
    have hnn : n ≤ 200 := by have := HL.out; omega
    by_cases hg : g = 1 ∨ g = -1
    · by_cases hq : s = 8 ∨ xs.length = 200
      · simp only [mAdd, if_pos hbr, if_pos hg, if_pos hq, Prod.mk.injEq] at hM
        obtain ⟨rfl, rfl, rfl⟩ := hM
        have hq2 : Hid (¬ ((s == 8) = false ∧ (((n : Nat) : Int) == 200) = false)) := Lib.hid (by
          have h2 : s = 8 ∨ n = 200 := by have := HL.out; omega
          rintro ⟨e1, e2⟩
          have e1' := beq_eq_false_iff_ne.1 e1
          have e2' := beq_eq_false_iff_ne.1 e2
          omega)
        clear hq g3
        have h3 : ((s == 8) = true ∧ (((n : Nat) : Int) == 200) = true) ∨ ((s == 8) = true ∧ (((n : Nat) : Int) == 200) = false) ∨ ((s == 8) = false ∧ (((n : Nat) : Int) == 200) = true) := by
          have := hq2.out
          revert this
          cases (s == 8) <;> cases (((n : Nat) : Int) == 200) <;> simp
        clear hq2
        rcases h3 with ⟨e8, e200⟩ | ⟨e8, e200⟩ | ⟨e8, e200⟩
        all_goals
          rcases hg with rfl | rfl
          all_goals
            go_enter Try.func34, Try.ntmps34
            replace R := Lib.hid ((R.out.alloc (.cells #[.int .i64 s, .slice a n cap] 29)).alloc (.cells #[.int .i64 0, .slice none 0 0] 29))
            have A := Lib.hid ((At2.new w (.int .i64 s) (.slice a n cap) 29).alloc (.cells #[.int .i64 0, .slice none 0 0] 29))
            have Z := Lib.hid (At2.place (w.alloc (.cells #[.int .i64 s, .slice a n cap] 29)) (.int .i64 0) (.slice none 0 0) 29 (w.heap.size + 1) (by simp))
            have BB := Lib.hid (below2 w (.cells #[.int .i64 s, .slice a n cap] 29) (.cells #[.int .i64 0, .slice none 0 0] 29))
            obtain ⟨qA1, qA2, qA3, qA4, qA5⟩ := A.out
            go_wp2_with fail
            refine (l01Is_any s a n cap xs _ R.out HF.out hn).mono ?_
            rintro e w1 ⟨rfl, hb⟩
            clear qA1 qA2 qA3 qA4 qA5
            replace R := Lib.hid (R.out.below hb)
            replace A := Lib.hid (A.out.below hb)
            replace Z := Lib.hid (Z.out.below hb)
            replace BB := Lib.hid (below_go BB.out hb BB.out.size)
            clear hb
            obtain ⟨qA1, qA2, qA3, qA4, qA5⟩ := A.out
            obtain ⟨qZ1, qZ2, qZ3, qZ4, qZ5⟩ := Z.out
            go_wp2
            obtain ⟨_, e2, e3, _, _⟩ := Z.out.fill (.int .i64 0) (.slice none 0 0)
            refine bodyPost_ret (v := .tuple #[.agg #[.int .i64 0, .slice none 0 0], .int .i64 3]) (by simp [results, Try.results34, go_sem, e2, e3]) rfl ⟨none, 0, 0, rfl, Nat.zero_le _, Own.nil _ _, ?_⟩
            exact (BB.out.setCell (p := ⟨w.heap.size + 1, 0, none⟩) (by simp) _).setCell (p := ⟨w.heap.size + 1, 1, none⟩) (by simp) _
      · simp only [mAdd, if_pos hbr, if_pos hg, if_neg hq, Prod.mk.injEq] at hM
        obtain ⟨rfl, rfl, rfl⟩ := hM
        have h8 : ¬ s = 8 := fun h => hq (.inl h)
        have h200 : ¬ n = 200 := fun h => hq (.inr (by have := HL.out; omega))
        have e8 : (s == 8) = false := by simp [h8]
        have e200 : (((n : Nat) : Int) == 200) = false := by simp; omega
        have ws : IntKind.i64.wrap (s + 1) = s + 1 := IntWalk.i64_in _ (by omega)
        have HS8 : Hid (s < 8) := Lib.hid (by omega)
        clear hq g3 h8 h200
        have hgs : IntKind.i64.wrap (g * s) = g * s := IntWalk.i64_in _ (by rcases hg with rfl | rfl <;> omega)
        rcases hg with rfl | rfl
        · rw [Int.one_mul]
          rw [Int.one_mul] at hgs
          obtain ⟨i0, hi, hz0, hz1, hz2⟩ := info_parts infoInt
          go_enter Try.func34, Try.ntmps34
          replace R := Lib.hid ((R.out.alloc (.cells #[.int .i64 s, .slice a n cap] 29)).alloc (.cells #[.int .i64 0, .slice none 0 0] 29))
          have A := Lib.hid ((At2.new w (.int .i64 s) (.slice a n cap) 29).alloc (.cells #[.int .i64 0, .slice none 0 0] 29))
          have Z := Lib.hid (At2.place (w.alloc (.cells #[.int .i64 s, .slice a n cap] 29)) (.int .i64 0) (.slice none 0 0) 29 (w.heap.size + 1) (by simp))
          have BB := Lib.hid (below2 w (.cells #[.int .i64 s, .slice a n cap] 29) (.cells #[.int .i64 0, .slice none 0 0] 29))
          obtain ⟨qA1, qA2, qA3, qA4, qA5⟩ := A.out
          go_wp2_with fail
          refine (l01Is_any s a n cap xs _ R.out HF.out hn).mono ?_
          rintro e w1 ⟨rfl, hb⟩
          clear qA1 qA2 qA3 qA4 qA5
          replace R := Lib.hid (R.out.below hb)
          replace A := Lib.hid (A.out.below hb)
          replace Z := Lib.hid (Z.out.below hb)
          replace BB := Lib.hid (below_go BB.out hb BB.out.size)
          clear hb
          obtain ⟨qA1, qA2, qA3, qA4, qA5⟩ := A.out
          obtain ⟨qZ1, qZ2, qZ3, qZ4, qZ5⟩ := Z.out
          have zq := Z.out.1
          go_wp2
          go_region_held3 (fun w' => w'.cell? ⟨w.heap.size, 0, none⟩ = some (.int .i64 s) ∧ w'.cell? ⟨w.heap.size, 1, none⟩ = some (.slice a n cap)) (first | with_reducible exact ⟨qA2, qA3⟩ | with_reducible exact ⟨rA2, rA3⟩ | with_reducible exact ⟨uA2, uA3⟩ | with_reducible exact ⟨xA2, xA3⟩ | go_keep)
            (first
              | (go_at_call 69; refine (l01Own_any a n cap xs _ R.out.drew hn).mono ?_; rintro e w3 ⟨a3, c3, rfl, ho, hb⟩; obtain ⟨rA1, rA2, rA3, rA4, rA5⟩ := A.out.drew.below hb; obtain ⟨hR3, hA3, hZ3, hO3, hB3⟩ := ord1 s A.out Z.out ho hb; obtain ⟨uA1, uA2, uA3, uA4, uA5⟩ := hA3)
              | (go_at_call 69; refine (l01Own_any a n cap xs _ (R.out.drew.alloc _) hn).mono ?_; rintro e w3 ⟨a3, c3, rfl, ho, hb⟩; obtain ⟨hR3, hA3, hZ3, hO3, hB3⟩ := ord2 s A.out Z.out ho hb; obtain ⟨uA1, uA2, uA3, uA4, uA5⟩ := hA3)
              | (refine step_append_ints rfl _ _ 22 rfl w1.heap.size i0 Try.underlying22 hi hz0 hz1 hz2 _ _ _ rfl hO3 _ _ _ [s] rfl hR3 (by omega) (by exact hB3.size) ?_; intro a4 c4 w4 ho4 hg4; have hb4 := below_appended5 hB3 (by exact hB3.size) hO3 hg4; have hA4 := A.out.drew.below hb4; have HZ4 := Lib.hid (Z.out.drew.below hb4); have HO4 := Lib.hid ho4; have HB4 := Lib.hid (below_go BB.out.drew hb4 (by show _ ≤ w1.heap.size; omega)); obtain ⟨xA1, xA2, xA3, xA4, xA5⟩ := hA4; obtain ⟨xZ1, xZ2, xZ3, xZ4, xZ5⟩ := HZ4.out))
          all_goals
            go_wp2
            obtain ⟨_, e2, e3, _, _⟩ := HZ4.out.fill (.int .i64 (s + 1)) (.slice a4 (n + 1) c4)
            refine bodyPost_ret (v := .tuple #[.agg #[.int .i64 (s + 1), .slice a4 (n + 1) c4], .int .i64 0]) (by simp [results, Try.results34, go_sem, e2, e3]) rfl ⟨a4, n + 1, c4, rfl, by omega, ?_, ?_⟩
            · exact ((HO4.out.setCell_below (by omega) _).setCell_below (by omega) _).mono (by omega)
            · exact (HB4.out.setCell (p := ⟨w.heap.size + 1, 0, none⟩) (by simp) _).setCell (p := ⟨w.heap.size + 1, 1, none⟩) (by simp) _
        · rw [show (-1 : Int) * s = -s by omega] at hgs ⊢
          obtain ⟨i0, hi, hz0, hz1, hz2⟩ := info_parts infoInt
          go_enter Try.func34, Try.ntmps34
          replace R := Lib.hid ((R.out.alloc (.cells #[.int .i64 s, .slice a n cap] 29)).alloc (.cells #[.int .i64 0, .slice none 0 0] 29))
          have A := Lib.hid ((At2.new w (.int .i64 s) (.slice a n cap) 29).alloc (.cells #[.int .i64 0, .slice none 0 0] 29))
          have Z := Lib.hid (At2.place (w.alloc (.cells #[.int .i64 s, .slice a n cap] 29)) (.int .i64 0) (.slice none 0 0) 29 (w.heap.size + 1) (by simp))
          have BB := Lib.hid (below2 w (.cells #[.int .i64 s, .slice a n cap] 29) (.cells #[.int .i64 0, .slice none 0 0] 29))
          obtain ⟨qA1, qA2, qA3, qA4, qA5⟩ := A.out
          go_wp2_with fail
          refine (l01Is_any s a n cap xs _ R.out HF.out hn).mono ?_
          rintro e w1 ⟨rfl, hb⟩
          clear qA1 qA2 qA3 qA4 qA5
          replace R := Lib.hid (R.out.below hb)
          replace A := Lib.hid (A.out.below hb)
          replace Z := Lib.hid (Z.out.below hb)
          replace BB := Lib.hid (below_go BB.out hb BB.out.size)
          clear hb
          obtain ⟨qA1, qA2, qA3, qA4, qA5⟩ := A.out
          obtain ⟨qZ1, qZ2, qZ3, qZ4, qZ5⟩ := Z.out
          have zq := Z.out.1
          go_wp2
          go_region_held3 (fun w' => w'.cell? ⟨w.heap.size, 0, none⟩ = some (.int .i64 s) ∧ w'.cell? ⟨w.heap.size, 1, none⟩ = some (.slice a n cap)) (first | with_reducible exact ⟨qA2, qA3⟩ | with_reducible exact ⟨rA2, rA3⟩ | with_reducible exact ⟨uA2, uA3⟩ | with_reducible exact ⟨xA2, xA3⟩ | go_keep)
            (first
              | (go_at_call 69; refine (l01Own_any a n cap xs _ R.out.drew hn).mono ?_; rintro e w3 ⟨a3, c3, rfl, ho, hb⟩; obtain ⟨rA1, rA2, rA3, rA4, rA5⟩ := A.out.drew.below hb; obtain ⟨hR3, hA3, hZ3, hO3, hB3⟩ := ord1 (-s) A.out Z.out ho hb; obtain ⟨uA1, uA2, uA3, uA4, uA5⟩ := hA3)
              | (go_at_call 69; refine (l01Own_any a n cap xs _ (R.out.drew.alloc _) hn).mono ?_; rintro e w3 ⟨a3, c3, rfl, ho, hb⟩; obtain ⟨hR3, hA3, hZ3, hO3, hB3⟩ := ord2 (-s) A.out Z.out ho hb; obtain ⟨uA1, uA2, uA3, uA4, uA5⟩ := hA3)
              | (refine step_append_ints rfl _ _ 22 rfl w1.heap.size i0 Try.underlying22 hi hz0 hz1 hz2 _ _ _ rfl hO3 _ _ _ [(-s)] rfl hR3 (by omega) (by exact hB3.size) ?_; intro a4 c4 w4 ho4 hg4; have hb4 := below_appended5 hB3 (by exact hB3.size) hO3 hg4; have hA4 := A.out.drew.below hb4; have HZ4 := Lib.hid (Z.out.drew.below hb4); have HO4 := Lib.hid ho4; have HB4 := Lib.hid (below_go BB.out.drew hb4 (by show _ ≤ w1.heap.size; omega)); obtain ⟨xA1, xA2, xA3, xA4, xA5⟩ := hA4; obtain ⟨xZ1, xZ2, xZ3, xZ4, xZ5⟩ := HZ4.out))
          all_goals
            go_wp2
            obtain ⟨_, e2, e3, _, _⟩ := HZ4.out.fill (.int .i64 (s + 1)) (.slice a4 (n + 1) c4)
            refine bodyPost_ret (v := .tuple #[.agg #[.int .i64 (s + 1), .slice a4 (n + 1) c4], .int .i64 0]) (by simp [results, Try.results34, go_sem, e2, e3]) rfl ⟨a4, n + 1, c4, rfl, by omega, ?_, ?_⟩
            · exact ((HO4.out.setCell_below (by omega) _).setCell_below (by omega) _).mono (by omega)
            · exact (HB4.out.setCell (p := ⟨w.heap.size + 1, 0, none⟩) (by simp) _).setCell (p := ⟨w.heap.size + 1, 1, none⟩) (by simp) _
    · simp only [mAdd, if_pos hbr, if_neg hg, Prod.mk.injEq] at hM
      obtain ⟨rfl, rfl, rfl⟩ := hM
      have e1 : (g != 1) = true := by simp; omega
      have e2' : (g != -1) = true := by simp; omega
      clear hg g3
      go_enter Try.func34, Try.ntmps34
      replace R := Lib.hid ((R.out.alloc (.cells #[.int .i64 s, .slice a n cap] 29)).alloc (.cells #[.int .i64 0, .slice none 0 0] 29))
      have A := Lib.hid ((At2.new w (.int .i64 s) (.slice a n cap) 29).alloc (.cells #[.int .i64 0, .slice none 0 0] 29))
      have Z := Lib.hid (At2.place (w.alloc (.cells #[.int .i64 s, .slice a n cap] 29)) (.int .i64 0) (.slice none 0 0) 29 (w.heap.size + 1) (by simp))
      have BB := Lib.hid (below2 w (.cells #[.int .i64 s, .slice a n cap] 29) (.cells #[.int .i64 0, .slice none 0 0] 29))
      obtain ⟨qA1, qA2, qA3, qA4, qA5⟩ := A.out
      go_wp2_with fail
      refine (l01Is_any s a n cap xs _ R.out HF.out hn).mono ?_
      rintro e w1 ⟨rfl, hb⟩
      clear qA1 qA2 qA3 qA4 qA5
      replace R := Lib.hid (R.out.below hb)
      replace A := Lib.hid (A.out.below hb)
      replace Z := Lib.hid (Z.out.below hb)
      replace BB := Lib.hid (below_go BB.out hb BB.out.size)
      clear hb
      obtain ⟨qA1, qA2, qA3, qA4, qA5⟩ := A.out
      obtain ⟨qZ1, qZ2, qZ3, qZ4, qZ5⟩ := Z.out
      go_wp2
      obtain ⟨_, e2, e3, _, _⟩ := Z.out.fill (.int .i64 0) (.slice none 0 0)
      refine bodyPost_ret (v := .tuple #[.agg #[.int .i64 0, .slice none 0 0], .int .i64 2]) (by simp [results, Try.results34, go_sem, e2, e3]) rfl ⟨none, 0, 0, rfl, Nat.zero_le _, Own.nil _ _, ?_⟩
      exact (BB.out.setCell (p := ⟨w.heap.size + 1, 0, none⟩) (by simp) _).setCell (p := ⟨w.heap.size + 1, 1, none⟩) (by simp) _
  · have hb0 : isBraid s xs = false := by simpa using hbr
    simp only [mAdd, if_neg hbr, Prod.mk.injEq] at hM
    obtain ⟨rfl, rfl, rfl⟩ := hM
    clear hbr
    go_enter Try.func34, Try.ntmps34
    replace R := Lib.hid ((R.out.alloc (.cells #[.int .i64 s, .slice a n cap] 29)).alloc (.cells #[.int .i64 0, .slice none 0 0] 29))
    have A := Lib.hid ((At2.new w (.int .i64 s) (.slice a n cap) 29).alloc (.cells #[.int .i64 0, .slice none 0 0] 29))
    have Z := Lib.hid (At2.place (w.alloc (.cells #[.int .i64 s, .slice a n cap] 29)) (.int .i64 0) (.slice none 0 0) 29 (w.heap.size + 1) (by simp))
    have BB := Lib.hid (below2 w (.cells #[.int .i64 s, .slice a n cap] 29) (.cells #[.int .i64 0, .slice none 0 0] 29))
    obtain ⟨qA1, qA2, qA3, qA4, qA5⟩ := A.out
    go_wp2_with fail
    refine (l01Is_any s a n cap xs _ R.out HF.out hn).mono ?_
    rintro e w1 ⟨rfl, hb⟩
    clear qA1 qA2 qA3 qA4 qA5
    replace R := Lib.hid (R.out.below hb)
    replace A := Lib.hid (A.out.below hb)
    replace Z := Lib.hid (Z.out.below hb)
    replace BB := Lib.hid (below_go BB.out hb BB.out.size)
    clear hb
    obtain ⟨qA1, qA2, qA3, qA4, qA5⟩ := A.out
    obtain ⟨qZ1, qZ2, qZ3, qZ4, qZ5⟩ := Z.out
    go_wp2
    obtain ⟨_, e2, e3, _, _⟩ := Z.out.fill (.int .i64 0) (.slice none 0 0)
    refine bodyPost_ret (v := .tuple #[.agg #[.int .i64 0, .slice none 0 0], .int .i64 1]) (by simp [results, Try.results34, go_sem, e2, e3]) rfl ⟨none, 0, 0, rfl, Nat.zero_le _, Own.nil _ _, ?_⟩
    exact (BB.out.setCell (p := ⟨w.heap.size + 1, 0, none⟩) (by simp) _).setCell (p := ⟨w.heap.size + 1, 1, none⟩) (by simp) _

end Go.Proofs.Ytehcbamfendbaaa
