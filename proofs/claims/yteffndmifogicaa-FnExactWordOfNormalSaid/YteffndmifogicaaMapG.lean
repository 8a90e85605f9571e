/- WordOfSimple: the program. -/
import Derived.Test.YteffndmifogicaaMD
import Derived.Test.YteffndmifogicaaMC
namespace Go.Proofs.Yteffndmifogicaa
open Go.RowKit Go.ChangeShapes
open Go.ChangeMaps (setBlock)

/-- What a function that hands back a slice of numbers gives. -/
def RetNums (w : World) (xs : List Int) (e : Ending) (w' : World) : Prop :=
  ∃ a n cap, e = .returned (.slice a n cap) ∧ n ≤ 1048576 ∧ Own w.heap.size w' a n cap xs ∧ Below w.heap.size w w'

set_option maxRecDepth 100000 in
set_option maxHeartbeats 1000000 in
theorem word_any (n : Nat) (a : List Int) (sa : Sim n a) (w : World) :
    Calls Try.prog 53 #[arr8 .u8 a, .int .i64 n] w (RetNums w (takeR n [a])) := by
  have la := sa.len
  have SA := Lib.hid sa
  have h1 := sa.lo
  have h8 := sa.hi
  clear sa
  have LA := Lib.hid la
  go_enter Try.func53, Try.ntmps53
  have RA := Lib.hid (Row8.place w .u8 a 77 w.heap.size rfl la)
  have BB := Lib.hid (below1 w (.cells #[.int .u8 (at8 a 0), .int .u8 (at8 a 1), .int .u8 (at8 a 2), .int .u8 (at8 a 3), .int .u8 (at8 a 4), .int .u8 (at8 a 5), .int .u8 (at8 a 6), .int .u8 (at8 a 7)] 77))
  clear la
  go_upto_region 1 with fail
  obtain ⟨w2, hw2⟩ : ∃ W, W = w.alloc (.cells #[.int .u8 (at8 a 0), .int .u8 (at8 a 1), .int .u8 (at8 a 2), .int .u8 (at8 a 3), .int .u8 (at8 a 4), .int .u8 (at8 a 5), .int .u8 (at8 a 6), .int .u8 (at8 a 7)] 77) := ⟨_, rfl⟩
  have ra := RA.out
  have bb := BB.out
  rw [← hw2] at ra bb ⊢
  clear RA BB hw2
  have RA := Lib.hid ra
  have BB := Lib.hid bb
  clear ra bb
  have zb := BB.out.size
  have RM := Lib.hid (RA.out.alloc (.map #[] 0))
  obtain ⟨⟨q0, q1, q2, q3⟩, q4, q5, q6, q7⟩ := RM.out.all
  have M0 : MapA (w2.alloc (.map #[] 0)) w2.heap.size [] := by unfold MapA; exact Array.getElem?_push_size
  have hu : (Instr.mapUpdate 110 (.map (some w2.heap.size)) (.agg #[.int .u8 (at8 a 0), .int .u8 (at8 a 1), .int .u8 (at8 a 2), .int .u8 (at8 a 3), .int .u8 (at8 a 4), .int .u8 (at8 a 5), .int .u8 (at8 a 6), .int .u8 (at8 a 7)]) (.agg #[.int .u8 (at8 a 0), .int .u8 (at8 a 1), .int .u8 (at8 a 2), .int .u8 (at8 a 3), .int .u8 (at8 a 4), .int .u8 (at8 a 5), .int .u8 (at8 a 6), .int .u8 (at8 a 7)])).run Try.prog (w2.alloc (.map #[] 0)) = .ok () (setBlock (w2.alloc (.map #[] 0)) w2.heap.size (.map (entsF 0 [(a, a)]).toArray 1)) := run_update_new M0 (fun x hx => absurd hx List.not_mem_nil) a a LA.out rfl
  have M1 : Hid (MapA (setBlock (w2.alloc (.map #[] 0)) w2.heap.size (.map (entsF 0 [(a, a)]).toArray 1)) w2.heap.size [(a, a)]) := Lib.hid (setBlock_same _ M0.lt)
  have B1 : Hid (Below w2.heap.size w2 (setBlock (w2.alloc (.map #[] 0)) w2.heap.size (.map (entsF 0 [(a, a)]).toArray 1))) := Lib.hid (by
    have h := (below_wrote (lo := w2.heap.size) (hi := w2.heap.size + 1) ((Below.refl w2.heap.size w2).alloc (Nat.le_refl _) (.map #[] 0))).trans (setBlock_wrote (w2.alloc (.map #[] 0)) w2.heap.size (.map (entsF 0 [(a, a)]).toArray 1))
    exact ⟨h.os, h.tape, h.output, h.size, fun j hj => h.block j hj (.inl hj)⟩)
  have RS : Hid (Rests n w2.heap.size [(a, a)] [a] []) := Lib.hid ⟨fun x hx => by rw [List.mem_singleton.1 hx]; exact LA.out, fun i j x y hx hy _ => by
      have h1 := (List.getElem?_eq_some_iff.1 hx).1
      have h2 := (List.getElem?_eq_some_iff.1 hy).1
      simp at h1 h2
      omega, fun u hu => by rw [List.mem_singleton.1 hu]; exact SA.out, by simp, rfl, fun u us h => by cases h; have := far_le SA.out; simpa using this⟩
  clear M0
  have hmk : (Instr.makeMap 110 none).run Try.prog w2 = .ok (.map (some w2.heap.size)) (w2.alloc (.map #[] 0)) := run_makeMap _ _
  go_wp2_with fail
  refine (takeAll_any n h1 h8 _ _ _ M1.out RS.out).mono ?_
  rintro e w9 ⟨a1, m1, c1, rfl, hm1, ho, hw⟩
  have HO := Lib.hid ho
  have HW := Lib.hid hw
  clear ho hw hu hmk
  go_wp2
  go_ret
  refine ⟨a1, _, c1, rfl, by omega, ?_, ?_⟩
  · have := HO.out
    exact this.mono (by rw [setBlock_size]; simp; omega)
  · refine below_go BB.out ?_ BB.out.size
    have h := HW.out
    have h0 := B1.out
    exact ⟨h.os.trans h0.os, h.tape.trans h0.tape, h.output.trans h0.output, Nat.le_trans h0.size h.size, fun j hj => (h.block j (Nat.lt_of_lt_of_le hj h0.size) (.inl hj)).trans (h0.block j hj)⟩

end Go.Proofs.Yteffndmifogicaa
