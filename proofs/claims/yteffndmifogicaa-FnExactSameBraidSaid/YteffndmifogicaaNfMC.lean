/- Simple braids: the program's rows: nothing, the half turn, one after the other, the way back. The model: one simple braid after the other. The model: the half turn and nothing. The turn of a simple braid, both. The model: the way back. Complements, both. The model: the letters that begin a simple braid. Exchanges of neighbours, both. The library's sort of at most eight bytes, by its text: exchanges of neighbours. The program: is a row a simple braid? The program: the letters that begin a simple braid. Left complements, both. Copies and comparisons of simple braids. A law for the walk: a slice of numbers is appended to one that is the call's own; the appended one may be nil or empty. No function of the program is spoken of. Laws for the walk: numbers are appended to a slice that is the call's own, beside another slice that stays. No function of the program is spoken of. Laws for the walk: rows of eight bytes are appended to a slice that is the call's own. No function of the program is spoken of. Predicates on memory: a slice of rows of the call's own beside boxes of rows. No function of the program is spoken of. Contracts of the small functions that the laws on normal forms call: sizes, copies. Contracts of the small functions that every law calls, continued: braids are copied, compared, marked. Contracts of the small functions that every law calls, continued: numbers are written into a braid's letters and found there again. The contracts that the laws' walks use, in the words of intervals of blocks. Comparisons and marks of slices of numbers, in the forms in which the laws' walks use them. Contracts of the small functions that the laws on normal forms call, continued: comparisons. Contracts of the small functions that the laws on normal forms call, continued: numbers are written into the factors and found there again. A slice of rows of the call's own that need not begin where its block begins: numbers are written into it. What a list of exchanges makes: the program. What is a braid: the model's answer and the program's. The model: is a row a simple braid? The model: are both rows simple braids? Normal forms: small bounds; equal ones are found equal by the laws' own function. The program: a simple braid turned so many times. The model: simple braids turned. -/
import Derived.Test.YteffndmifogicaaNfMA
import Derived.Deep.RegionHeld3
import Derived.BigQuiet
import Derived.IntWalk
import Derived.Deep.DeepCutAuto
import Derived.Test.YteffndmifogicaaProg
import Derived.ChangeKeysEq
import Derived.Laws.AppendOwnNone
import Derived.Maps.AppendAt
import Derived.Deep.LoopGhost
import Derived.OpenShut
import Derived.Test.YteffndmifogicaaNfMB
namespace Go.Proofs.Yteffndmifogicaa
open Go.RowKit Go.ChangeShapes

set_option maxRecDepth 100000 in
set_option maxHeartbeats 1000000 in
theorem nothing_any (n : Nat) (h8 : n ≤ 8) (w : World) :
  Calls Try.prog 84 #[.int .i64 n] w (RetArr .u8 w (sameR n)) := by
 go_enter Try.func84, Try.ntmps84
 have RZ := Lib.hid (Row8.zeros w .u8 77 w.heap.size rfl)
 have BB := Lib.hid (below1 w (.cells #[.int .u8 0, .int .u8 0, .int .u8 0, .int .u8 0, .int .u8 0, .int .u8 0, .int .u8 0, .int .u8 0] 77))
 go_wp2_with fail
 refine (simpleFrom_any 111 #[] (fun x => (x : Int)) n h8 _ enter_nothing1 (fun x W _ _ => (nothing1_any x W).mono fun _ _ ⟨he, hw⟩ => ⟨he, hw ▸ Below.refl _ _⟩)).mono ?_
 rintro e w2 ⟨rfl, hb⟩
 replace RZ := Lib.hid (RZ.out.below hb)
 replace BB := Lib.hid (below_go BB.out hb BB.out.size)
 clear hb
 obtain ⟨⟨d0, d1, d2, d3⟩, d4, d5, d6, d7⟩ := RZ.out.all
 obtain ⟨⟨f0, f1, f2, f3⟩, f4, f5, f6, f7⟩ := RZ.out.frees
 have zq := RZ.out.lt
 go_wp2
 obtain ⟨⟨e0, e1, e2, e3⟩, e4, e5, e6, e7⟩ := (RZ.out.fill (mapR n fun x => (x : Int)) (mapR_len _ _ h8)).all
 refine bodyPost_ret (v := arr8 .u8 (mapR n fun x => (x : Int))) (by simp [results, Try.results84, go_sem, e0, e1, e2, e3, e4, e5, e6, e7]) rfl ⟨rfl, ?_⟩
 exact below_fill8 BB.out _ (by omega) _ _ _ _ _ _ _ _

set_option maxRecDepth 100000 in
set_option maxHeartbeats 1000000 in
theorem halfTurn_any (n : Nat) (h8 : n ≤ 8) (w : World) :
  Calls Try.prog 52 #[.int .i64 n] w (RetArr .u8 w (halfR n)) := by
 go_enter Try.func52, Try.ntmps52
 have AN := Lib.hid ((At1.place w (.int .i64 n) 2 w.heap.size rfl).alloc (.cells #[.int .u8 0, .int .u8 0, .int .u8 0, .int .u8 0, .int .u8 0, .int .u8 0, .int .u8 0, .int .u8 0] 77))
 have RZ := Lib.hid (Row8.zeros (w.alloc (.cells #[.int .i64 n] 2)) .u8 77 (w.heap.size + 1) (by simp))
 have BB := Lib.hid (below2 w (.cells #[.int .i64 n] 2) (.cells #[.int .u8 0, .int .u8 0, .int .u8 0, .int .u8 0, .int .u8 0, .int .u8 0, .int .u8 0, .int .u8 0] 77))
 obtain ⟨qn1, qn2, qn3⟩ := AN.out
 go_wp2_with fail
 refine (simpleFrom_any 89 #[.pointer (some ⟨w.heap.size, 0, none⟩)] (fun x => (n : Int) - 1 - x) n h8 _ enter_half1 (fun x W hW hx => (half1_any n x _ h8 hx W (AN.out.below hW)).mono fun _ _ ⟨he, hw⟩ => ⟨he, hw ▸ Below.refl _ _⟩)).mono ?_
 rintro e w2 ⟨rfl, hb⟩
 replace RZ := Lib.hid (RZ.out.below hb)
 replace BB := Lib.hid (below_go BB.out hb BB.out.size)
 clear hb
 clear qn1 qn2 qn3
 obtain ⟨⟨d0, d1, d2, d3⟩, d4, d5, d6, d7⟩ := RZ.out.all
 obtain ⟨⟨f0, f1, f2, f3⟩, f4, f5, f6, f7⟩ := RZ.out.frees
 have zq := RZ.out.lt
 go_wp2
 obtain ⟨⟨e0, e1, e2, e3⟩, e4, e5, e6, e7⟩ := (RZ.out.fill (mapR n fun x => (n : Int) - 1 - x) (mapR_len _ _ h8)).all
 refine bodyPost_ret (v := arr8 .u8 (mapR n fun x => (n : Int) - 1 - x)) (by simp [results, Try.results52, go_sem, e0, e1, e2, e3, e4, e5, e6, e7]) rfl ⟨rfl, ?_⟩
 exact below_fill8 BB.out _ (by omega) _ _ _ _ _ _ _ _

set_option maxRecDepth 100000 in
set_option maxHeartbeats 1000000 in
theorem then_any (n : Nat) (h8 : n ≤ 8) (a b : List Int) (la : a.length = 8) (lb : b.length = 8) (ha : ∀ j, j < n → 0 ≤ at8 a j ∧ at8 a j < 8) (w : World) :
  Calls Try.prog 103 #[arr8 .u8 a, arr8 .u8 b, .int .i64 n] w (RetArr .u8 w (thenR n a b)) := by
 have HA := Lib.hid ha
 clear ha
 go_enter Try.func103, Try.ntmps103
 have RA := Lib.hid (((Row8.place w .u8 a 77 w.heap.size rfl la).alloc (.cells #[.int .u8 (at8 b 0), .int .u8 (at8 b 1), .int .u8 (at8 b 2), .int .u8 (at8 b 3), .int .u8 (at8 b 4), .int .u8 (at8 b 5), .int .u8 (at8 b 6), .int .u8 (at8 b 7)] 77)).alloc (.cells #[.int .u8 0, .int .u8 0, .int .u8 0, .int .u8 0, .int .u8 0, .int .u8 0, .int .u8 0, .int .u8 0] 77))
 have RB := Lib.hid ((Row8.place (w.alloc (.cells #[.int .u8 (at8 a 0), .int .u8 (at8 a 1), .int .u8 (at8 a 2), .int .u8 (at8 a 3), .int .u8 (at8 a 4), .int .u8 (at8 a 5), .int .u8 (at8 a 6), .int .u8 (at8 a 7)] 77)) .u8 b 77 (w.heap.size + 1) (by simp) lb).alloc (.cells #[.int .u8 0, .int .u8 0, .int .u8 0, .int .u8 0, .int .u8 0, .int .u8 0, .int .u8 0, .int .u8 0] 77))
 have RZ := Lib.hid (Row8.zeros ((w.alloc (.cells #[.int .u8 (at8 a 0), .int .u8 (at8 a 1), .int .u8 (at8 a 2), .int .u8 (at8 a 3), .int .u8 (at8 a 4), .int .u8 (at8 a 5), .int .u8 (at8 a 6), .int .u8 (at8 a 7)] 77)).alloc (.cells #[.int .u8 (at8 b 0), .int .u8 (at8 b 1), .int .u8 (at8 b 2), .int .u8 (at8 b 3), .int .u8 (at8 b 4), .int .u8 (at8 b 5), .int .u8 (at8 b 6), .int .u8 (at8 b 7)] 77)) .u8 77 (w.heap.size + 1 + 1) (by simp))
 have BB := Lib.hid (below3 w (.cells #[.int .u8 (at8 a 0), .int .u8 (at8 a 1), .int .u8 (at8 a 2), .int .u8 (at8 a 3), .int .u8 (at8 a 4), .int .u8 (at8 a 5), .int .u8 (at8 a 6), .int .u8 (at8 a 7)] 77) (.cells #[.int .u8 (at8 b 0), .int .u8 (at8 b 1), .int .u8 (at8 b 2), .int .u8 (at8 b 3), .int .u8 (at8 b 4), .int .u8 (at8 b 5), .int .u8 (at8 b 6), .int .u8 (at8 b 7)] 77) (.cells #[.int .u8 0, .int .u8 0, .int .u8 0, .int .u8 0, .int .u8 0, .int .u8 0, .int .u8 0, .int .u8 0] 77))
 go_wp2_with fail
 refine (simpleFrom_any 120 #[.pointer (some ⟨w.heap.size + 1, 0, none⟩), .pointer (some ⟨w.heap.size, 0, none⟩)] (fun x => at8 b (at8 a x).toNat) n h8 _ enter_then1 (fun x W hW hx => (then1_any n x _ _ h8 hx a b HA.out W (RA.out.below hW) (RB.out.below hW)).mono fun _ _ ⟨he, hw⟩ => ⟨he, hw ▸ Below.refl _ _⟩)).mono ?_
 rintro e w2 ⟨rfl, hb⟩
 replace RA := Lib.hid (RA.out.below hb)
 replace RB := Lib.hid (RB.out.below hb)
 replace RZ := Lib.hid (RZ.out.below hb)
 replace BB := Lib.hid (below_go BB.out hb BB.out.size)
 clear hb
 obtain ⟨⟨d0, d1, d2, d3⟩, d4, d5, d6, d7⟩ := RZ.out.all
 obtain ⟨⟨f0, f1, f2, f3⟩, f4, f5, f6, f7⟩ := RZ.out.frees
 have zq := RZ.out.lt
 go_wp2
 obtain ⟨⟨e0, e1, e2, e3⟩, e4, e5, e6, e7⟩ := (RZ.out.fill (mapR n fun x => at8 b (at8 a x).toNat) (mapR_len _ _ h8)).all
 refine bodyPost_ret (v := arr8 .u8 (mapR n fun x => at8 b (at8 a x).toNat)) (by simp [results, Try.results103, go_sem, e0, e1, e2, e3, e4, e5, e6, e7]) rfl ⟨rfl, ?_⟩
 exact below_fill8 BB.out _ (by omega) _ _ _ _ _ _ _ _

set_option maxRecDepth 100000 in
set_option maxHeartbeats 1000000 in
theorem back_any (n : Nat) (s : List Int) (hs : Sim n s) (w : World) :
  Calls Try.prog 102 #[arr8 .u8 s, .int .i64 n] w (RetArr .u8 w (backR n s)) := by
 have h8 := hs.hi
 have ls := hs.len
 have HS := Lib.hid hs
 clear hs
 go_enter Try.func102, Try.ntmps102
 have RA := Lib.hid (((Row8.place w .u8 s 77 w.heap.size rfl ls).alloc (.cells #[.int .i64 n] 2)).alloc (.cells #[.int .u8 0, .int .u8 0, .int .u8 0, .int .u8 0, .int .u8 0, .int .u8 0, .int .u8 0, .int .u8 0] 77))
 have AN := Lib.hid ((At1.place (w.alloc (.cells #[.int .u8 (at8 s 0), .int .u8 (at8 s 1), .int .u8 (at8 s 2), .int .u8 (at8 s 3), .int .u8 (at8 s 4), .int .u8 (at8 s 5), .int .u8 (at8 s 6), .int .u8 (at8 s 7)] 77)) (.int .i64 n) 2 (w.heap.size + 1) (by simp)).alloc (.cells #[.int .u8 0, .int .u8 0, .int .u8 0, .int .u8 0, .int .u8 0, .int .u8 0, .int .u8 0, .int .u8 0] 77))
 have RZ := Lib.hid (Row8.zeros ((w.alloc (.cells #[.int .u8 (at8 s 0), .int .u8 (at8 s 1), .int .u8 (at8 s 2), .int .u8 (at8 s 3), .int .u8 (at8 s 4), .int .u8 (at8 s 5), .int .u8 (at8 s 6), .int .u8 (at8 s 7)] 77)).alloc (.cells #[.int .i64 n] 2)) .u8 77 (w.heap.size + 1 + 1) (by simp))
 have BB := Lib.hid (below3 w (.cells #[.int .u8 (at8 s 0), .int .u8 (at8 s 1), .int .u8 (at8 s 2), .int .u8 (at8 s 3), .int .u8 (at8 s 4), .int .u8 (at8 s 5), .int .u8 (at8 s 6), .int .u8 (at8 s 7)] 77) (.cells #[.int .i64 n] 2) (.cells #[.int .u8 0, .int .u8 0, .int .u8 0, .int .u8 0, .int .u8 0, .int .u8 0, .int .u8 0, .int .u8 0] 77))
 have LS := Lib.hid ls
 clear ls
 obtain ⟨qn1, qn2, qn3⟩ := AN.out
 go_wp2_with fail
 refine (simpleFrom_any 118 #[.pointer (some ⟨w.heap.size, 0, none⟩), .pointer (some ⟨w.heap.size + 1, 0, none⟩)] (fun x => findR s x n 0) n h8 _ enter_back1 (fun x W hW hx => (back1_any n x _ _ s HS.out hx W (RA.out.below hW) (AN.out.below hW)).mono fun _ _ ⟨he, hw⟩ => ⟨he, hw ▸ Below.refl _ _⟩)).mono ?_
 rintro e w2 ⟨rfl, hb⟩
 replace RZ := Lib.hid (RZ.out.below hb)
 replace BB := Lib.hid (below_go BB.out hb BB.out.size)
 clear hb
 clear qn1 qn2 qn3
 obtain ⟨⟨d0, d1, d2, d3⟩, d4, d5, d6, d7⟩ := RZ.out.all
 obtain ⟨⟨f0, f1, f2, f3⟩, f4, f5, f6, f7⟩ := RZ.out.frees
 have zq := RZ.out.lt
 go_wp2
 obtain ⟨⟨e0, e1, e2, e3⟩, e4, e5, e6, e7⟩ := (RZ.out.fill (mapR n fun x => findR s x n 0) (mapR_len _ _ h8)).all
 refine bodyPost_ret (v := arr8 .u8 (mapR n fun x => findR s x n 0)) (by simp [results, Try.results102, go_sem, e0, e1, e2, e3, e4, e5, e6, e7]) rfl ⟨rfl, ?_⟩
 exact below_fill8 BB.out _ (by omega) _ _ _ _ _ _ _ _

end Go.Proofs.Yteffndmifogicaa

namespace Go.Proofs.Yteffndmifogicaa
open Go.RowKit Go.ChangeShapes

set_option maxRecDepth 100000 in
set_option maxHeartbeats 1000000 in
theorem l02Then_any (n : Nat) (h8 : n ≤ 8) (a b : List Int) (la : a.length = 8) (lb : b.length = 8) (ha : ∀ j, j < n → 0 ≤ at8 a j ∧ at8 a j < 8) (w : World) :
  Calls Try.prog 97 #[arr8 .u8 a, arr8 .u8 b, .int .i64 n] w (RetArr .u8 w (thenR n a b)) := by
 have HA := Lib.hid ha
 clear ha
 go_enter Try.func97, Try.ntmps97
 have RA := Lib.hid ((((Row8.place w .u8 a 77 w.heap.size rfl la).alloc (.cells #[.int .u8 (at8 b 0), .int .u8 (at8 b 1), .int .u8 (at8 b 2), .int .u8 (at8 b 3), .int .u8 (at8 b 4), .int .u8 (at8 b 5), .int .u8 (at8 b 6), .int .u8 (at8 b 7)] 77)).alloc (.cells #[.int .u8 0, .int .u8 0, .int .u8 0, .int .u8 0, .int .u8 0, .int .u8 0, .int .u8 0, .int .u8 0] 77)).alloc (.cells #[.int .u8 0, .int .u8 0, .int .u8 0, .int .u8 0, .int .u8 0, .int .u8 0, .int .u8 0, .int .u8 0] 77))
 have RB := Lib.hid (((Row8.place (w.alloc (.cells #[.int .u8 (at8 a 0), .int .u8 (at8 a 1), .int .u8 (at8 a 2), .int .u8 (at8 a 3), .int .u8 (at8 a 4), .int .u8 (at8 a 5), .int .u8 (at8 a 6), .int .u8 (at8 a 7)] 77)) .u8 b 77 (w.heap.size + 1) (by simp) lb).alloc (.cells #[.int .u8 0, .int .u8 0, .int .u8 0, .int .u8 0, .int .u8 0, .int .u8 0, .int .u8 0, .int .u8 0] 77)).alloc (.cells #[.int .u8 0, .int .u8 0, .int .u8 0, .int .u8 0, .int .u8 0, .int .u8 0, .int .u8 0, .int .u8 0] 77))
 have RZ := Lib.hid ((Row8.zeros ((w.alloc (.cells #[.int .u8 (at8 a 0), .int .u8 (at8 a 1), .int .u8 (at8 a 2), .int .u8 (at8 a 3), .int .u8 (at8 a 4), .int .u8 (at8 a 5), .int .u8 (at8 a 6), .int .u8 (at8 a 7)] 77)).alloc (.cells #[.int .u8 (at8 b 0), .int .u8 (at8 b 1), .int .u8 (at8 b 2), .int .u8 (at8 b 3), .int .u8 (at8 b 4), .int .u8 (at8 b 5), .int .u8 (at8 b 6), .int .u8 (at8 b 7)] 77)) .u8 77 (w.heap.size + 1 + 1) (by simp)).alloc (.cells #[.int .u8 0, .int .u8 0, .int .u8 0, .int .u8 0, .int .u8 0, .int .u8 0, .int .u8 0, .int .u8 0] 77))
 have RO := Lib.hid (Row8.zeros (((w.alloc (.cells #[.int .u8 (at8 a 0), .int .u8 (at8 a 1), .int .u8 (at8 a 2), .int .u8 (at8 a 3), .int .u8 (at8 a 4), .int .u8 (at8 a 5), .int .u8 (at8 a 6), .int .u8 (at8 a 7)] 77)).alloc (.cells #[.int .u8 (at8 b 0), .int .u8 (at8 b 1), .int .u8 (at8 b 2), .int .u8 (at8 b 3), .int .u8 (at8 b 4), .int .u8 (at8 b 5), .int .u8 (at8 b 6), .int .u8 (at8 b 7)] 77)).alloc (.cells #[.int .u8 0, .int .u8 0, .int .u8 0, .int .u8 0, .int .u8 0, .int .u8 0, .int .u8 0, .int .u8 0] 77)) .u8 77 (w.heap.size + 1 + 1 + 1) (by simp))
 have BB := Lib.hid (below4 w (.cells #[.int .u8 (at8 a 0), .int .u8 (at8 a 1), .int .u8 (at8 a 2), .int .u8 (at8 a 3), .int .u8 (at8 a 4), .int .u8 (at8 a 5), .int .u8 (at8 a 6), .int .u8 (at8 a 7)] 77) (.cells #[.int .u8 (at8 b 0), .int .u8 (at8 b 1), .int .u8 (at8 b 2), .int .u8 (at8 b 3), .int .u8 (at8 b 4), .int .u8 (at8 b 5), .int .u8 (at8 b 6), .int .u8 (at8 b 7)] 77) (.cells #[.int .u8 0, .int .u8 0, .int .u8 0, .int .u8 0, .int .u8 0, .int .u8 0, .int .u8 0, .int .u8 0] 77) (.cells #[.int .u8 0, .int .u8 0, .int .u8 0, .int .u8 0, .int .u8 0, .int .u8 0, .int .u8 0, .int .u8 0] 77))
 go_wp2
 go_loopw [8] (fun i wr => ∃ k : Nat, k ≤ n ∧ i = .int .i64 k ∧ Row8 wr w.heap.size .u8 a ∧ Row8 wr (w.heap.size + 1) .u8 b ∧ Row8 wr (w.heap.size + 1 + 1) .u8 [0, 0, 0, 0, 0, 0, 0, 0] ∧ Row8 wr (w.heap.size + 1 + 1 + 1) .u8 (mapR k fun x => at8 b (at8 a x).toNat) ∧ Below w.heap.size w wr) (fun i _ => n - (intOf i).toNat)
 case atStart => exact ⟨0, Nat.zero_le _, rfl, RA.out, RB.out, RZ.out, RO.out, BB.out⟩
 case round =>
  obtain ⟨k, hk, rfl, hRA, hRB, hRZ, hRO, hBB⟩ := hrel
  clear RA RB RZ RO BB
  have RA := Lib.hid hRA
  have RB := Lib.hid hRB
  have RZ := Lib.hid hRZ
  have RO := Lib.hid hRO
  have BB := Lib.hid hBB
  clear hRA hRB hRZ hRO hBB
  have hst := mapR_step k (fun x => at8 b (at8 a x).toNat)
  by_cases hlt : k < n
  ·obtain ⟨o1, o2⟩ := HA.out k hlt
   obtain ⟨v, hv⟩ : ∃ v : Nat, at8 a k = (v : Int) := ⟨(at8 a k).toNat, by omega⟩
   have c1 := RA.out.cell k (by omega)
   rw [hv] at c1 o1 o2
   simp only [hv, Int.toNat_natCast] at hst
   have HST := Lib.hid hst
   clear hv hst
   have c2 := RB.out.cell v (by omega)
   have f2 := RO.out.free k (by omega)
   have c3 := RO.out.cell k (by omega)
   have z2 := RO.out.lt
   go_wp2
   go_round
   case rel =>
    refine ⟨k + 1, by omega, by go_num, RA.out.setCell (by first | (simp; done) | (simp; omega)) _, RB.out.setCell (by first | (simp; done) | (simp; omega)) _, RZ.out.setCell (by first | (simp; done) | (simp; omega)) _, ?_, BB.out.setCell (by first | (simp; done) | (simp; omega)) _⟩
    rw [← HST.out (by omega)]
    exact RO.out.store k (by omega) (at8 b v)
   case measure => simp [intOf]; omega
  ·clear hst
   have hkn : k = n := by omega
   subst hkn
   obtain ⟨⟨c0, c1, c2, c3⟩, c4, c5, c6, c7⟩ := RO.out.all
   obtain ⟨⟨d0, d1, d2, d3⟩, d4, d5, d6, d7⟩ := RZ.out.all
   obtain ⟨⟨f0, f1, f2, f3⟩, f4, f5, f6, f7⟩ := RZ.out.frees
   have zq := RZ.out.lt
   go_wp2
   obtain ⟨⟨e0, e1, e2, e3⟩, e4, e5, e6, e7⟩ := (RZ.out.fill (mapR k fun x => at8 b (at8 a x).toNat) RO.out.len).all
   refine bodyPost_ret (v := arr8 .u8 (mapR k fun x => at8 b (at8 a x).toNat)) (by simp [results, Try.results97, go_sem, e0, e1, e2, e3, e4, e5, e6, e7]) rfl ⟨rfl, ?_⟩
   exact below_fill8 BB.out _ (by omega) _ _ _ _ _ _ _ _

end Go.Proofs.Yteffndmifogicaa

namespace Go.Proofs.Yteffndmifogicaa
open Go.RowKit Go.ChangeShapes

set_option maxRecDepth 100000 in
set_option maxHeartbeats 1000000 in
theorem l02Half_any (n : Nat) (h8 : n ≤ 8) (w : World) :
  Calls Try.prog 79 #[.int .i64 n] w (RetArr .u8 w (halfR n)) := by
 go_enter Try.func79, Try.ntmps79
 have RZ := Lib.hid ((Row8.zeros w .u8 77 w.heap.size rfl).alloc (.cells #[.int .u8 0, .int .u8 0, .int .u8 0, .int .u8 0, .int .u8 0, .int .u8 0, .int .u8 0, .int .u8 0] 77))
 have RO := Lib.hid (Row8.zeros (w.alloc (.cells #[.int .u8 0, .int .u8 0, .int .u8 0, .int .u8 0, .int .u8 0, .int .u8 0, .int .u8 0, .int .u8 0] 77)) .u8 77 (w.heap.size + 1) (by simp))
 have BB := Lib.hid (below2 w (.cells #[.int .u8 0, .int .u8 0, .int .u8 0, .int .u8 0, .int .u8 0, .int .u8 0, .int .u8 0, .int .u8 0] 77) (.cells #[.int .u8 0, .int .u8 0, .int .u8 0, .int .u8 0, .int .u8 0, .int .u8 0, .int .u8 0, .int .u8 0] 77))
 go_wp2
 go_loopw [4] (fun i wr => ∃ k : Nat, k ≤ n ∧ i = .int .i64 k ∧ Row8 wr w.heap.size .u8 [0, 0, 0, 0, 0, 0, 0, 0] ∧ Row8 wr (w.heap.size + 1) .u8 (mapR k fun x => (n : Int) - 1 - x) ∧ Below w.heap.size w wr) (fun i _ => n - (intOf i).toNat)
 case atStart => exact ⟨0, Nat.zero_le _, rfl, RZ.out, RO.out, BB.out⟩
 case round =>
  obtain ⟨k, hk, rfl, hRZ, hRO, hBB⟩ := hrel
  clear RZ RO BB
  have RZ := Lib.hid hRZ
  have RO := Lib.hid hRO
  have BB := Lib.hid hBB
  clear hRZ hRO hBB
  have HST := Lib.hid (mapR_step k (fun x => (n : Int) - 1 - x))
  by_cases hlt : k < n
  ·have f2 := RO.out.free k (by omega)
   have c3 := RO.out.cell k (by omega)
   have z2 := RO.out.lt
   have b1 : (0 : Int) ≤ (n : Int) - 1 - k := by omega
   have b2 : (n : Int) - 1 - k < 8 := by omega
   go_wp2
   go_round
   case rel =>
    refine ⟨k + 1, by omega, by go_num, RZ.out.setCell (by first | (simp; done) | (simp; omega)) _, ?_, BB.out.setCell (by first | (simp; done) | (simp; omega)) _⟩
    rw [← HST.out (by omega)]
    exact RO.out.store k (by omega) ((n : Int) - 1 - k)
   case measure => simp [intOf]; omega
  ·have hkn : k = n := by omega
   subst hkn
   obtain ⟨⟨c0, c1, c2, c3⟩, c4, c5, c6, c7⟩ := RO.out.all
   obtain ⟨⟨d0, d1, d2, d3⟩, d4, d5, d6, d7⟩ := RZ.out.all
   obtain ⟨⟨f0, f1, f2, f3⟩, f4, f5, f6, f7⟩ := RZ.out.frees
   have zq := RZ.out.lt
   go_wp2
   obtain ⟨⟨e0, e1, e2, e3⟩, e4, e5, e6, e7⟩ := (RZ.out.fill (mapR k fun x => (k : Int) - 1 - x) RO.out.len).all
   refine bodyPost_ret (v := arr8 .u8 (mapR k fun x => (k : Int) - 1 - x)) (by simp [results, Try.results79, go_sem, e0, e1, e2, e3, e4, e5, e6, e7]) rfl ⟨rfl, ?_⟩
   exact below_fill8 BB.out _ (by omega) _ _ _ _ _ _ _ _

set_option maxRecDepth 100000 in
set_option maxHeartbeats 1000000 in
theorem l02Same_any (n : Nat) (h8 : n ≤ 8) (w : World) :
  Calls Try.prog 60 #[.int .i64 n] w (RetArr .u8 w (sameR n)) := by
 go_enter Try.func60, Try.ntmps60
 have RZ := Lib.hid ((Row8.zeros w .u8 77 w.heap.size rfl).alloc (.cells #[.int .u8 0, .int .u8 0, .int .u8 0, .int .u8 0, .int .u8 0, .int .u8 0, .int .u8 0, .int .u8 0] 77))
 have RO := Lib.hid (Row8.zeros (w.alloc (.cells #[.int .u8 0, .int .u8 0, .int .u8 0, .int .u8 0, .int .u8 0, .int .u8 0, .int .u8 0, .int .u8 0] 77)) .u8 77 (w.heap.size + 1) (by simp))
 have BB := Lib.hid (below2 w (.cells #[.int .u8 0, .int .u8 0, .int .u8 0, .int .u8 0, .int .u8 0, .int .u8 0, .int .u8 0, .int .u8 0] 77) (.cells #[.int .u8 0, .int .u8 0, .int .u8 0, .int .u8 0, .int .u8 0, .int .u8 0, .int .u8 0, .int .u8 0] 77))
 go_wp2
 go_loopw [4] (fun i wr => ∃ k : Nat, k ≤ n ∧ i = .int .i64 k ∧ Row8 wr w.heap.size .u8 [0, 0, 0, 0, 0, 0, 0, 0] ∧ Row8 wr (w.heap.size + 1) .u8 (mapR k fun x => (x : Int)) ∧ Below w.heap.size w wr) (fun i _ => n - (intOf i).toNat)
 case atStart => exact ⟨0, Nat.zero_le _, rfl, RZ.out, RO.out, BB.out⟩
 case round =>
  obtain ⟨k, hk, rfl, hRZ, hRO, hBB⟩ := hrel
  clear RZ RO BB
  have RZ := Lib.hid hRZ
  have RO := Lib.hid hRO
  have BB := Lib.hid hBB
  clear hRZ hRO hBB
  have HST := Lib.hid (mapR_step k (fun x => (x : Int)))
  by_cases hlt : k < n
  ·have f2 := RO.out.free k (by omega)
   have c3 := RO.out.cell k (by omega)
   have z2 := RO.out.lt
   go_wp2
   go_round
   case rel =>
    refine ⟨k + 1, by omega, by go_num, RZ.out.setCell (by first | (simp; done) | (simp; omega)) _, ?_, BB.out.setCell (by first | (simp; done) | (simp; omega)) _⟩
    rw [← HST.out (by omega)]
    exact RO.out.store k (by omega) (k : Int)
   case measure => simp [intOf]; omega
  ·have hkn : k = n := by omega
   subst hkn
   obtain ⟨⟨c0, c1, c2, c3⟩, c4, c5, c6, c7⟩ := RO.out.all
   obtain ⟨⟨d0, d1, d2, d3⟩, d4, d5, d6, d7⟩ := RZ.out.all
   obtain ⟨⟨f0, f1, f2, f3⟩, f4, f5, f6, f7⟩ := RZ.out.frees
   have zq := RZ.out.lt
   go_wp2
   obtain ⟨⟨e0, e1, e2, e3⟩, e4, e5, e6, e7⟩ := (RZ.out.fill (mapR k fun x => (x : Int)) RO.out.len).all
   refine bodyPost_ret (v := arr8 .u8 (mapR k fun x => (x : Int))) (by simp [results, Try.results60, go_sem, e0, e1, e2, e3, e4, e5, e6, e7]) rfl ⟨rfl, ?_⟩
   exact below_fill8 BB.out _ (by omega) _ _ _ _ _ _ _ _

end Go.Proofs.Yteffndmifogicaa

namespace Go.Proofs.Yteffndmifogicaa
open Go.RowKit Go.ChangeShapes

set_option maxRecDepth 100000 in
set_option maxHeartbeats 1000000 in
theorem l02Turn_any (n : Nat) (s : List Int) (hs : Sim n s) (w : World) :
  Calls Try.prog 101 #[arr8 .u8 s, .int .i64 n] w (RetArr .u8 w (thenR n (thenR n (halfR n) s) (halfR n))) := by
 have h8 := hs.hi
 have ls := hs.len
 have HS := Lib.hid hs
 clear hs
 go_enter Try.func101, Try.ntmps101
 have RA := Lib.hid ((Row8.place w .u8 s 77 w.heap.size rfl ls).alloc (.cells #[.int .u8 0, .int .u8 0, .int .u8 0, .int .u8 0, .int .u8 0, .int .u8 0, .int .u8 0, .int .u8 0] 77))
 have RZ := Lib.hid (Row8.zeros (w.alloc (.cells #[.int .u8 (at8 s 0), .int .u8 (at8 s 1), .int .u8 (at8 s 2), .int .u8 (at8 s 3), .int .u8 (at8 s 4), .int .u8 (at8 s 5), .int .u8 (at8 s 6), .int .u8 (at8 s 7)] 77)) .u8 77 (w.heap.size + 1) (by simp))
 have BB := Lib.hid (below2 w (.cells #[.int .u8 (at8 s 0), .int .u8 (at8 s 1), .int .u8 (at8 s 2), .int .u8 (at8 s 3), .int .u8 (at8 s 4), .int .u8 (at8 s 5), .int .u8 (at8 s 6), .int .u8 (at8 s 7)] 77) (.cells #[.int .u8 0, .int .u8 0, .int .u8 0, .int .u8 0, .int .u8 0, .int .u8 0, .int .u8 0, .int .u8 0] 77))
 have LS := Lib.hid ls
 clear ls
 go_wp2_with fail
 refine (l02Half_any n h8 _).mono ?_
 rintro e w2 ⟨rfl, hb⟩
 replace RA := Lib.hid (RA.out.below hb)
 replace RZ := Lib.hid (RZ.out.below hb)
 replace BB := Lib.hid (below_go BB.out hb BB.out.size)
 clear hb
 have zh := RZ.out.lt
 have RH := Lib.hid (Row8.place w2 .u8 (halfR n) 77 w2.heap.size rfl (mapR_len _ _ h8))
 replace RA := Lib.hid (RA.out.alloc (.cells #[.int .u8 (at8 (halfR n) 0), .int .u8 (at8 (halfR n) 1), .int .u8 (at8 (halfR n) 2), .int .u8 (at8 (halfR n) 3), .int .u8 (at8 (halfR n) 4), .int .u8 (at8 (halfR n) 5), .int .u8 (at8 (halfR n) 6), .int .u8 (at8 (halfR n) 7)] 77))
 replace RZ := Lib.hid (RZ.out.alloc (.cells #[.int .u8 (at8 (halfR n) 0), .int .u8 (at8 (halfR n) 1), .int .u8 (at8 (halfR n) 2), .int .u8 (at8 (halfR n) 3), .int .u8 (at8 (halfR n) 4), .int .u8 (at8 (halfR n) 5), .int .u8 (at8 (halfR n) 6), .int .u8 (at8 (halfR n) 7)] 77))
 replace BB := Lib.hid (BB.out.alloc BB.out.size (.cells #[.int .u8 (at8 (halfR n) 0), .int .u8 (at8 (halfR n) 1), .int .u8 (at8 (halfR n) 2), .int .u8 (at8 (halfR n) 3), .int .u8 (at8 (halfR n) 4), .int .u8 (at8 (halfR n) 5), .int .u8 (at8 (halfR n) 6), .int .u8 (at8 (halfR n) 7)] 77))
 go_wp2
 obtain ⟨W, hW⟩ : ∃ W, W = w2.alloc (.cells #[.int .u8 (at8 (halfR n) 0), .int .u8 (at8 (halfR n) 1), .int .u8 (at8 (halfR n) 2), .int .u8 (at8 (halfR n) 3), .int .u8 (at8 (halfR n) 4), .int .u8 (at8 (halfR n) 5), .int .u8 (at8 (halfR n) 6), .int .u8 (at8 (halfR n) 7)] 77) := ⟨_, rfl⟩
 rw [← hW] at RA RZ RH BB ⊢
 clear hW
 obtain ⟨gh, hgh⟩ : ∃ gh, gh = w2.heap.size := ⟨_, rfl⟩
 rw [← hgh] at RH zh ⊢
 clear hgh
 have zb := BB.out.size
 go_region_held3 (fun w' => (w'.cell? ⟨w.heap.size, 0, none⟩ = some (.int .u8 (at8 s 0)) ∧ w'.cell? ⟨w.heap.size, 1, none⟩ = some (.int .u8 (at8 s 1)) ∧ w'.cell? ⟨w.heap.size, 2, none⟩ = some (.int .u8 (at8 s 2)) ∧ w'.cell? ⟨w.heap.size, 3, none⟩ = some (.int .u8 (at8 s 3)) ∧ w'.cell? ⟨w.heap.size, 4, none⟩ = some (.int .u8 (at8 s 4)) ∧ w'.cell? ⟨w.heap.size, 5, none⟩ = some (.int .u8 (at8 s 5)) ∧ w'.cell? ⟨w.heap.size, 6, none⟩ = some (.int .u8 (at8 s 6)) ∧ w'.cell? ⟨w.heap.size, 7, none⟩ = some (.int .u8 (at8 s 7))) ∧ (w'.cell? ⟨gh, 0, none⟩ = some (.int .u8 (at8 (halfR n) 0)) ∧ w'.cell? ⟨gh, 1, none⟩ = some (.int .u8 (at8 (halfR n) 1)) ∧ w'.cell? ⟨gh, 2, none⟩ = some (.int .u8 (at8 (halfR n) 2)) ∧ w'.cell? ⟨gh, 3, none⟩ = some (.int .u8 (at8 (halfR n) 3)) ∧ w'.cell? ⟨gh, 4, none⟩ = some (.int .u8 (at8 (halfR n) 4)) ∧ w'.cell? ⟨gh, 5, none⟩ = some (.int .u8 (at8 (halfR n) 5)) ∧ w'.cell? ⟨gh, 6, none⟩ = some (.int .u8 (at8 (halfR n) 6)) ∧ w'.cell? ⟨gh, 7, none⟩ = some (.int .u8 (at8 (halfR n) 7)))) (first | with_reducible exact ⟨(RA.out.drew).flat, (RH.out.drew).flat⟩ | with_reducible exact ⟨(RA.out.drew.below h1).flat, (RH.out.drew.below h1).flat⟩ | with_reducible exact ⟨((RA.out.drew.below h1).below h2).flat, ((RH.out.drew.below h1).below h2).flat⟩ | with_reducible exact ⟨(((RA.out.drew.below h1).below h2).past (w.heap.size + 1) (by omega) _ _ _ _ _ _ _ _).flat, (((RH.out.drew.below h1).below h2).past (w.heap.size + 1) (by omega) _ _ _ _ _ _ _ _).flat⟩)
  (first
   | (go_at_call_of 97 (at8 s 0); refine (l02Then_any n h8 (halfR n) s (mapR_len _ _ h8) LS.out (halfR_sim n HS.out.lo h8).wide _).mono ?_; rintro e w1 ⟨rfl, h1⟩)
   | (go_at_call 97; refine (l02Then_any n h8 (thenR n (halfR n) s) (halfR n) (mapR_len _ _ h8) (mapR_len _ _ h8) (thenR_sim (halfR_sim n HS.out.lo h8) HS.out).wide _).mono ?_; rintro e w2 ⟨rfl, h2⟩; obtain ⟨⟨d0, d1, d2, d3⟩, d4, d5, d6, d7⟩ := ((RZ.out.drew.below h1).below h2).all; obtain ⟨⟨f0, f1, f2, f3⟩, f4, f5, f6, f7⟩ := ((RZ.out.drew.below h1).below h2).frees; have zq := ((RZ.out.drew.below h1).below h2).lt))
 have R3 := Lib.hid ((RZ.out.drew.below h1).below h2)
 have B3 := Lib.hid (below_go (below_go BB.out.drew h1 zb) h2 (Nat.le_trans zb h1.size))
 clear BB
 have BB := B3
 clear h1 h2
 go_wp2
 obtain ⟨⟨e0, e1, e2, e3⟩, e4, e5, e6, e7⟩ := (R3.out.fill (thenR n (thenR n (halfR n) s) (halfR n)) (mapR_len _ _ h8)).all
 refine bodyPost_ret (v := arr8 .u8 (thenR n (thenR n (halfR n) s) (halfR n))) (by simp [results, Try.results101, go_sem, e0, e1, e2, e3, e4, e5, e6, e7]) rfl ⟨rfl, ?_⟩
 exact below_fill8 BB.out _ (by omega) _ _ _ _ _ _ _ _

set_option maxRecDepth 100000 in
set_option maxHeartbeats 1000000 in
theorem turn_any (n : Nat) (s : List Int) (hs : Sim n s) (w : World) :
  Calls Try.prog 104 #[arr8 .u8 s, .int .i64 n] w (RetArr .u8 w (thenR n (thenR n (halfR n) s) (halfR n))) := by
 have h8 := hs.hi
 have ls := hs.len
 have HS := Lib.hid hs
 clear hs
 go_enter Try.func104, Try.ntmps104
 have RA := Lib.hid ((Row8.place w .u8 s 77 w.heap.size rfl ls).alloc (.cells #[.int .u8 0, .int .u8 0, .int .u8 0, .int .u8 0, .int .u8 0, .int .u8 0, .int .u8 0, .int .u8 0] 77))
 have RZ := Lib.hid (Row8.zeros (w.alloc (.cells #[.int .u8 (at8 s 0), .int .u8 (at8 s 1), .int .u8 (at8 s 2), .int .u8 (at8 s 3), .int .u8 (at8 s 4), .int .u8 (at8 s 5), .int .u8 (at8 s 6), .int .u8 (at8 s 7)] 77)) .u8 77 (w.heap.size + 1) (by simp))
 have BB := Lib.hid (below2 w (.cells #[.int .u8 (at8 s 0), .int .u8 (at8 s 1), .int .u8 (at8 s 2), .int .u8 (at8 s 3), .int .u8 (at8 s 4), .int .u8 (at8 s 5), .int .u8 (at8 s 6), .int .u8 (at8 s 7)] 77) (.cells #[.int .u8 0, .int .u8 0, .int .u8 0, .int .u8 0, .int .u8 0, .int .u8 0, .int .u8 0, .int .u8 0] 77))
 have LS := Lib.hid ls
 clear ls
 go_wp2_with fail
 refine (halfTurn_any n h8 _).mono ?_
 rintro e w2 ⟨rfl, hb⟩
 replace RA := Lib.hid (RA.out.below hb)
 replace RZ := Lib.hid (RZ.out.below hb)
 replace BB := Lib.hid (below_go BB.out hb BB.out.size)
 clear hb
 have zh := RZ.out.lt
 have RH := Lib.hid (Row8.place w2 .u8 (halfR n) 77 w2.heap.size rfl (mapR_len _ _ h8))
 replace RA := Lib.hid (RA.out.alloc (.cells #[.int .u8 (at8 (halfR n) 0), .int .u8 (at8 (halfR n) 1), .int .u8 (at8 (halfR n) 2), .int .u8 (at8 (halfR n) 3), .int .u8 (at8 (halfR n) 4), .int .u8 (at8 (halfR n) 5), .int .u8 (at8 (halfR n) 6), .int .u8 (at8 (halfR n) 7)] 77))
 replace RZ := Lib.hid (RZ.out.alloc (.cells #[.int .u8 (at8 (halfR n) 0), .int .u8 (at8 (halfR n) 1), .int .u8 (at8 (halfR n) 2), .int .u8 (at8 (halfR n) 3), .int .u8 (at8 (halfR n) 4), .int .u8 (at8 (halfR n) 5), .int .u8 (at8 (halfR n) 6), .int .u8 (at8 (halfR n) 7)] 77))
 replace BB := Lib.hid (BB.out.alloc BB.out.size (.cells #[.int .u8 (at8 (halfR n) 0), .int .u8 (at8 (halfR n) 1), .int .u8 (at8 (halfR n) 2), .int .u8 (at8 (halfR n) 3), .int .u8 (at8 (halfR n) 4), .int .u8 (at8 (halfR n) 5), .int .u8 (at8 (halfR n) 6), .int .u8 (at8 (halfR n) 7)] 77))
 go_wp2
 obtain ⟨W, hW⟩ : ∃ W, W = w2.alloc (.cells #[.int .u8 (at8 (halfR n) 0), .int .u8 (at8 (halfR n) 1), .int .u8 (at8 (halfR n) 2), .int .u8 (at8 (halfR n) 3), .int .u8 (at8 (halfR n) 4), .int .u8 (at8 (halfR n) 5), .int .u8 (at8 (halfR n) 6), .int .u8 (at8 (halfR n) 7)] 77) := ⟨_, rfl⟩
 rw [← hW] at RA RZ RH BB ⊢
 clear hW
 obtain ⟨gh, hgh⟩ : ∃ gh, gh = w2.heap.size := ⟨_, rfl⟩
 rw [← hgh] at RH zh ⊢
 clear hgh
 have zb := BB.out.size
 go_region_held3 (fun w' => (w'.cell? ⟨w.heap.size, 0, none⟩ = some (.int .u8 (at8 s 0)) ∧ w'.cell? ⟨w.heap.size, 1, none⟩ = some (.int .u8 (at8 s 1)) ∧ w'.cell? ⟨w.heap.size, 2, none⟩ = some (.int .u8 (at8 s 2)) ∧ w'.cell? ⟨w.heap.size, 3, none⟩ = some (.int .u8 (at8 s 3)) ∧ w'.cell? ⟨w.heap.size, 4, none⟩ = some (.int .u8 (at8 s 4)) ∧ w'.cell? ⟨w.heap.size, 5, none⟩ = some (.int .u8 (at8 s 5)) ∧ w'.cell? ⟨w.heap.size, 6, none⟩ = some (.int .u8 (at8 s 6)) ∧ w'.cell? ⟨w.heap.size, 7, none⟩ = some (.int .u8 (at8 s 7))) ∧ (w'.cell? ⟨gh, 0, none⟩ = some (.int .u8 (at8 (halfR n) 0)) ∧ w'.cell? ⟨gh, 1, none⟩ = some (.int .u8 (at8 (halfR n) 1)) ∧ w'.cell? ⟨gh, 2, none⟩ = some (.int .u8 (at8 (halfR n) 2)) ∧ w'.cell? ⟨gh, 3, none⟩ = some (.int .u8 (at8 (halfR n) 3)) ∧ w'.cell? ⟨gh, 4, none⟩ = some (.int .u8 (at8 (halfR n) 4)) ∧ w'.cell? ⟨gh, 5, none⟩ = some (.int .u8 (at8 (halfR n) 5)) ∧ w'.cell? ⟨gh, 6, none⟩ = some (.int .u8 (at8 (halfR n) 6)) ∧ w'.cell? ⟨gh, 7, none⟩ = some (.int .u8 (at8 (halfR n) 7)))) (first | with_reducible exact ⟨(RA.out.drew).flat, (RH.out.drew).flat⟩ | with_reducible exact ⟨(RA.out.drew.below h1).flat, (RH.out.drew.below h1).flat⟩ | with_reducible exact ⟨((RA.out.drew.below h1).below h2).flat, ((RH.out.drew.below h1).below h2).flat⟩ | with_reducible exact ⟨(((RA.out.drew.below h1).below h2).past (w.heap.size + 1) (by omega) _ _ _ _ _ _ _ _).flat, (((RH.out.drew.below h1).below h2).past (w.heap.size + 1) (by omega) _ _ _ _ _ _ _ _).flat⟩)
  (first
   | (go_at_call_of 103 (at8 s 0); refine (then_any n h8 (halfR n) s (mapR_len _ _ h8) LS.out (halfR_sim n HS.out.lo h8).wide _).mono ?_; rintro e w1 ⟨rfl, h1⟩)
   | (go_at_call 103; refine (then_any n h8 (thenR n (halfR n) s) (halfR n) (mapR_len _ _ h8) (mapR_len _ _ h8) (thenR_sim (halfR_sim n HS.out.lo h8) HS.out).wide _).mono ?_; rintro e w2 ⟨rfl, h2⟩; obtain ⟨⟨d0, d1, d2, d3⟩, d4, d5, d6, d7⟩ := ((RZ.out.drew.below h1).below h2).all; obtain ⟨⟨f0, f1, f2, f3⟩, f4, f5, f6, f7⟩ := ((RZ.out.drew.below h1).below h2).frees; have zq := ((RZ.out.drew.below h1).below h2).lt))
 have R3 := Lib.hid ((RZ.out.drew.below h1).below h2)
 have B3 := Lib.hid (below_go (below_go BB.out.drew h1 zb) h2 (Nat.le_trans zb h1.size))
 clear BB
 have BB := B3
 clear h1 h2
 go_wp2
 obtain ⟨⟨e0, e1, e2, e3⟩, e4, e5, e6, e7⟩ := (R3.out.fill (thenR n (thenR n (halfR n) s) (halfR n)) (mapR_len _ _ h8)).all
 refine bodyPost_ret (v := arr8 .u8 (thenR n (thenR n (halfR n) s) (halfR n))) (by simp [results, Try.results104, go_sem, e0, e1, e2, e3, e4, e5, e6, e7]) rfl ⟨rfl, ?_⟩
 exact below_fill8 BB.out _ (by omega) _ _ _ _ _ _ _ _

end Go.Proofs.Yteffndmifogicaa

namespace Go.Proofs.Yteffndmifogicaa
open Go.RowKit Go.ChangeShapes

set_option maxRecDepth 100000 in
set_option maxHeartbeats 1000000 in
theorem l02Back_any (n : Nat) (s : List Int) (hs : Sim n s) (w : World) :
  Calls Try.prog 108 #[arr8 .u8 s, .int .i64 n] w (RetArr .u8 w (backR n s)) := by
 have h8 := hs.hi
 have ls := hs.len
 have HS := Lib.hid hs
 clear hs
 go_enter Try.func108, Try.ntmps108
 have RA := Lib.hid (((Row8.place w .u8 s 77 w.heap.size rfl ls).alloc (.cells #[.int .u8 0, .int .u8 0, .int .u8 0, .int .u8 0, .int .u8 0, .int .u8 0, .int .u8 0, .int .u8 0] 77)).alloc (.cells #[.int .u8 0, .int .u8 0, .int .u8 0, .int .u8 0, .int .u8 0, .int .u8 0, .int .u8 0, .int .u8 0] 77))
 have RZ := Lib.hid ((Row8.zeros (w.alloc (.cells #[.int .u8 (at8 s 0), .int .u8 (at8 s 1), .int .u8 (at8 s 2), .int .u8 (at8 s 3), .int .u8 (at8 s 4), .int .u8 (at8 s 5), .int .u8 (at8 s 6), .int .u8 (at8 s 7)] 77)) .u8 77 (w.heap.size + 1) (by simp)).alloc (.cells #[.int .u8 0, .int .u8 0, .int .u8 0, .int .u8 0, .int .u8 0, .int .u8 0, .int .u8 0, .int .u8 0] 77))
 have RO := Lib.hid (Row8.zeros ((w.alloc (.cells #[.int .u8 (at8 s 0), .int .u8 (at8 s 1), .int .u8 (at8 s 2), .int .u8 (at8 s 3), .int .u8 (at8 s 4), .int .u8 (at8 s 5), .int .u8 (at8 s 6), .int .u8 (at8 s 7)] 77)).alloc (.cells #[.int .u8 0, .int .u8 0, .int .u8 0, .int .u8 0, .int .u8 0, .int .u8 0, .int .u8 0, .int .u8 0] 77)) .u8 77 (w.heap.size + 1 + 1) (by simp))
 have BB := Lib.hid (below3 w (.cells #[.int .u8 (at8 s 0), .int .u8 (at8 s 1), .int .u8 (at8 s 2), .int .u8 (at8 s 3), .int .u8 (at8 s 4), .int .u8 (at8 s 5), .int .u8 (at8 s 6), .int .u8 (at8 s 7)] 77) (.cells #[.int .u8 0, .int .u8 0, .int .u8 0, .int .u8 0, .int .u8 0, .int .u8 0, .int .u8 0, .int .u8 0] 77) (.cells #[.int .u8 0, .int .u8 0, .int .u8 0, .int .u8 0, .int .u8 0, .int .u8 0, .int .u8 0, .int .u8 0] 77))
 have LS := Lib.hid ls
 clear ls
 go_wp2
 go_loopw [6] (fun i wr => ∃ k : Nat, k ≤ n ∧ i = .int .i64 k ∧ Row8 wr w.heap.size .u8 s ∧ Row8 wr (w.heap.size + 1) .u8 [0, 0, 0, 0, 0, 0, 0, 0] ∧ Row8 wr (w.heap.size + 1 + 1) .u8 (ends 8 s k) ∧ Below w.heap.size w wr) (fun i _ => n - (intOf i).toNat)
 case atStart => exact ⟨0, Nat.zero_le _, rfl, RA.out, RZ.out, RO.out, BB.out⟩
 case round =>
  obtain ⟨k, hk, rfl, hRA, hRZ, hRO, hBB⟩ := hrel
  clear RA RZ RO BB
  have RA := Lib.hid hRA
  have RZ := Lib.hid hRZ
  have RO := Lib.hid hRO
  have BB := Lib.hid hBB
  clear hRA hRZ hRO hBB
  by_cases hlt : k < n
  ·obtain ⟨o1, o2⟩ := HS.out.bd k hlt
   have st := ends_step 8 s k
   obtain ⟨v, hv⟩ : ∃ v : Nat, at8 s k = (v : Int) := ⟨(at8 s k).toNat, by omega⟩
   have c1 := RA.out.cell k (by omega)
   rw [hv] at c1 o1 o2 st
   rw [Int.toNat_natCast] at st
   have HST := Lib.hid st
   clear hv st
   have f2 := RO.out.free v (by omega)
   have c3 := RO.out.cell v (by omega)
   have z2 := RO.out.lt
   go_wp2
   go_round
   case rel =>
    refine ⟨k + 1, by omega, by go_num, RA.out.setCell (by first | (simp; done) | (simp; omega)) _, RZ.out.setCell (by first | (simp; done) | (simp; omega)) _, ?_, BB.out.setCell (by first | (simp; done) | (simp; omega)) _⟩
    rw [HST.out]
    exact RO.out.store v (by omega) k
   case measure => simp [intOf]; omega
  ·have hkn : k = n := by omega
   subst hkn
   obtain ⟨⟨c0, c1, c2, c3⟩, c4, c5, c6, c7⟩ := RO.out.all
   obtain ⟨⟨d0, d1, d2, d3⟩, d4, d5, d6, d7⟩ := RZ.out.all
   obtain ⟨⟨f0, f1, f2, f3⟩, f4, f5, f6, f7⟩ := RZ.out.frees
   have zq := RZ.out.lt
   go_wp2
   obtain ⟨⟨e0, e1, e2, e3⟩, e4, e5, e6, e7⟩ := (RZ.out.fill (ends 8 s k) RO.out.len).all
   refine bodyPost_ret (v := arr8 .u8 (ends 8 s k)) (by simp [results, Try.results108, go_sem, e0, e1, e2, e3, e4, e5, e6, e7]) rfl ⟨by rw [ends_back HS.out], ?_⟩
   exact below_fill8 BB.out _ (by omega) _ _ _ _ _ _ _ _

end Go.Proofs.Yteffndmifogicaa

namespace Go.Proofs.Yteffndmifogicaa
open Go.RowKit Go.ChangeShapes

set_option maxRecDepth 100000 in
set_option maxHeartbeats 1000000 in
theorem l02Complement_any (n : Nat) (s : List Int) (hs : Sim n s) (w : World) :
  Calls Try.prog 124 #[arr8 .u8 s, .int .i64 n] w (RetArr .u8 w (thenR n (backR n s) (halfR n))) := by
 have h8 := hs.hi
 have ls := hs.len
 have HS := Lib.hid hs
 clear hs
 go_enter Try.func124, Try.ntmps124
 have RA := Lib.hid ((Row8.place w .u8 s 77 w.heap.size rfl ls).alloc (.cells #[.int .u8 0, .int .u8 0, .int .u8 0, .int .u8 0, .int .u8 0, .int .u8 0, .int .u8 0, .int .u8 0] 77))
 have RZ := Lib.hid (Row8.zeros (w.alloc (.cells #[.int .u8 (at8 s 0), .int .u8 (at8 s 1), .int .u8 (at8 s 2), .int .u8 (at8 s 3), .int .u8 (at8 s 4), .int .u8 (at8 s 5), .int .u8 (at8 s 6), .int .u8 (at8 s 7)] 77)) .u8 77 (w.heap.size + 1) (by simp))
 have BB := Lib.hid (below2 w (.cells #[.int .u8 (at8 s 0), .int .u8 (at8 s 1), .int .u8 (at8 s 2), .int .u8 (at8 s 3), .int .u8 (at8 s 4), .int .u8 (at8 s 5), .int .u8 (at8 s 6), .int .u8 (at8 s 7)] 77) (.cells #[.int .u8 0, .int .u8 0, .int .u8 0, .int .u8 0, .int .u8 0, .int .u8 0, .int .u8 0, .int .u8 0] 77))
 have LS := Lib.hid ls
 clear ls
 obtain ⟨⟨qRA0, qRA1, qRA2, qRA3⟩, qRA4, qRA5, qRA6, qRA7⟩ := RA.out.all
 go_wp2_with fail
 refine (l02Back_any n s HS.out _).mono ?_
 rintro e w2 ⟨rfl, hb⟩
 clear qRA0 qRA1 qRA2 qRA3 qRA4 qRA5 qRA6 qRA7
 replace RA := Lib.hid (RA.out.below hb)
 replace RZ := Lib.hid (RZ.out.below hb)
 replace BB := Lib.hid (below_go BB.out hb BB.out.size)
 clear hb
 obtain ⟨⟨qRA0, qRA1, qRA2, qRA3⟩, qRA4, qRA5, qRA6, qRA7⟩ := RA.out.all
 go_wp2_with fail
 refine (l02Half_any n h8 _).mono ?_
 rintro e w4 ⟨rfl, hb⟩
 clear qRA0 qRA1 qRA2 qRA3 qRA4 qRA5 qRA6 qRA7
 replace RA := Lib.hid (RA.out.below hb)
 replace RZ := Lib.hid (RZ.out.below hb)
 replace BB := Lib.hid (below_go BB.out hb BB.out.size)
 clear hb
 obtain ⟨⟨qRA0, qRA1, qRA2, qRA3⟩, qRA4, qRA5, qRA6, qRA7⟩ := RA.out.all
 go_wp2_with fail
 refine (l02Then_any n h8 (backR n s) (halfR n) (mapR_len _ _ h8) (mapR_len _ _ h8) (backR_sim HS.out).wide _).mono ?_
 rintro e w6 ⟨rfl, hb⟩
 clear qRA0 qRA1 qRA2 qRA3 qRA4 qRA5 qRA6 qRA7
 replace RA := Lib.hid (RA.out.below hb)
 replace RZ := Lib.hid (RZ.out.below hb)
 replace BB := Lib.hid (below_go BB.out hb BB.out.size)
 clear hb
 obtain ⟨⟨d0, d1, d2, d3⟩, d4, d5, d6, d7⟩ := RZ.out.all
 obtain ⟨⟨f0, f1, f2, f3⟩, f4, f5, f6, f7⟩ := RZ.out.frees
 have zq := RZ.out.lt
 go_wp2
 obtain ⟨⟨e0, e1, e2, e3⟩, e4, e5, e6, e7⟩ := (RZ.out.fill (thenR n (backR n s) (halfR n)) (mapR_len _ _ h8)).all
 refine bodyPost_ret (v := arr8 .u8 (thenR n (backR n s) (halfR n))) (by simp [results, Try.results124, go_sem, e0, e1, e2, e3, e4, e5, e6, e7]) rfl ⟨rfl, ?_⟩
 exact below_fill8 BB.out _ (by omega) _ _ _ _ _ _ _ _

end Go.Proofs.Yteffndmifogicaa

namespace Go.Proofs.Yteffndmifogicaa
open Go.RowKit Go.ChangeShapes

end Go.Proofs.Yteffndmifogicaa

namespace Go.Proofs.Yteffndmifogicaa
open Go.RowKit Go.ChangeShapes

set_option maxRecDepth 100000 in
set_option maxHeartbeats 1000000 in
theorem l02Exchange_any (n k : Nat) (h8 : n ≤ 8) (hk : k + 1 < n) (w : World) :
  Calls Try.prog 96 #[.int .i64 n, .int .i64 ((k : Int) + 1)] w (RetArr .u8 w (exR n k)) := by
 go_enter Try.func96, Try.ntmps96
 have RZ := Lib.hid (Row8.zeros w .u8 77 w.heap.size rfl)
 have BB := Lib.hid (below1 w (.cells #[.int .u8 0, .int .u8 0, .int .u8 0, .int .u8 0, .int .u8 0, .int .u8 0, .int .u8 0, .int .u8 0] 77))
 go_wp2_with fail
 refine (l02Same_any n h8 _).mono ?_
 rintro e w2 ⟨rfl, hb⟩
 replace RZ := Lib.hid (RZ.out.below hb)
 replace BB := Lib.hid (below_go BB.out hb BB.out.size)
 clear hb
 have zh := RZ.out.lt
 have RO := Lib.hid (Row8.place w2 .u8 (sameR n) 77 w2.heap.size rfl (mapR_len _ _ h8))
 replace RZ := Lib.hid (RZ.out.alloc (.cells #[.int .u8 (at8 (sameR n) 0), .int .u8 (at8 (sameR n) 1), .int .u8 (at8 (sameR n) 2), .int .u8 (at8 (sameR n) 3), .int .u8 (at8 (sameR n) 4), .int .u8 (at8 (sameR n) 5), .int .u8 (at8 (sameR n) 6), .int .u8 (at8 (sameR n) 7)] 77))
 replace BB := Lib.hid (BB.out.alloc BB.out.size (.cells #[.int .u8 (at8 (sameR n) 0), .int .u8 (at8 (sameR n) 1), .int .u8 (at8 (sameR n) 2), .int .u8 (at8 (sameR n) 3), .int .u8 (at8 (sameR n) 4), .int .u8 (at8 (sameR n) 5), .int .u8 (at8 (sameR n) 6), .int .u8 (at8 (sameR n) 7)] 77))
 go_upto_region 2 with fail
 obtain ⟨W, hW⟩ : ∃ W, W = w2.alloc (.cells #[.int .u8 (at8 (sameR n) 0), .int .u8 (at8 (sameR n) 1), .int .u8 (at8 (sameR n) 2), .int .u8 (at8 (sameR n) 3), .int .u8 (at8 (sameR n) 4), .int .u8 (at8 (sameR n) 5), .int .u8 (at8 (sameR n) 6), .int .u8 (at8 (sameR n) 7)] 77) := ⟨_, rfl⟩
 rw [← hW] at RZ RO BB ⊢
 clear hW
 obtain ⟨gh, hgh⟩ : ∃ gh, gh = w2.heap.size := ⟨_, rfl⟩
 rw [← hgh] at RO zh ⊢
 clear hgh
 have zb : w.heap.size < gh := by omega
 have z2 := RO.out.lt
 have b1 : (k : Int) + 1 < 8 := by omega
 have b2 : (k : Int) < 8 := by omega
 have f1 := RO.out.free k (by omega)
 have f2 := RO.out.free (k + 1) (by omega)
 have c1 := RO.out.cell k (by omega)
 have c2 := RO.out.cell (k + 1) (by omega)
 go_upto_region 4 with fail
 have RN := Lib.hid ((RO.out.store k (by omega) ((k : Int) + 1)).store (k + 1) (by omega) (k : Int))
 replace RZ := Lib.hid ((RZ.out.setCell (p := ⟨gh, k, none⟩) (by simp; omega) (.int .u8 ((k : Int) + 1))).setCell (p := ⟨gh, k + 1, none⟩) (by simp; omega) (.int .u8 (k : Int)))
 replace BB := Lib.hid ((BB.out.setCell (p := ⟨gh, k, none⟩) (by simp; omega) (.int .u8 ((k : Int) + 1))).setCell (p := ⟨gh, k + 1, none⟩) (by simp; omega) (.int .u8 (k : Int)))
 clear f1 f2 c1 c2 z2
 obtain ⟨X, hX⟩ : ∃ X, X = ((W.setCell ⟨gh, k, none⟩ (.int .u8 ((k : Int) + 1))).setCell ⟨gh, k + 1, none⟩ (.int .u8 (k : Int))) := ⟨_, rfl⟩
 rw [← hX] at RZ RN BB ⊢
 clear hX
 obtain ⟨⟨c0, c1, c2, c3⟩, c4, c5, c6, c7⟩ := RN.out.all
 obtain ⟨⟨d0, d1, d2, d3⟩, d4, d5, d6, d7⟩ := RZ.out.all
 obtain ⟨⟨f0, f1, f2, f3⟩, f4, f5, f6, f7⟩ := RZ.out.frees
 have zq := RZ.out.lt
 go_wp2
 obtain ⟨⟨e0, e1, e2, e3⟩, e4, e5, e6, e7⟩ := (RZ.out.fill (((sameR n).set k ((k : Int) + 1)).set (k + 1) (k : Int)) (exR_len n k h8)).all
 refine bodyPost_ret (v := arr8 .u8 (((sameR n).set k ((k : Int) + 1)).set (k + 1) (k : Int))) (by simp [results, Try.results96, go_sem, e0, e1, e2, e3, e4, e5, e6, e7]) rfl ⟨rfl, ?_⟩
 exact below_fill8 BB.out _ (by omega) _ _ _ _ _ _ _ _

set_option maxRecDepth 100000 in
set_option maxHeartbeats 1000000 in
theorem exchange_any (n k : Nat) (h8 : n ≤ 8) (hk : k + 1 < n) (w : World) :
  Calls Try.prog 74 #[.int .i64 ((k : Int) + 1), .int .i64 n] w (RetArr .u8 w (exR n k)) := by
 go_enter Try.func74, Try.ntmps74
 have RZ := Lib.hid (Row8.zeros w .u8 77 w.heap.size rfl)
 have BB := Lib.hid (below1 w (.cells #[.int .u8 0, .int .u8 0, .int .u8 0, .int .u8 0, .int .u8 0, .int .u8 0, .int .u8 0, .int .u8 0] 77))
 go_wp2_with fail
 refine (nothing_any n h8 _).mono ?_
 rintro e w2 ⟨rfl, hb⟩
 replace RZ := Lib.hid (RZ.out.below hb)
 replace BB := Lib.hid (below_go BB.out hb BB.out.size)
 clear hb
 have zh := RZ.out.lt
 have RO := Lib.hid (Row8.place w2 .u8 (sameR n) 77 w2.heap.size rfl (mapR_len _ _ h8))
 replace RZ := Lib.hid (RZ.out.alloc (.cells #[.int .u8 (at8 (sameR n) 0), .int .u8 (at8 (sameR n) 1), .int .u8 (at8 (sameR n) 2), .int .u8 (at8 (sameR n) 3), .int .u8 (at8 (sameR n) 4), .int .u8 (at8 (sameR n) 5), .int .u8 (at8 (sameR n) 6), .int .u8 (at8 (sameR n) 7)] 77))
 replace BB := Lib.hid (BB.out.alloc BB.out.size (.cells #[.int .u8 (at8 (sameR n) 0), .int .u8 (at8 (sameR n) 1), .int .u8 (at8 (sameR n) 2), .int .u8 (at8 (sameR n) 3), .int .u8 (at8 (sameR n) 4), .int .u8 (at8 (sameR n) 5), .int .u8 (at8 (sameR n) 6), .int .u8 (at8 (sameR n) 7)] 77))
 go_upto_region 2 with fail
 obtain ⟨W, hW⟩ : ∃ W, W = w2.alloc (.cells #[.int .u8 (at8 (sameR n) 0), .int .u8 (at8 (sameR n) 1), .int .u8 (at8 (sameR n) 2), .int .u8 (at8 (sameR n) 3), .int .u8 (at8 (sameR n) 4), .int .u8 (at8 (sameR n) 5), .int .u8 (at8 (sameR n) 6), .int .u8 (at8 (sameR n) 7)] 77) := ⟨_, rfl⟩
 rw [← hW] at RZ RO BB ⊢
 clear hW
 obtain ⟨gh, hgh⟩ : ∃ gh, gh = w2.heap.size := ⟨_, rfl⟩
 rw [← hgh] at RO zh ⊢
 clear hgh
 have zb : w.heap.size < gh := by omega
 have z2 := RO.out.lt
 have b1 : (k : Int) + 1 < 8 := by omega
 have b2 : (k : Int) < 8 := by omega
 have f1 := RO.out.free k (by omega)
 have f2 := RO.out.free (k + 1) (by omega)
 have c1 := RO.out.cell k (by omega)
 have c2 := RO.out.cell (k + 1) (by omega)
 rw [at8_same n k (by omega)] at c1
 rw [at8_same n (k + 1) (by omega)] at c2
 push_cast at c2
 have hw1 : IntKind.i64.wrap (k : Int) = k := IntWalk.i64_in _ (by omega)
 go_region
 clear hw1
 have RN := Lib.hid ((RO.out.store k (by omega) ((k : Int) + 1)).store (k + 1) (by omega) (k : Int)).drew
 replace RZ := Lib.hid ((RZ.out.setCell (p := ⟨gh, k, none⟩) (by simp; omega) (.int .u8 ((k : Int) + 1))).setCell (p := ⟨gh, k + 1, none⟩) (by simp; omega) (.int .u8 (k : Int))).drew
 replace BB := Lib.hid ((BB.out.setCell (p := ⟨gh, k, none⟩) (by simp; omega) (.int .u8 ((k : Int) + 1))).setCell (p := ⟨gh, k + 1, none⟩) (by simp; omega) (.int .u8 (k : Int))).drew
 clear f1 f2 c1 c2 z2
 obtain ⟨X, hX⟩ : ∃ X, X = ((W.setCell ⟨gh, k, none⟩ (.int .u8 ((k : Int) + 1))).setCell ⟨gh, k + 1, none⟩ (.int .u8 (k : Int))).drew := ⟨_, rfl⟩
 rw [← hX] at RZ RN BB ⊢
 clear hX
 obtain ⟨⟨c0, c1, c2, c3⟩, c4, c5, c6, c7⟩ := RN.out.all
 obtain ⟨⟨d0, d1, d2, d3⟩, d4, d5, d6, d7⟩ := RZ.out.all
 obtain ⟨⟨f0, f1, f2, f3⟩, f4, f5, f6, f7⟩ := RZ.out.frees
 have zq := RZ.out.lt
 go_wp2
 obtain ⟨⟨e0, e1, e2, e3⟩, e4, e5, e6, e7⟩ := (RZ.out.fill (((sameR n).set k ((k : Int) + 1)).set (k + 1) (k : Int)) (exR_len n k h8)).all
 refine bodyPost_ret (v := arr8 .u8 (((sameR n).set k ((k : Int) + 1)).set (k + 1) (k : Int))) (by simp [results, Try.results74, go_sem, e0, e1, e2, e3, e4, e5, e6, e7]) rfl ⟨rfl, ?_⟩
 exact below_fill8 BB.out _ (by omega) _ _ _ _ _ _ _ _

end Go.Proofs.Yteffndmifogicaa

namespace Go.Proofs.Yteffndmifogicaa
open Go.RowKit Go.ChangeShapes

theorem Wrote.trans {lo hi : Nat} {w w1 w2 : World} (h : Wrote lo hi w w1) (k : Wrote lo hi w1 w2) : Wrote lo hi w w2 :=
 ⟨k.os.trans h.os, k.tape.trans h.tape, k.output.trans h.output, Nat.le_trans h.size k.size, fun j hj hd => (k.block j (Nat.lt_of_lt_of_le hj h.size) hd).trans (h.block j hj hd)⟩
theorem Wrote.set {lo hi : Nat} {w w1 : World} (h : Wrote lo hi w w1) {p : Addr} (h1 : lo ≤ p.block) (h2 : p.block < hi) (x : Value) : Wrote lo hi w (w1.setCell p x) :=
 h.trans ⟨rfl, rfl, rfl, by simp [World.setCell], fun k _ hd => Below.heap_setCell _ _ _ _ (by omega)⟩
theorem Wrote.drawn {lo hi : Nat} {w w1 w2 : World} (h : Wrote lo hi w w1) (k : Below w1.heap.size w1 w2) : Wrote lo hi w w2 := h.trans (below_wrote k)

end Go.Proofs.Yteffndmifogicaa

namespace Go.Proofs.Yteffndmifogicaa
open Go.RowKit Go.ChangeShapes

/-- The cells of an array of eight numbers. -/
def cells8 (k : IntKind) (l : List Int) : Array Value := #[.int k (at8 l 0), .int k (at8 l 1), .int k (at8 l 2), .int k (at8 l 3), .int k (at8 l 4), .int k (at8 l 5), .int k (at8 l 6), .int k (at8 l 7)]

theorem part8 (l : List Int) (j : Nat) (hj : j < 8) (w : World) : (part 5 (cells8 .u8 l) (j * 1)).run Try.prog w = .ok (.int .u8 (at8 l j)) w := by
 have he : ∀ w, (isAgg 5).run Try.prog w = .ok false w := fun _ => by kernel_rfl
 have : j = 0 ∨ j = 1 ∨ j = 2 ∨ j = 3 ∨ j = 4 ∨ j = 5 ∨ j = 6 ∨ j = 7 := by omega
 rcases this with rfl | rfl | rfl | rfl | rfl | rfl | rfl | rfl <;> simp [part, he, cells8]

theorem eqItems8 (d : Nat) (l m : List Int) (w : World) (is : List Nat) (h : ∀ j ∈ is, j < 8) :
  (Op.eqItems (d + 1) 5 1 (cells8 .u8 l) (cells8 .u8 m) is).run Try.prog w = .ok (is.all fun j => at8 l j == at8 m j) w := by
 induction is with
 | nil => simp [Op.eqItems]
 | cons j is ih =>
  have hu : Try.prog.underlying 5 = some (.int .u8) := by kernel_rfl
  have h1 := part8 l j (h j (by simp)) w
  have h2 := part8 m j (h j (by simp)) w
  have h3 := run_equalIn_int w d 5 .u8 .u8 (at8 l j) (at8 m j) hu
  simp only [Op.eqItems, Sem.run_bind, h1, h2, h3, Result.andThen_ok, List.all_cons]
  cases hb : (at8 l j == at8 m j)
  ·simp
  ·simp only [Bool.not_true, Bool.false_eq_true, if_false, Bool.true_and]
   exact ih fun i hi => h i (by simp [hi])

theorem all8_eq (l m : List Int) (hl : l.length = 8) (hm : m.length = 8) : ((List.range 8).all fun j => at8 l j == at8 m j) = decide (l = m) := by
 rw [Bool.eq_iff_iff, List.all_eq_true, decide_eq_true_eq]
 constructor
 ·intro h
  exact ext8 hl hm fun j hj => by simpa using h j (List.mem_range.2 hj)
 ·intro h j _
  rw [h]
  simp

/-- Two arrays of eight bytes are compared. -/
theorem equal8 (l m : List Int) (hl : l.length = 8) (hm : m.length = 8) (w : World) :
  Sem.run Try.prog (Op.equalIn 10000 77 (arr8 .u8 l) (arr8 .u8 m)) w = .ok (decide (l = m)) w := by
 obtain ⟨i0, hi, hz0, hz1, hz2⟩ := info_parts infoByte
 have hu : Try.prog.underlying 77 = some (.array 8 5) := by kernel_rfl
 have hc : Try.prog.cellsOf 5 = 1 := by kernel_rfl
 refine (run_equalIn_array w 9999 (cells8 .u8 l) (cells8 .u8 m) hu hi).trans ?_
 rw [hc, eqItems8 9998 l m w _ (fun j hj => List.mem_range.1 hj), all8_eq l m hl hm]

end Go.Proofs.Yteffndmifogicaa

namespace Go.Proofs.Yteffndmifogicaa
open Go.RowKit Go.ChangeShapes

set_option maxRecDepth 100000 in
set_option maxHeartbeats 1000000 in
theorem beginsWith_any (k : Nat) (h8 : k + 1 < 8) (s : List Int) (ls : s.length = 8) (w : World) :
  Calls Try.prog 121 #[arr8 .u8 s, .int .i64 ((k : Int) + 1)] w fun e w' => e = .returned (.bool (decide (at8 s (k + 1) < at8 s k))) ∧ Below w.heap.size w w' := by
 go_enter Try.func121, Try.ntmps121
 have RA := Lib.hid (Row8.place w .u8 s 77 w.heap.size rfl ls)
 have BB := Lib.hid (below1 w (.cells #[.int .u8 (at8 s 0), .int .u8 (at8 s 1), .int .u8 (at8 s 2), .int .u8 (at8 s 3), .int .u8 (at8 s 4), .int .u8 (at8 s 5), .int .u8 (at8 s 6), .int .u8 (at8 s 7)] 77))
 obtain ⟨W, hW⟩ : ∃ W, W = (w.alloc (.cells #[.int .u8 (at8 s 0), .int .u8 (at8 s 1), .int .u8 (at8 s 2), .int .u8 (at8 s 3), .int .u8 (at8 s 4), .int .u8 (at8 s 5), .int .u8 (at8 s 6), .int .u8 (at8 s 7)] 77)) := ⟨_, rfl⟩
 have c1 := RA.out.cell k (by omega)
 have c2 := RA.out.cell (k + 1) (by omega)
 have z1 := RA.out.lt
 have hw1 : IntKind.i64.wrap (k : Int) = k := IntWalk.i64_in _ (by omega)
 have b1 : (k : Int) + 1 < 8 := by omega
 have b2 : (k : Int) < 8 := by omega
 go_wp2
 rw [← hW] at RA BB c1 c2 z1 ⊢
 clear hW
 go_quiet (fail)
 clear hw1
 go_wp2
 go_ret
 exact ⟨rfl, below_go BB.out (below_draws W.heap.size W nq) BB.out.size⟩

end Go.Proofs.Yteffndmifogicaa

namespace Go.Proofs.Yteffndmifogicaa
open Go.RowKit Go.ChangeShapes

set_option maxRecDepth 100000 in
set_option maxHeartbeats 1000000 in
theorem leftComplement_any (n : Nat) (s : List Int) (hs : Sim n s) (w : World) :
  Calls Try.prog 76 #[arr8 .u8 s, .int .i64 n] w (RetArr .u8 w (thenR n (halfR n) (backR n s))) := by
 have h8 := hs.hi
 have ls := hs.len
 have HS := Lib.hid hs
 clear hs
 go_enter Try.func76, Try.ntmps76
 have RA := Lib.hid ((Row8.place w .u8 s 77 w.heap.size rfl ls).alloc (.cells #[.int .u8 0, .int .u8 0, .int .u8 0, .int .u8 0, .int .u8 0, .int .u8 0, .int .u8 0, .int .u8 0] 77))
 have RZ := Lib.hid (Row8.zeros (w.alloc (.cells #[.int .u8 (at8 s 0), .int .u8 (at8 s 1), .int .u8 (at8 s 2), .int .u8 (at8 s 3), .int .u8 (at8 s 4), .int .u8 (at8 s 5), .int .u8 (at8 s 6), .int .u8 (at8 s 7)] 77)) .u8 77 (w.heap.size + 1) (by simp))
 have BB := Lib.hid (below2 w (.cells #[.int .u8 (at8 s 0), .int .u8 (at8 s 1), .int .u8 (at8 s 2), .int .u8 (at8 s 3), .int .u8 (at8 s 4), .int .u8 (at8 s 5), .int .u8 (at8 s 6), .int .u8 (at8 s 7)] 77) (.cells #[.int .u8 0, .int .u8 0, .int .u8 0, .int .u8 0, .int .u8 0, .int .u8 0, .int .u8 0, .int .u8 0] 77))
 have LS := Lib.hid ls
 clear ls
 obtain ⟨W, hW⟩ : ∃ W, W = ((w.alloc (.cells #[.int .u8 (at8 s 0), .int .u8 (at8 s 1), .int .u8 (at8 s 2), .int .u8 (at8 s 3), .int .u8 (at8 s 4), .int .u8 (at8 s 5), .int .u8 (at8 s 6), .int .u8 (at8 s 7)] 77)).alloc (.cells #[.int .u8 0, .int .u8 0, .int .u8 0, .int .u8 0, .int .u8 0, .int .u8 0, .int .u8 0, .int .u8 0] 77)) := ⟨_, rfl⟩
 go_wp2
 rw [← hW] at RA RZ BB ⊢
 clear hW
 have zb := BB.out.size
 obtain ⟨⟨q0, q1, q2, q3⟩, q4, q5, q6, q7⟩ := RA.out.all
 go_region_held3 (fun w' => w'.cell? ⟨w.heap.size, 0, none⟩ = some (.int .u8 (at8 s 0)) ∧ w'.cell? ⟨w.heap.size, 1, none⟩ = some (.int .u8 (at8 s 1)) ∧ w'.cell? ⟨w.heap.size, 2, none⟩ = some (.int .u8 (at8 s 2)) ∧ w'.cell? ⟨w.heap.size, 3, none⟩ = some (.int .u8 (at8 s 3)) ∧ w'.cell? ⟨w.heap.size, 4, none⟩ = some (.int .u8 (at8 s 4)) ∧ w'.cell? ⟨w.heap.size, 5, none⟩ = some (.int .u8 (at8 s 5)) ∧ w'.cell? ⟨w.heap.size, 6, none⟩ = some (.int .u8 (at8 s 6)) ∧ w'.cell? ⟨w.heap.size, 7, none⟩ = some (.int .u8 (at8 s 7))) (first | with_reducible exact (RA.out.drew).flat | with_reducible exact (RA.out.drew.below hb1).flat | with_reducible exact ((RA.out.drew.below hb1).below hb2).flat | with_reducible exact (((RA.out.drew.below hb1).below hb2).below hb3).flat | with_reducible exact ((((RA.out.drew.below hb1).below hb2).below hb3).past (w.heap.size + 1) (by omega) _ _ _ _ _ _ _ _).flat)
  (first
   | (go_at_call 52; refine (halfTurn_any n h8 _).mono ?_; rintro e w1 ⟨rfl, hb1⟩)
   | (go_at_call 102; refine (back_any n s HS.out _).mono ?_; rintro e w2 ⟨rfl, hb2⟩)
   | (go_at_call 103; refine (then_any n h8 (halfR n) (backR n s) (mapR_len _ _ h8) (mapR_len _ _ h8) (halfR_sim n HS.out.lo h8).wide _).mono ?_; rintro e w3 ⟨rfl, hb3⟩; obtain ⟨⟨d0, d1, d2, d3⟩, d4, d5, d6, d7⟩ := (((RZ.out.drew.below hb1).below hb2).below hb3).all; obtain ⟨⟨f0, f1, f2, f3⟩, f4, f5, f6, f7⟩ := (((RZ.out.drew.below hb1).below hb2).below hb3).frees; have zq := (((RZ.out.drew.below hb1).below hb2).below hb3).lt))
 have R3 := Lib.hid (((RZ.out.drew.below hb1).below hb2).below hb3)
 have B3 := Lib.hid (below_go (below_go (below_go BB.out.drew hb1 zb) hb2 (Nat.le_trans zb hb1.size)) hb3 (Nat.le_trans (Nat.le_trans zb hb1.size) hb2.size))
 clear BB
 have BB := B3
 clear hb1 hb2 hb3
 go_wp2
 obtain ⟨⟨e0, e1, e2, e3⟩, e4, e5, e6, e7⟩ := (R3.out.fill (thenR n (halfR n) (backR n s)) (mapR_len _ _ h8)).all
 refine bodyPost_ret (v := arr8 .u8 (thenR n (halfR n) (backR n s))) (by simp [results, Try.results76, go_sem, e0, e1, e2, e3, e4, e5, e6, e7]) rfl ⟨rfl, ?_⟩
 exact below_fill8 BB.out _ (by omega) _ _ _ _ _ _ _ _

set_option maxRecDepth 100000 in
set_option maxHeartbeats 1000000 in
theorem l02Left_any (n : Nat) (s : List Int) (hs : Sim n s) (w : World) :
  Calls Try.prog 100 #[arr8 .u8 s, .int .i64 n] w (RetArr .u8 w (thenR n (halfR n) (backR n s))) := by
 have h8 := hs.hi
 have ls := hs.len
 have HS := Lib.hid hs
 clear hs
 go_enter Try.func100, Try.ntmps100
 have RA := Lib.hid ((Row8.place w .u8 s 77 w.heap.size rfl ls).alloc (.cells #[.int .u8 0, .int .u8 0, .int .u8 0, .int .u8 0, .int .u8 0, .int .u8 0, .int .u8 0, .int .u8 0] 77))
 have RZ := Lib.hid (Row8.zeros (w.alloc (.cells #[.int .u8 (at8 s 0), .int .u8 (at8 s 1), .int .u8 (at8 s 2), .int .u8 (at8 s 3), .int .u8 (at8 s 4), .int .u8 (at8 s 5), .int .u8 (at8 s 6), .int .u8 (at8 s 7)] 77)) .u8 77 (w.heap.size + 1) (by simp))
 have BB := Lib.hid (below2 w (.cells #[.int .u8 (at8 s 0), .int .u8 (at8 s 1), .int .u8 (at8 s 2), .int .u8 (at8 s 3), .int .u8 (at8 s 4), .int .u8 (at8 s 5), .int .u8 (at8 s 6), .int .u8 (at8 s 7)] 77) (.cells #[.int .u8 0, .int .u8 0, .int .u8 0, .int .u8 0, .int .u8 0, .int .u8 0, .int .u8 0, .int .u8 0] 77))
 have LS := Lib.hid ls
 clear ls
 obtain ⟨W, hW⟩ : ∃ W, W = ((w.alloc (.cells #[.int .u8 (at8 s 0), .int .u8 (at8 s 1), .int .u8 (at8 s 2), .int .u8 (at8 s 3), .int .u8 (at8 s 4), .int .u8 (at8 s 5), .int .u8 (at8 s 6), .int .u8 (at8 s 7)] 77)).alloc (.cells #[.int .u8 0, .int .u8 0, .int .u8 0, .int .u8 0, .int .u8 0, .int .u8 0, .int .u8 0, .int .u8 0] 77)) := ⟨_, rfl⟩
 go_wp2
 rw [← hW] at RA RZ BB ⊢
 clear hW
 have zb := BB.out.size
 obtain ⟨⟨q0, q1, q2, q3⟩, q4, q5, q6, q7⟩ := RA.out.all
 go_region_held3 (fun w' => w'.cell? ⟨w.heap.size, 0, none⟩ = some (.int .u8 (at8 s 0)) ∧ w'.cell? ⟨w.heap.size, 1, none⟩ = some (.int .u8 (at8 s 1)) ∧ w'.cell? ⟨w.heap.size, 2, none⟩ = some (.int .u8 (at8 s 2)) ∧ w'.cell? ⟨w.heap.size, 3, none⟩ = some (.int .u8 (at8 s 3)) ∧ w'.cell? ⟨w.heap.size, 4, none⟩ = some (.int .u8 (at8 s 4)) ∧ w'.cell? ⟨w.heap.size, 5, none⟩ = some (.int .u8 (at8 s 5)) ∧ w'.cell? ⟨w.heap.size, 6, none⟩ = some (.int .u8 (at8 s 6)) ∧ w'.cell? ⟨w.heap.size, 7, none⟩ = some (.int .u8 (at8 s 7))) (first | with_reducible exact (RA.out.drew).flat | with_reducible exact (RA.out.drew.below hb1).flat | with_reducible exact ((RA.out.drew.below hb1).below hb2).flat | with_reducible exact (((RA.out.drew.below hb1).below hb2).below hb3).flat | with_reducible exact ((((RA.out.drew.below hb1).below hb2).below hb3).past (w.heap.size + 1) (by omega) _ _ _ _ _ _ _ _).flat)
  (first
   | (go_at_call 79; refine (l02Half_any n h8 _).mono ?_; rintro e w1 ⟨rfl, hb1⟩)
   | (go_at_call 108; refine (l02Back_any n s HS.out _).mono ?_; rintro e w2 ⟨rfl, hb2⟩)
   | (go_at_call 97; refine (l02Then_any n h8 (halfR n) (backR n s) (mapR_len _ _ h8) (mapR_len _ _ h8) (halfR_sim n HS.out.lo h8).wide _).mono ?_; rintro e w3 ⟨rfl, hb3⟩; obtain ⟨⟨d0, d1, d2, d3⟩, d4, d5, d6, d7⟩ := (((RZ.out.drew.below hb1).below hb2).below hb3).all; obtain ⟨⟨f0, f1, f2, f3⟩, f4, f5, f6, f7⟩ := (((RZ.out.drew.below hb1).below hb2).below hb3).frees; have zq := (((RZ.out.drew.below hb1).below hb2).below hb3).lt))
 have R3 := Lib.hid (((RZ.out.drew.below hb1).below hb2).below hb3)
 have B3 := Lib.hid (below_go (below_go (below_go BB.out.drew hb1 zb) hb2 (Nat.le_trans zb hb1.size)) hb3 (Nat.le_trans (Nat.le_trans zb hb1.size) hb2.size))
 clear BB
 have BB := B3
 clear hb1 hb2 hb3
 go_wp2
 obtain ⟨⟨e0, e1, e2, e3⟩, e4, e5, e6, e7⟩ := (R3.out.fill (thenR n (halfR n) (backR n s)) (mapR_len _ _ h8)).all
 refine bodyPost_ret (v := arr8 .u8 (thenR n (halfR n) (backR n s))) (by simp [results, Try.results100, go_sem, e0, e1, e2, e3, e4, e5, e6, e7]) rfl ⟨rfl, ?_⟩
 exact below_fill8 BB.out _ (by omega) _ _ _ _ _ _ _ _

end Go.Proofs.Yteffndmifogicaa

namespace Go.Proofs.Yteffndmifogicaa
open Go.RowKit Go.ChangeShapes

end Go.Proofs.Yteffndmifogicaa

namespace Go.Proofs.Yteffndmifogicaa
open Go.RowKit

theorem run_append_none {P : Program} {w : World} (base : Nat) (t ty e : TypeId) (i : TypeInfo) (size : Nat) (ht : P.underlying t = some (.slice e)) (hi : P.info? e = some i)
  (v : Value) (n c : Nat) (xs : List Value) (hown : w.ownsRow base e size v n xs) :
  (Builtin.append_ #[t, t] ty #[v, .slice none 0 c]).run P w = .ok v w := by
 rcases hown.2 with ⟨rfl, rfl⟩ | ⟨g, cap, cur, rfl, _, _, hnc, _⟩
 ·simp [Builtin.append_, run_underlying ht, sizeOf, typeInfo, hi, Builtin.lenOf, Builtin.firstCells]
 ·simp [Builtin.append_, run_underlying ht, sizeOf, typeInfo, hi, Builtin.lenOf, Builtin.firstCells, hnc, storeCells]

theorem Reads.news {w : World} {ad : Addr} {m : Nat} {ys : List Int} (h : Reads w (some ad) m ys) : ∀ j u, (ints ys)[j]? = some u → w.cell? (ad.add j) = some u := by
 intro j u hj
 have hl := h.len
 have hjm : j < m := by
  have := (List.getElem?_eq_some_iff.1 hj).1
  simp [ints] at this
  omega
 rcases h.2 with h0 | ⟨b, off, ha, hc⟩
 ·omega
 ·cases ha
  rw [Addr.add_lit, hc j hjm, ← hj]
  simp [ints, List.getD, show j < ys.length by omega]

end Go.Proofs.Yteffndmifogicaa

namespace Go.Proofs.Yteffndmifogicaa
open Go.RowKit

/-- The slice at a lies in another block than the growing slice v. -/
def Sep (w : World) (v : Value) (a : Option Addr) : Prop := ∀ x, a = some x → x.block < w.heap.size ∧ v.ownBlock ≠ some x.block

theorem Sep.grown {w w' : World} {v v' : Value} {a : Option Addr} (h : Sep w v a) (hg : w.grownBy w' v.ownBlock) (hv : v'.ownBlock = v.ownBlock ∨ v'.ownBlock = some w.heap.size) : Sep w' v' a := by
 intro x hx
 obtain ⟨h1, h2⟩ := h x hx
 refine ⟨Nat.lt_of_lt_of_le h1 hg.size, fun e => ?_⟩
 rcases hv with hv | hv
 ·exact h2 (hv ▸ e)
 ·rw [hv] at e
  simp only [Option.some.injEq] at e
  omega

theorem Sep.below {w w' : World} {v : Value} {a : Option Addr} (h : Sep w v a) (hs : w.heap.size ≤ w'.heap.size) : Sep w' v a := fun x hx => ⟨Nat.lt_of_lt_of_le (h x hx).1 hs, (h x hx).2⟩

end Go.Proofs.Yteffndmifogicaa

namespace Go.Proofs.Yteffndmifogicaa
open Go.RowKit Go.ChangeShapes

/-- The slice value v of n rows is the call's own, in blocks from B on. -/
def OwnAV (B : Nat) (w : World) (v : Value) (n : Nat) (rs : List (List Int)) : Prop := Rows8 rs ∧ w.ownsRow B 77 8 v n (flat8 rs)

theorem OwnAV.form {B : Nat} {w : World} {v : Value} {n : Nat} {rs : List (List Int)} (h : OwnAV B w v n rs) : ∃ a cap, v = .slice a n cap ∧ OwnA B w a n cap rs := by
 obtain ⟨h8, hh⟩ := h
 have h1 := hh
 rcases h1.2 with ⟨hv, h0⟩ | ⟨g, c, cur, hv, _⟩
 ·subst h0
  exact ⟨none, 0, hv, h8, by rw [hv] at hh; exact hh⟩
 ·exact ⟨_, c, hv, h8, by rw [hv] at hh; exact hh⟩

theorem OwnAV.of {B : Nat} {w : World} {a : Option Addr} {n cap : Nat} {rs : List (List Int)} (h : OwnA B w a n cap rs) : OwnAV B w (.slice a n cap) n rs := h

theorem OwnAV.rows {B : Nat} {w : World} {v : Value} {n : Nat} {rs : List (List Int)} (h : OwnAV B w v n rs) : Rows8 rs := h.1

theorem OwnAV.len {B : Nat} {w : World} {v : Value} {n : Nat} {rs : List (List Int)} (h : OwnAV B w v n rs) : rs.length = n := by
 have := h.2.1
 rw [flat8_len] at this
 omega

theorem OwnAV.nil (B : Nat) (w : World) : OwnAV B w (.slice none 0 0) 0 [] := OwnA.nil B w

theorem OwnAV.empty (w : World) : OwnAV w.heap.size (w.alloc (.cells #[] 77)) (.slice (some ⟨w.heap.size, 0, none⟩) 0 0) 0 [] := by
 have := World.ownsRow_lit (base := w.heap.size) (size := 8) (e := 77) w #[] 0 (Nat.le_refl _) (Nat.zero_le _) rfl
 exact ⟨(fun _ hr => absurd hr List.not_mem_nil), this⟩

theorem OwnAV.drawn {B : Nat} {w w1 : World} {v : Value} {n : Nat} {rs : List (List Int)} (h : OwnAV B w v n rs) (k : Below w.heap.size w w1) : OwnAV B w1 v n rs := by
 obtain ⟨a, cap, rfl, ho⟩ := h.form
 exact ho.below k

theorem OwnAV.low {B B' : Nat} {w : World} {v : Value} {n : Nat} {rs : List (List Int)} (h : OwnAV B w v n rs) (hB : B' ≤ B) : OwnAV B' w v n rs := by
 obtain ⟨a, cap, rfl, ho⟩ := h.form
 exact ho.mono hB

theorem OwnAV.drew {B : Nat} {w : World} {v : Value} {n : Nat} {rs : List (List Int)} (h : OwnAV B w v n rs) : OwnAV B w.drew v n rs := h

theorem flat8_append (xs ys : List (List Int)) : flat8 (xs ++ ys) = flat8 xs ++ flat8 ys := List.flatMap_append

theorem flat8_cells (ys : List (List Int)) : ∀ u ∈ flat8 ys, u.oneCell' = true := by
 intro u hu
 obtain ⟨r, _, h⟩ := List.mem_flatMap.1 hu
 simp only [bytes8, List.mem_cons, List.not_mem_nil, or_false] at h
 rcases h with rfl | rfl | rfl | rfl | rfl | rfl | rfl | rfl <;> rfl

theorem ReadsA.news {w : World} {ad : Addr} {m : Nat} {ys : List (List Int)} (h : ReadsA w (some ad) m ys) : ∀ j u, (flat8 ys)[j]? = some u → w.cell? (ad.add j) = some u := by
 intro j u hj
 have hl := h.len
 have hjm : j < m * 8 := by
  have := (List.getElem?_eq_some_iff.1 hj).1
  rw [flat8_len] at this
  omega
 rcases h.2.2 with h0 | ⟨b, off, ha, hc⟩
 ·omega
 ·cases ha
  have h1 := hc (j / 8) (by omega) (j % 8) (by omega)
  have h2 := flat8_get ys (j / 8) (j % 8) (by omega) (by omega)
  rw [show j / 8 * 8 + j % 8 = j by omega, hj] at h2
  rw [Addr.add_lit, h2, ← h1, show off + j / 8 * 8 + j % 8 = off + j by omega]

theorem wp_append_rows_at {P : Program} {w : World} {o : Oper} {a : Act} {K : Act → World → Prop} {Q : Exit → Act → World → Prop} (s x : Operand) (t : TypeId)
  (ho : o.op = .call { callee := .builtin .append, args := #[s, x], argTypes := #[t, t] })
  (base : Nat) (i : TypeInfo) (ht : P.underlying t = some (.slice 77)) (hi : P.info? 77 = some i) (hz : i.zero = some (.agg #[Value.int .u8 0, .int .u8 0, .int .u8 0, .int .u8 0, .int .u8 0, .int .u8 0, .int .u8 0, .int .u8 0])) (hsize : i.size = 8) (hby : i.bytes = 8)
  (v : Value) (n : Nat) (xs : List (List Int)) (hs : a.eval s = v) (hown : OwnAV base w v n xs)
  (ao : Option Addr) (m c : Nat) (ys : List (List Int)) (hx : a.eval x = .slice ao m c) (hr : ReadsA w ao m ys)
  (hlen : n + m ≤ 4294967296) (hbase : base ≤ w.heap.size)
  (h : ∀ v' w', OwnAV base w' v' (n + m) (xs ++ ys) → w.grownBy w' v.ownBlock → (v'.ownBlock = v.ownBlock ∨ v'.ownBlock = some w.heap.size) → K (a.put o.dst v') w') : o.wp P a w K Q := by
 have h8 : Rows8 (xs ++ ys) := fun r hr' => by
  rcases List.mem_append.1 hr' with h1 | h1
  ·exact hown.1 r h1
  ·exact hr.rows r h1
 cases ao with
 | some ad =>
  have hl : (flat8 ys).length = m * 8 := by rw [flat8_len, hr.len]
  obtain ⟨v', w', hrun, h2, h3, h4, h5⟩ := run_append_own_at (P := P) w base t o.type 77 i _ 8 8 ht hi hz hsize hby rfl (by decide) v n (flat8 xs) hown.2 ad m c (flat8 ys) hl hr.news (flat8_cells ys) (by unfold maxLen; omega) (by omega) hbase
  unfold Oper.wp execOp
  simp only [ho, resolve, invoke, builtin, Sem.run_bind, Sem.run_pure, Result.andThen_ok, List.map_toArray, List.map_cons, List.map_nil, hs, hx, hrun]
  refine h v' w' ⟨h8, ?_⟩ h3 h5
  rw [flat8_append]
  exact h2
 | none =>
  have hm : m = 0 := by
   rcases hr.2.2 with h0 | ⟨b, off, ha, _⟩
   ·exact h0
   ·cases ha
  subst hm
  have hy : ys = [] := List.eq_nil_of_length_eq_zero hr.len
  subst hy
  have hrun := run_append_none (P := P) (w := w) base t o.type 77 i 8 ht hi v n c (flat8 xs) hown.2
  unfold Oper.wp
  simp [execOp, ho, resolve, invoke, builtin, hs, hx, hrun, Result.andThen]
  exact h v w (by simpa using hown) (World.grownBy.refl _ _) (.inl rfl)

theorem wpList_append_rows_at {P : Program} {w : World} {ops : Array Oper} {rest : List Oper} {o : Oper} {a : Act} {Q : Exit → Act → World → Prop} (hgd : o.guard = none) (s x : Operand) (t : TypeId)
  (ho : o.op = .call { callee := .builtin .append, args := #[s, x], argTypes := #[t, t] })
  (base : Nat) (i : TypeInfo) (ht : P.underlying t = some (.slice 77)) (hi : P.info? 77 = some i) (hz : i.zero = some (.agg #[Value.int .u8 0, .int .u8 0, .int .u8 0, .int .u8 0, .int .u8 0, .int .u8 0, .int .u8 0, .int .u8 0])) (hsize : i.size = 8) (hby : i.bytes = 8)
  (v : Value) (n : Nat) (xs : List (List Int)) (hs : a.eval s = v) (hown : OwnAV base w v n xs)
  (ao : Option Addr) (m c : Nat) (ys : List (List Int)) (hx : a.eval x = .slice ao m c) (hr : ReadsA w ao m ys)
  (hlen : n + m ≤ 4294967296) (hbase : base ≤ w.heap.size)
  (h : ∀ v' w', OwnAV base w' v' (n + m) (xs ++ ys) → w.grownBy w' v.ownBlock → (v'.ownBlock = v.ownBlock ∨ v'.ownBlock = some w.heap.size) → wpList P ops Q rest (a.put o.dst v') w') : wpList P ops Q (o :: rest) a w :=
 wpList_plain hgd fun _ hK => wp_append_rows_at s x t ho base i ht hi hz hsize hby v n xs hs hown ao m c ys hx hr hlen hbase fun v' w' h1 h2 h3 => hK _ _ (h v' w' h1 h2 h3)

theorem step_append_rows_at {P : Program} {w : World} {ops : Array Oper} {o : Oper} {a : Act} {K : Act → World → Prop} {Q : Exit → Act → World → Prop} {E : Prop} (hgd : o.guard = none) (s x : Operand) (t : TypeId)
  (ho : o.op = .call { callee := .builtin .append, args := #[s, x], argTypes := #[t, t] })
  (base : Nat) (i : TypeInfo) (ht : P.underlying t = some (.slice 77)) (hi : P.info? 77 = some i) (hz : i.zero = some (.agg #[Value.int .u8 0, .int .u8 0, .int .u8 0, .int .u8 0, .int .u8 0, .int .u8 0, .int .u8 0, .int .u8 0])) (hsize : i.size = 8) (hby : i.bytes = 8)
  (v : Value) (n : Nat) (xs : List (List Int)) (hs : a.eval s = v) (hown : OwnAV base w v n xs)
  (ao : Option Addr) (m c : Nat) (ys : List (List Int)) (hx : a.eval x = .slice ao m c) (hr : ReadsA w ao m ys)
  (hlen : n + m ≤ 4294967296) (hbase : base ≤ w.heap.size)
  (h : ∀ v' w', OwnAV base w' v' (n + m) (xs ++ ys) → w.grownBy w' v.ownBlock → (v'.ownBlock = v.ownBlock ∨ v'.ownBlock = some w.heap.size) → K (a.put o.dst v') w') :
  if Region.wanted o (yielded ops a.tmps) = true then Oper.wp P o a w K Q else E := by
 have hw : Region.wanted o (yielded ops a.tmps) = true := by simp [Region.wanted, hgd]
 rw [if_pos hw]
 exact wp_append_rows_at s x t ho base i ht hi hz hsize hby v n xs hs hown ao m c ys hx hr hlen hbase h

/-- One row's own slice. -/
theorem readsA_one (w : World) (r : List Int) (h : r.length = 8) (t : TypeId) : ReadsA (w.alloc (.cells #[.int .u8 (at8 r 0), .int .u8 (at8 r 1), .int .u8 (at8 r 2), .int .u8 (at8 r 3), .int .u8 (at8 r 4), .int .u8 (at8 r 5), .int .u8 (at8 r 6), .int .u8 (at8 r 7)] t)) (some ⟨w.heap.size, 0, none⟩) 1 [r] := by
 refine ⟨rfl, fun x hx => by rw [List.mem_singleton.1 hx]; exact h, .inr ⟨w.heap.size, 0, rfl, fun j hj i hi => ?_⟩⟩
 have : j = 0 := by omega
 subst this
 have : i = 0 ∨ i = 1 ∨ i = 2 ∨ i = 3 ∨ i = 4 ∨ i = 5 ∨ i = 6 ∨ i = 7 := by omega
 rcases this with rfl | rfl | rfl | rfl | rfl | rfl | rfl | rfl <;> simp [rowAt]

theorem below_ownA {B C : Nat} {w wr w1 : World} {v : Value} {n : Nat} {xs : List (List Int)} (hbl : Below B w wr) (hs : B ≤ wr.heap.size) (hc : B ≤ C) (ho : OwnAV C wr v n xs) (hg : wr.grownBy w1 v.ownBlock) : Below B w w1 :=
 hbl.grown hg hs (fun k hk => Nat.le_trans hc (World.ownsRow.lt ho.2 k hk).1)

end Go.Proofs.Yteffndmifogicaa

namespace Go.Proofs.Yteffndmifogicaa
open Go.RowKit Go.ChangeShapes

/-- The slice at gb holds the rows; below the size of w all is as it was. -/
structure AtWei (w wx : World) (gb n c : Nat) (rows : List (List Int)) : Prop where
 own : OwnA w.heap.size wx (some ⟨gb, 0, none⟩) n c rows
 bel : Below w.heap.size w wx
 lo : w.heap.size ≤ gb
 hi : gb < wx.heap.size

theorem AtWei.below {w wx W : World} {gb n c : Nat} {rows : List (List Int)} (h : AtWei w wx gb n c rows) (hb : Below wx.heap.size wx W) : AtWei w W gb n c rows :=
 ⟨h.own.below hb, below_go h.bel hb h.bel.size, h.lo, Nat.lt_of_lt_of_le h.hi hb.size⟩
theorem AtWei.drew {w wx : World} {gb n c : Nat} {rows : List (List Int)} (h : AtWei w wx gb n c rows) : AtWei w wx.drew gb n c rows := h.below (Below.refl _ _).drew
theorem AtWei.alloc {w wx : World} {gb n c : Nat} {rows : List (List Int)} (h : AtWei w wx gb n c rows) (o : Obj) : AtWei w (wx.alloc o) gb n c rows := h.below ((Below.refl _ _).alloc (Nat.le_refl _) o)

theorem AtWei.setCell {w wx : World} {gb n c : Nat} {rows : List (List Int)} (h : AtWei w wx gb n c rows) {p : Addr} (hp : p.block ≠ gb) (hl : w.heap.size ≤ p.block) (v : Value) : AtWei w (wx.setCell p v) gb n c rows := by
 refine ⟨?_, h.bel.setCell hl v, h.lo, by simpa [World.setCell] using h.hi⟩
 obtain ⟨h0, h1, h2⟩ := h.own
 refine ⟨h0, h1, ?_⟩
 rcases h2 with h2 | ⟨g, c', cur, hv, hg, hh, r⟩
 ·exact .inl h2
 ·refine .inr ⟨g, c', cur, hv, hg, ?_, r⟩
  simp only [Value.slice.injEq, Option.some.injEq, Addr.mk.injEq] at hv
  rw [Below.heap_setCell _ _ _ _ (fun e => hp (by rw [hv.1.1]; exact e.symm)), hh]

theorem AtWei.fill {w wx : World} {gb n c : Nat} {rows : List (List Int)} (h : AtWei w wx gb n c rows) (g : Nat) (hg : g ≠ gb) (hl : w.heap.size ≤ g) (v0 v1 v2 v3 v4 v5 v6 v7 : Value) :
  AtWei w ((((((((wx.setCell ⟨g, 0, none⟩ v0).setCell ⟨g, 1, none⟩ v1).setCell ⟨g, 2, none⟩ v2).setCell ⟨g, 3, none⟩ v3).setCell ⟨g, 4, none⟩ v4).setCell ⟨g, 5, none⟩ v5).setCell ⟨g, 6, none⟩ v6).setCell ⟨g, 7, none⟩ v7) gb n c rows :=
 (((((((h.setCell (p := ⟨g, 0, none⟩) hg hl v0).setCell (p := ⟨g, 1, none⟩) hg hl v1).setCell (p := ⟨g, 2, none⟩) hg hl v2).setCell (p := ⟨g, 3, none⟩) hg hl v3).setCell (p := ⟨g, 4, none⟩) hg hl v4).setCell (p := ⟨g, 5, none⟩) hg hl v5).setCell (p := ⟨g, 6, none⟩) hg hl v6).setCell (p := ⟨g, 7, none⟩) hg hl v7

/-- A row is stored. -/
theorem AtWei.store {w wx : World} {gb n c : Nat} {rows : List (List Int)} (h : AtWei w wx gb n c rows) (k : Nat) (hk : k < n) (r : List Int) (hr : r.length = 8) :
  AtWei w ((((((((wx.setCell ⟨gb, k * 8, none⟩ (.int .u8 (at8 r 0))).setCell ⟨gb, k * 8 + 1, none⟩ (.int .u8 (at8 r 1))).setCell ⟨gb, k * 8 + 2, none⟩ (.int .u8 (at8 r 2))).setCell ⟨gb, k * 8 + 3, none⟩ (.int .u8 (at8 r 3))).setCell ⟨gb, k * 8 + 4, none⟩ (.int .u8 (at8 r 4))).setCell ⟨gb, k * 8 + 5, none⟩ (.int .u8 (at8 r 5))).setCell ⟨gb, k * 8 + 6, none⟩ (.int .u8 (at8 r 6))).setCell ⟨gb, k * 8 + 7, none⟩ (.int .u8 (at8 r 7))) gb n c (rows.set k r) :=
 ⟨h.own.store k hk r hr, (((((((h.bel.setCell (p := ⟨gb, k * 8, none⟩) h.lo _).setCell (p := ⟨gb, k * 8 + 1, none⟩) h.lo _).setCell (p := ⟨gb, k * 8 + 2, none⟩) h.lo _).setCell (p := ⟨gb, k * 8 + 3, none⟩) h.lo _).setCell (p := ⟨gb, k * 8 + 4, none⟩) h.lo _).setCell (p := ⟨gb, k * 8 + 5, none⟩) h.lo _).setCell (p := ⟨gb, k * 8 + 6, none⟩) h.lo _).setCell (p := ⟨gb, k * 8 + 7, none⟩) h.lo _, h.lo, by have := h.hi; simpa [World.setCell] using this⟩

theorem AtWei.row {w wx : World} {gb n c : Nat} {rows : List (List Int)} (h : AtWei w wx gb n c rows) (k : Nat) (hk : k < n) : Cells8 wx gb (k * 8) (rowAt rows k) := h.own.cellAt k hk

/-- A row beside a row of another block that is stored. -/
theorem Row8.pastAt {w : World} {g : Nat} {k : IntKind} {l : List Int} (h : Row8 w g k l) (g2 o : Nat) (hg : g2 ≠ g) (v0 v1 v2 v3 v4 v5 v6 v7 : Value) :
  Row8 ((((((((w.setCell ⟨g2, o, none⟩ v0).setCell ⟨g2, o + 1, none⟩ v1).setCell ⟨g2, o + 2, none⟩ v2).setCell ⟨g2, o + 3, none⟩ v3).setCell ⟨g2, o + 4, none⟩ v4).setCell ⟨g2, o + 5, none⟩ v5).setCell ⟨g2, o + 6, none⟩ v6).setCell ⟨g2, o + 7, none⟩ v7) g k l :=
 (((((((h.setCell (p := ⟨g2, o, none⟩) hg v0).setCell (p := ⟨g2, o + 1, none⟩) hg v1).setCell (p := ⟨g2, o + 2, none⟩) hg v2).setCell (p := ⟨g2, o + 3, none⟩) hg v3).setCell (p := ⟨g2, o + 4, none⟩) hg v4).setCell (p := ⟨g2, o + 5, none⟩) hg v5).setCell (p := ⟨g2, o + 6, none⟩) hg v6).setCell (p := ⟨g2, o + 7, none⟩) hg v7

theorem AtWei.cap {w wx : World} {gb n c : Nat} {rows : List (List Int)} (h : AtWei w wx gb n c rows) : n ≤ c := by
 rcases h.own.2.2 with ⟨hv, h0⟩ | ⟨g, c', cur, hv, _, _, h1, _⟩
 ·omega
 ·simp only [Value.slice.injEq] at hv
  omega

/-- A part of the slice. -/
theorem AtWei.sub {w wx : World} {gb n c : Nat} {rows : List (List Int)} (h : AtWei w wx gb n c rows) (f j : Nat) (hf : f ≤ j) (hj : j ≤ n) : ReadsA wx (some ⟨gb, f * 8, none⟩) (j - f) ((rows.take j).drop f) := by
 have hl := h.own.len
 refine ⟨by simp; omega, fun r hr => h.own.rows r (List.mem_of_mem_take (List.mem_of_mem_drop hr)), .inr ⟨gb, f * 8, rfl, fun t ht i hi => ?_⟩⟩
 have h1 := h.row (f + t) (by omega) i hi
 rw [show f * 8 + t * 8 + i = (f + t) * 8 + i by omega, h1]
 congr 3
 simp [rowAt, List.getD, List.getElem?_drop, show f + t < j by omega]

end Go.Proofs.Yteffndmifogicaa

namespace Go.Proofs.Yteffndmifogicaa
open Go.RowKit Go.ChangeShapes

theorem infoSimple : (Try.prog.info? 77).map (fun i => (i.zero, i.size, i.bytes)) = some (some (.agg #[Value.int .u8 0, .int .u8 0, .int .u8 0, .int .u8 0, .int .u8 0, .int .u8 0, .int .u8 0, .int .u8 0]), 8, 8) := by kernel_rfl

/-- A whole array stored into the middle of a block of the call's own. -/
theorem below_fill8a {B : Nat} {w w' : World} (h : Below B w w') (g : Nat) (hg : B ≤ g) (o : Nat) (v0 v1 v2 v3 v4 v5 v6 v7 : Value) :
  Below B w ((((((((w'.setCell ⟨g, o, none⟩ v0).setCell ⟨g, o + 1, none⟩ v1).setCell ⟨g, o + 2, none⟩ v2).setCell ⟨g, o + 3, none⟩ v3).setCell ⟨g, o + 4, none⟩ v4).setCell ⟨g, o + 5, none⟩ v5).setCell ⟨g, o + 6, none⟩ v6).setCell ⟨g, o + 7, none⟩ v7) :=
 (((((((h.setCell (p := ⟨g, o, none⟩) hg v0).setCell (p := ⟨g, o + 1, none⟩) hg v1).setCell (p := ⟨g, o + 2, none⟩) hg v2).setCell (p := ⟨g, o + 3, none⟩) hg v3).setCell (p := ⟨g, o + 4, none⟩) hg v4).setCell (p := ⟨g, o + 5, none⟩) hg v5).setCell (p := ⟨g, o + 6, none⟩) hg v6).setCell (p := ⟨g, o + 7, none⟩) hg v7

end Go.Proofs.Yteffndmifogicaa

namespace Go.Proofs.Yteffndmifogicaa
open Go.RowKit

/-- What a function that makes a braid hands back. -/
def MadeBraid (w : World) (s : Int) (xs : List Int) (e : Ending) (w' : World) : Prop :=
 ∃ a n cap, e = .returned (.agg #[.int .i64 s, .slice a n cap]) ∧ Own w.heap.size w' a n cap xs ∧ Below w.heap.size w w'

set_option maxHeartbeats 400000 in
theorem toBraid_any (s : Int) (a : Option Addr) (n cap : Nat) (xs : List Int) (w : World) (hr : Reads w a n xs) (hn : n ≤ 1048576) :
  Calls Try.prog 16 #[.agg #[.int .i64 s, .slice a n cap]] w (MadeBraid w s xs) := by
 have HR := Lib.hid hr; clear hr
 go_enter Try.func16, Try.ntmps16
 go_wp2_with fail
 refine (toInt64S_any _ _ _ xs _ (((HR.out.alloc _).alloc _).alloc _) hn).mono ?_
 rintro e w1 ⟨a1, c1, rfl, ho, hb⟩
 obtain ⟨hc, hf⟩ := bcell hb
 have hz : w.heap.size + 2 < w1.heap.size := by have := hb.size; simp at this; omega
 have HO := Lib.hid ho; clear ho
 have HB := Lib.hid hb; clear hb
 go_wp2
 refine bodyPost_ret (v := .agg #[.int .i64 s, .slice a1 n c1]) (by simp [results, Try.results16, go_sem, hc]) rfl ⟨a1, n, c1, rfl, ?_, ?_⟩
 ·exact (((HO.out.setCell_below (by simp) _).setCell_below (by simp) _).setCell_below (by simp) _).mono (by simp; omega)
 ·exact ((((below3 w _ _ _).trans (HB.out.mono (by simp; omega))).setCell (by simp; omega) _).setCell (by simp) _).setCell (by simp) _

/-- Two slices of different lengths differ. -/
theorem eqInt64S_len (a b : Option Addr) (n m ca cb : Nat) (w : World) (h : n ≠ m) :
  Calls Try.prog 21 #[.slice a n ca, .slice b m cb] w fun e w' => e = .returned (.bool false) ∧ w = w' := by
 have h1 : ((n : Int) != (m : Int)) = true := by simp; omega
 go_enter Try.func21, Try.ntmps21
 go_wp2
 go_ret
 exact ⟨rfl, rfl⟩

set_option maxHeartbeats 400000 in
theorem eqInt64S_same (a b : Option Addr) (n ca cb : Nat) (xs ys : List Int) (w : World) (ha : Reads w a n xs) (hb : Reads w b n ys) (hn : n ≤ maxLen) :
  Calls Try.prog 21 #[.slice a n ca, .slice b n cb] w fun e w' => e = .returned (.bool (decide (xs = ys))) ∧ Below w.heap.size w w' := by
 unfold maxLen at hn
 have h1 : ((n : Int) != (n : Int)) = false := by simp
 have hla := ha.len
 have hlb := hb.len
 have HLA := Lib.hid hla; clear hla
 have HLB := Lib.hid hlb; clear hlb
 rcases Nat.eq_zero_or_pos n with h0 | h0
 ·subst h0
  have HA := Lib.hid ha; clear ha
  have HB := Lib.hid hb; clear hb
  have hx : xs = [] := List.eq_nil_of_length_eq_zero HLA.out
  have hy : ys = [] := List.eq_nil_of_length_eq_zero HLB.out
  have HX := Lib.hid hx; clear hx
  have HY := Lib.hid hy; clear hy
  go_enter Try.func21, Try.ntmps21
  go_wp2
  refine wp_loop_rounds 1 ?_; rw [rounds_succ]
  go_wp2
  go_ret
  rw [HX.out, HY.out]
  exact ⟨rfl, Below.refl _ _⟩
 ·obtain ⟨ba, oa, rfl, hba, hca⟩ := ha.cells h0
  obtain ⟨bb, ob, rfl, hbb, hcb⟩ := hb.cells h0
  have HCA := Lib.hid hca; clear hca
  have HCB := Lib.hid hcb; clear hcb
  clear ha hb
  go_enter Try.func21, Try.ntmps21
  go_wp2
  go_loopw [5] (fun i wr => ∃ k : Nat, k ≤ n ∧ i = .int .i64 k ∧ Hid (∀ j, j < k → xs.getD j 0 = ys.getD j 0) ∧ Below w.heap.size w wr) (fun i _ => n - (intOf i).toNat)
  case atStart => exact ⟨0, Nat.zero_le _, rfl, Lib.hid (fun j hj => absurd hj (Nat.not_lt_zero _)), Below.refl _ _⟩
  case round =>
   obtain ⟨k, hk, rfl, HS, hbl⟩ := hrel
   by_cases hlt : k < n
   ·obtain ⟨x, hx⟩ : ∃ x, x = xs.getD k 0 := ⟨_, rfl⟩
    obtain ⟨y, hy⟩ : ∃ y, y = ys.getD k 0 := ⟨_, rfl⟩
    have c1 : wr.cell? ⟨ba, oa + k, none⟩ = some (.int .i64 x) := by rw [hx]; exact (hbl.cell (by exact hba)).trans (HCA.out k hlt)
    have c2 : wr.cell? ⟨bb, ob + k, none⟩ = some (.int .i64 y) := by rw [hy]; exact (hbl.cell (by exact hbb)).trans (HCB.out k hlt)
    have HX := Lib.hid hx; clear hx
    have HY := Lib.hid hy; clear hy
    have g0 : 0 ≤ (k : Int) := by omega
    have g1 : (k : Int) < (n : Int) := by omega
    by_cases hxy : x = y
    ·have t1 : (x != y) = false := by simp [hxy]
     have HXY := Lib.hid hxy; clear hxy
     go_wp2
     go_quiet (fail)
     go_wp2
     go_roundw
     case rel =>
      refine ⟨k + 1, by omega, by go_num, Lib.hid ?_, hbl.trans (below_draws _ _ _)⟩
      intro j hj
      by_cases hjk : j = k
      ·rw [hjk, ← HX.out, ← HY.out, HXY.out]
      ·exact HS.out j (by omega)
     case measure => simp [intOf]; omega
    ·have t1 : (x != y) = true := by simp [hxy]
     have HXY := Lib.hid hxy; clear hxy
     go_wp2
     go_quiet (fail)
     go_wp2
     go_ret
     refine ⟨?_, hbl.trans (below_draws _ _ _)⟩
     have : xs ≠ ys := fun e => HXY.out (by rw [HX.out, HY.out, e])
     simp [this]
   ·have hkn : k = n := by omega
    have HK := Lib.hid hkn; clear hkn
    go_wp2
    go_ret
    refine ⟨?_, hbl⟩
    have : xs = ys := eq_of_getD xs ys (HLA.out.trans HLB.out.symm) (by rw [HLA.out, ← HK.out]; exact HS.out)
    simp [this]

theorem eqInt64S_any (a b : Option Addr) (n m ca cb : Nat) (xs ys : List Int) (w : World) (ha : Reads w a n xs) (hb : Reads w b m ys) (hn : n ≤ maxLen) :
  Calls Try.prog 21 #[.slice a n ca, .slice b m cb] w fun e w' => e = .returned (.bool (decide (xs = ys))) ∧ Below w.heap.size w w' := by
 by_cases h : n = m
 ·subst h
  exact eqInt64S_same a b n ca cb xs ys w ha hb hn
 ·refine (eqInt64S_len a b n m ca cb w h).mono fun e w' ⟨he, hw⟩ => ?_
  subst hw
  refine ⟨?_, Below.refl _ _⟩
  have : xs ≠ ys := fun e => h (by rw [← ha.len, ← hb.len, e])
  rw [he]
  simp [this]

theorem eqBraid_any (s t : Int) (a b : Option Addr) (n m ca cb : Nat) (xs ys : List Int) (w : World) (ha : Reads w a n xs) (hb : Reads w b m ys) (hn : n ≤ maxLen) :
  Calls Try.prog 18 #[.agg #[.int .i64 s, .slice a n ca], .agg #[.int .i64 t, .slice b m cb]] w fun e w' => e = .returned (.bool (decide (s = t ∧ xs = ys))) ∧ Below w.heap.size w w' := by
 have HA := Lib.hid ha; clear ha
 have HB := Lib.hid hb; clear hb
 by_cases hst : s = t
 ·have t1 : (s != t) = false := by simp [hst]
  have HST := Lib.hid hst; clear hst
  obtain ⟨q, hq⟩ : ∃ q : Bool, q = decide (xs = ys) := ⟨_, rfl⟩
  have c := eqInt64S_any a b n m ca cb xs ys ((w.alloc (.cells #[.int .i64 s, .slice a n ca] 41)).alloc (.cells #[.int .i64 t, .slice b m cb] 41)) ((HA.out.alloc _).alloc _) ((HB.out.alloc _).alloc _) hn
  rw [← hq] at c
  have HQ := Lib.hid hq; clear hq
  have C := Lib.hid c; clear c
  cases q
  all_goals
   go_enter Try.func18, Try.ntmps18
   go_wp2_with (go_at_call 21; refine C.out.mono ?_; rintro e w1 ⟨rfl, hb1⟩)
   go_ret
   refine ⟨?_, (below2 w _ _).trans (hb1.mono (by simp; omega))⟩
   simp [HST.out, ← HQ.out]
 ·have t1 : (s != t) = true := by simp [hst]
  have HST := Lib.hid hst; clear hst
  go_enter Try.func18, Try.ntmps18
  go_wp2
  go_ret
  refine ⟨?_, below2 w _ _⟩
  have := HST.out
  simp [this]

end Go.Proofs.Yteffndmifogicaa

namespace Go.Proofs.Yteffndmifogicaa
open Go.RowKit

end Go.Proofs.Yteffndmifogicaa

namespace Go.Proofs.Yteffndmifogicaa
open Go.RowKit

theorem eqBraid_yes (s : Int) (a b : Option Addr) (n m ca cb : Nat) (xs : List Int) (w : World) (ha : Reads w a n xs) (hb : Reads w b m xs) (hn : n ≤ 1048576) :
  Calls Try.prog 18 #[.agg #[.int .i64 s, .slice a n ca], .agg #[.int .i64 s, .slice b m cb]] w fun e w' => e = .returned (.bool true) ∧ Below w.heap.size w w' :=
 (eqBraid_any s s a b n m ca cb xs xs w ha hb (by unfold maxLen; omega)).mono fun e w' ⟨he, hw⟩ => ⟨by rw [he]; simp, hw⟩

end Go.Proofs.Yteffndmifogicaa

namespace Go.Proofs.Yteffndmifogicaa
open Go.RowKit Go.ChangeShapes

end Go.Proofs.Yteffndmifogicaa

namespace Go.Proofs.Yteffndmifogicaa
open Go.RowKit Go.ChangeShapes

theorem At3.cells {w : World} {g : Nat} {u v x : Value} (h : At3 w g u v x) : w.cell? ⟨g, 0, none⟩ = some u ∧ w.cell? ⟨g, 1, none⟩ = some v ∧ w.cell? ⟨g, 2, none⟩ = some x := h.2.1

theorem ReadsA.same {w : World} {a b : Option Addr} {n m : Nat} {rs : List (List Int)} (ha : ReadsA w a n rs) (hb : ReadsA w b m rs) : n = m := by rw [← ha.len, ← hb.len]

end Go.Proofs.Yteffndmifogicaa

namespace Go.Proofs.Yteffndmifogicaa
open Go.RowKit Go.ChangeShapes

theorem rows_ext {rs ts : List (List Int)} (hl : rs.length = ts.length) (h : ∀ j, j < rs.length → rowAt rs j = rowAt ts j) : rs = ts := by
 refine List.ext_getElem hl fun j h1 h2 => ?_
 have := h j h1
 unfold rowAt at this
 simpa [List.getD, h1, h2] using this

theorem grown_set (w : World) (g o : Nat) (v : Value) : w.grownBy (w.setCell ⟨g, o, none⟩ v) (some g) :=
 ⟨rfl, rfl, rfl, by simp, fun k _ hk => heap_setCell_other w ⟨g, o, none⟩ k v (fun e => hk (by simp [e]))⟩

/-- The slice of rows is the call's own, in a block from lo to hi - 1. -/
def OwnAIn (lo hi : Nat) (w : World) (a : Option Addr) (n cap : Nat) (rs : List (List Int)) : Prop := OwnA lo w a n cap rs ∧ ∀ x, a = some x → x.block < hi

theorem OwnAIn.below {lo hi : Nat} {w w' : World} {a : Option Addr} {n cap : Nat} {rs : List (List Int)} (h : OwnAIn lo hi w a n cap rs) (k : Below w.heap.size w w') : OwnAIn lo hi w' a n cap rs := ⟨h.1.below k, h.2⟩
theorem OwnAIn.alloc {lo hi : Nat} {w : World} {a : Option Addr} {n cap : Nat} {rs : List (List Int)} (h : OwnAIn lo hi w a n cap rs) (o : Obj) : OwnAIn lo hi (w.alloc o) a n cap rs := ⟨h.1.alloc o, h.2⟩
theorem OwnAIn.drew {lo hi : Nat} {w : World} {a : Option Addr} {n cap : Nat} {rs : List (List Int)} (h : OwnAIn lo hi w a n cap rs) : OwnAIn lo hi w.drew a n cap rs := h
theorem OwnAIn.reads {lo hi : Nat} {w : World} {a : Option Addr} {n cap : Nat} {rs : List (List Int)} (h : OwnAIn lo hi w a n cap rs) : ReadsA w a n rs := h.1.reads
theorem OwnA.within {B : Nat} {w : World} {a : Option Addr} {n cap : Nat} {rs : List (List Int)} (h : OwnA B w a n cap rs) : OwnAIn B w.heap.size w a n cap rs := ⟨h, fun x hx => (h.lo x hx).2⟩

/-- The slice of rows that was there before. -/
def ReadsAOld (hi : Nat) (w : World) (a : Option Addr) (n : Nat) (rs : List (List Int)) : Prop := ReadsA w a n rs ∧ (n = 0 ∨ ∃ b off, a = some ⟨b, off, none⟩ ∧ b < hi)

theorem ReadsA.old {w : World} {a : Option Addr} {n : Nat} {rs : List (List Int)} (h : ReadsA w a n rs) : ReadsAOld w.heap.size w a n rs := by
 refine ⟨h, ?_⟩
 rcases Nat.eq_zero_or_pos n with h0 | h0
 ·exact .inl h0
 ·obtain ⟨b, off, ha, hb, _⟩ := h.cells h0
  exact .inr ⟨b, off, ha, hb⟩

theorem ReadsAOld.below {hi : Nat} {w w' : World} {a : Option Addr} {n : Nat} {rs : List (List Int)} (h : ReadsAOld hi w a n rs) (k : Below w.heap.size w w') : ReadsAOld hi w' a n rs := ⟨h.1.below k, h.2⟩
theorem ReadsAOld.alloc {hi : Nat} {w : World} {a : Option Addr} {n : Nat} {rs : List (List Int)} (h : ReadsAOld hi w a n rs) (o : Obj) : ReadsAOld hi (w.alloc o) a n rs := ⟨h.1.alloc o, h.2⟩
theorem ReadsAOld.drew {hi : Nat} {w : World} {a : Option Addr} {n : Nat} {rs : List (List Int)} (h : ReadsAOld hi w a n rs) : ReadsAOld hi w.drew a n rs := h

end Go.Proofs.Yteffndmifogicaa

namespace Go.Proofs.Yteffndmifogicaa
open Go.RowKit Go.ChangeShapes

/-- The slice is empty, or leads to rows of the call's own in a block from B on, and holds the rows. -/
def OwnS (B : Nat) (w : World) (a : Option Addr) (n : Nat) (rs : List (List Int)) : Prop :=
 Rows8 rs ∧ rs.length = n ∧ (n = 0 ∨ ∃ g off, a = some ⟨g, off, none⟩ ∧ B ≤ g ∧ g < w.heap.size ∧ (∀ j, j < n → ∀ i, i < 8 → w.cell? ⟨g, off + j * 8 + i, none⟩ = some (.int .u8 (at8 (rowAt rs j) i))) ∧ ∀ k, w.frozen? ⟨g, k, none⟩ = false)

theorem OwnA.toS {B : Nat} {w : World} {a : Option Addr} {n cap : Nat} {rs : List (List Int)} (h : OwnA B w a n cap rs) : OwnS B w a n rs := by
 refine ⟨h.rows, h.len, ?_⟩
 rcases Nat.eq_zero_or_pos n with h0 | h0
 ·exact .inl h0
 ·obtain ⟨g, rfl, hB, hg⟩ := h.block h0
  exact .inr ⟨g, 0, rfl, hB, hg, fun j hj i hi => by rw [Nat.zero_add]; exact h.cellAt j hj i hi, fun k => h.frozenAt k⟩

theorem OwnS.nil (B : Nat) (w : World) (a : Option Addr) : OwnS B w a 0 [] := ⟨(fun _ hr => absurd hr List.not_mem_nil), rfl, .inl rfl⟩

theorem OwnS.heap {B : Nat} {w w' : World} {a : Option Addr} {n : Nat} {rs : List (List Int)} (h : OwnS B w a n rs) (hs : w.heap.size ≤ w'.heap.size) (hb : ∀ x, a = some x → x.block < w.heap.size → B ≤ x.block → w'.heap[x.block]? = w.heap[x.block]?) : OwnS B w' a n rs := by
 obtain ⟨h1, h2, h | ⟨g, off, ha, hB, hg, hc, hf⟩⟩ := h
 ·exact ⟨h1, h2, .inl h⟩
 ·have e := hb _ ha hg hB
  exact ⟨h1, h2, .inr ⟨g, off, ha, hB, Nat.lt_of_lt_of_le hg hs, fun j hj i hi => by rw [World.cell?_of_block (w := w) (a := ⟨g, off + j * 8 + i, none⟩) e]; exact hc j hj i hi, fun k => by rw [World.frozen?_of_block (w := w) (a := ⟨g, k, none⟩) e]; exact hf k⟩⟩

theorem OwnS.below {B : Nat} {w w' : World} {a : Option Addr} {n : Nat} {rs : List (List Int)} (h : OwnS B w a n rs) (k : Below w.heap.size w w') : OwnS B w' a n rs := h.heap k.size fun _ _ hx _ => k.block _ hx
theorem OwnS.alloc {B : Nat} {w : World} {a : Option Addr} {n : Nat} {rs : List (List Int)} (h : OwnS B w a n rs) (o : Obj) : OwnS B (w.alloc o) a n rs := h.below ((Below.refl _ _).alloc (Nat.le_refl _) o)
theorem OwnS.drew {B : Nat} {w : World} {a : Option Addr} {n : Nat} {rs : List (List Int)} (h : OwnS B w a n rs) : OwnS B w.drew a n rs := h
theorem OwnS.mono {B B' : Nat} {w : World} {a : Option Addr} {n : Nat} {rs : List (List Int)} (h : OwnS B w a n rs) (hB : B' ≤ B) : OwnS B' w a n rs := by
 obtain ⟨h1, h2, h | ⟨g, off, ha, hg, r⟩⟩ := h
 ·exact ⟨h1, h2, .inl h⟩
 ·exact ⟨h1, h2, .inr ⟨g, off, ha, Nat.le_trans hB hg, r⟩⟩
theorem OwnS.rows {B : Nat} {w : World} {a : Option Addr} {n : Nat} {rs : List (List Int)} (h : OwnS B w a n rs) : Rows8 rs := h.1
theorem OwnS.len {B : Nat} {w : World} {a : Option Addr} {n : Nat} {rs : List (List Int)} (h : OwnS B w a n rs) : rs.length = n := h.2.1
theorem OwnS.reads {B : Nat} {w : World} {a : Option Addr} {n : Nat} {rs : List (List Int)} (h : OwnS B w a n rs) : ReadsA w a n rs := by
 obtain ⟨h1, h2, h | ⟨g, off, ha, _, _, hc, _⟩⟩ := h
 ·exact ⟨h2, h1, .inl h⟩
 ·exact ⟨h2, h1, .inr ⟨g, off, ha, hc⟩⟩
theorem OwnS.setCell_below {B : Nat} {w : World} {a : Option Addr} {n : Nat} {rs : List (List Int)} (h : OwnS B w a n rs) {p : Addr} (hp : p.block < B) (u : Value) : OwnS B (w.setCell p u) a n rs :=
 h.heap (by simp [World.setCell]) fun x _ _ hx => Below.heap_setCell _ _ _ _ (fun e => by omega)
theorem OwnS.set3 {B : Nat} {w : World} {g2 : Nat} {a : Option Addr} {n : Nat} {rs : List (List Int)} (h : OwnS B w a n rs) (hg : g2 < B) (x y z : Value) : OwnS B (((w.setCell ⟨g2, 0, none⟩ x).setCell ⟨g2, 1, none⟩ y).setCell ⟨g2, 2, none⟩ z) a n rs :=
 ((h.setCell_below (p := ⟨g2, 0, none⟩) hg x).setCell_below (p := ⟨g2, 1, none⟩) hg y).setCell_below (p := ⟨g2, 2, none⟩) hg z

/-- .. in a block from lo to hi - 1. -/
def OwnSIn (lo hi : Nat) (w : World) (a : Option Addr) (n : Nat) (rs : List (List Int)) : Prop := OwnS lo w a n rs ∧ (n = 0 ∨ ∀ x, a = some x → x.block < hi)

theorem OwnSIn.below {lo hi : Nat} {w w' : World} {a : Option Addr} {n : Nat} {rs : List (List Int)} (h : OwnSIn lo hi w a n rs) (k : Below w.heap.size w w') : OwnSIn lo hi w' a n rs := ⟨h.1.below k, h.2⟩
theorem OwnSIn.alloc {lo hi : Nat} {w : World} {a : Option Addr} {n : Nat} {rs : List (List Int)} (h : OwnSIn lo hi w a n rs) (o : Obj) : OwnSIn lo hi (w.alloc o) a n rs := ⟨h.1.alloc o, h.2⟩
theorem OwnSIn.drew {lo hi : Nat} {w : World} {a : Option Addr} {n : Nat} {rs : List (List Int)} (h : OwnSIn lo hi w a n rs) : OwnSIn lo hi w.drew a n rs := h
theorem OwnSIn.reads {lo hi : Nat} {w : World} {a : Option Addr} {n : Nat} {rs : List (List Int)} (h : OwnSIn lo hi w a n rs) : ReadsA w a n rs := h.1.reads
theorem OwnS.within {B : Nat} {w : World} {a : Option Addr} {n : Nat} {rs : List (List Int)} (h : OwnS B w a n rs) : OwnSIn B w.heap.size w a n rs := by
 refine ⟨h, ?_⟩
 rcases h.2.2 with h0 | ⟨g, off, rfl, _, hg, _⟩
 ·exact .inl h0
 ·exact .inr fun x hx => by cases hx; exact hg
/-- One byte is stored. -/
theorem OwnS.store1 {B : Nat} {w : World} {g off n : Nat} {rs : List (List Int)} (h : OwnS B w (some ⟨g, off, none⟩) n rs) (k : Nat) (hk : k < n) (i : Nat) (hi : i < 8) (x : Int) :
  OwnS B (w.setCell ⟨g, off + k * 8 + i, none⟩ (.int .u8 x)) (some ⟨g, off, none⟩) n (rs.set k ((rowAt rs k).set i x)) := by
 obtain ⟨h1, h2, h | ⟨g', off', ha, hB, hg, hc, hf⟩⟩ := h
 ·omega
 ·cases ha
  have h8 := h1.at (j := k) (by omega)
  refine ⟨h1.set k _ (by rw [List.length_set]; exact h8), by rw [List.length_set]; exact h2, .inr ⟨g, off, rfl, hB, by simpa [World.setCell] using hg, fun j hj p hp => ?_, fun q => by simpa using hf q⟩⟩
  rw [rowAt_set _ _ _ _ (by omega)]
  by_cases e : k = j
  ·subst e
   rw [if_pos rfl, at8_set _ _ _ _ (by rw [h8]; exact hi)]
   by_cases e2 : i = p
   ·subst e2
    rw [if_pos rfl]
    exact World.cell?_setCell_same _ _ _ (hc k hj i hi)
   ·rw [if_neg e2]
    exact (World.cell?_setCell_other _ _ _ _ (by simp <;> omega)).trans (hc k hj p hp)
  ·rw [if_neg e]
   exact (World.cell?_setCell_other _ _ _ _ (by simp <;> omega)).trans (hc j hj p hp)

end Go.Proofs.Yteffndmifogicaa

namespace Go.Proofs.Yteffndmifogicaa
open Go.RowKit Go.ChangeShapes

end Go.Proofs.Yteffndmifogicaa

namespace Go.Proofs.Yteffndmifogicaa
open Go.RowKit Go.ChangeShapes

theorem l01In_any (n lo hi : Int) (w : World) :
  Calls Try.prog 70 #[.int .i64 n, .int .i64 lo, .int .i64 hi] w fun e w' => e = .returned (.bool (inB n lo hi)) ∧ w = w' := by
 by_cases h1 : lo ≤ n
 ·by_cases h2 : n ≤ hi
  all_goals
   go_enter Try.func70, Try.ntmps70
   go_wp2
   go_ret
   exact ⟨ret_bool (by simp [inB, h1, h2]), rfl⟩
 ·go_enter Try.func70, Try.ntmps70
  go_wp2
  go_ret
  exact ⟨ret_bool (by simp [inB]; omega), rfl⟩

/-- The opposite of a number of int64 lies in a small range exactly if it does without the wrap. -/
theorem inB_neg (x s : Int) (h : (Lit.int .i64 x).wf = true) (hs : s ≤ 8) : inB (wrap64 (-x)) 1 (s - 1) = inB (-x) 1 (s - 1) := by
 have := bounds_i64 h
 rw [Bool.eq_iff_iff, inB_iff, inB_iff]
 unfold wrap64
 omega

theorem okLetter_of (s x : Int) : okLetter s x = (inB x 1 (s - 1) || inB (-x) 1 (s - 1)) := by
 rw [Bool.eq_iff_iff]
 simp only [okLetter, inB, Bool.or_eq_true, Bool.and_eq_true, decide_eq_true_eq]
 omega

theorem isBraid_all (s : Int) (n : Nat) (xs : List Int) (h1 : 1 ≤ s) (h2 : s ≤ 8) (h3 : n ≤ 200) (hl : xs.length = n) (h : ∀ j, j < n → okLetter s (xs.getD j 0) = true) : isBraid s xs = true := by
 have := all_of_getD xs (okLetter s) (by rw [hl]; exact h)
 simp [isBraid, this, h1, h2, hl, h3]

theorem isBraid_bad (s : Int) (xs : List Int) (k : Nat) (hk : k < xs.length) (h : okLetter s (xs.getD k 0) = false) : isBraid s xs = false := by
 have := all_false_of_getD xs (okLetter s) k hk h
 simp [isBraid, this]

set_option maxHeartbeats 400000 in
theorem l01Is_any (s : Int) (a : Option Addr) (n cap : Nat) (xs : List Int) (w : World) (hr : Reads w a n xs) (hf : Fits xs) (hn : n ≤ 1048576) :
  Calls Try.prog 42 #[.agg #[.int .i64 s, .slice a n cap]] w fun e w' => e = .returned (.bool (isBraid s xs)) ∧ Below w.heap.size w w' := by
 have hl := hr.len
 have HL := Lib.hid hl; clear hl
 have HR := Lib.hid hr; clear hr
 have HF := Lib.hid hf; clear hf
 by_cases hs : inB s 1 8 = true
 ·by_cases h2 : n ≤ 200
  ·obtain ⟨g1, g2⟩ := (inB_iff _ _ _).1 hs
   go_enter Try.func42, Try.ntmps42
   go_wp2_with (go_at_call 70; refine (l01In_any _ _ _ _).mono ?_; rintro e w' ⟨rfl, rfl⟩)
   rcases Nat.eq_zero_or_pos n with h0 | h0
   ·have HZ := Lib.hid h0; clear h0
    refine wp_loop_rounds 1 ?_; rw [rounds_succ]
    have hz : (n : Int) ≤ 0 := by rw [HZ.out]; simp
    go_wp2
    go_ret
    have : isBraid s xs = true := isBraid_all s n xs g1 g2 h2 HL.out (fun j hj => by have := HZ.out; omega)
    exact ⟨ret_bool this.symm, below1 w _⟩
   ·obtain ⟨b, off, rfl, hb, hc⟩ := (HR.out.alloc (.cells #[.int .i64 s, .slice a n cap] 41)).cells h0
    have HC := Lib.hid hc; clear hc
    go_loop [3] (fun i => ∃ k : Nat, k ≤ n ∧ i = .int .i64 k ∧ Hid (∀ j, j < k → okLetter s (xs.getD j 0) = true)) (fun i => n - (intOf i).toNat)
    case atStart => exact ⟨0, Nat.zero_le _, rfl, Lib.hid (fun j hj => absurd hj (Nat.not_lt_zero _))⟩
    case round =>
     obtain ⟨k, hk, rfl, HS⟩ := hrel
     by_cases hlt : k < n
     ·have hm : xs.getD k 0 ∈ xs := getD_mem xs k (by rw [HL.out]; exact hlt)
      obtain ⟨x, hx⟩ : ∃ x, x = xs.getD k 0 := ⟨_, rfl⟩
      have h1 := HC.out k hlt
      rw [← hx] at h1 hm
      have e1 := inB_neg x s (HF.out x hm) g2
      have e2 := okLetter_of s x
      rw [← e1] at e2
      have E2 := Lib.hid e2
      have HX := Lib.hid hx
      clear hx e1 e2 hm
      by_cases p1 : inB x 1 (s - 1) = true
      ·have HOK : Hid (okLetter s x = true) := Lib.hid (by rw [E2.out, p1]; rfl)
       go_wp2_with (go_at_call 70; refine (l01In_any _ _ _ _).mono ?_; rintro e w' ⟨rfl, rfl⟩)
       go_round
       case rel =>
        refine ⟨k + 1, by omega, by go_num, Lib.hid fun j hj => ?_⟩
        by_cases hjk : j = k
        ·rw [hjk, ← HX.out]; exact HOK.out
        ·exact HS.out j (by omega)
       case measure => simp [intOf]; omega
      ·have p1' : inB x 1 (s - 1) = false := by simpa using p1
       clear p1
       by_cases p2 : inB (wrap64 (-x)) 1 (s - 1) = true
       ·have HOK : Hid (okLetter s x = true) := Lib.hid (by rw [E2.out, p2]; simp)
        go_wp2_with (go_at_call 70; refine (l01In_any _ _ _ _).mono ?_; rintro e w' ⟨rfl, rfl⟩)
        go_round
        case rel =>
         refine ⟨k + 1, by omega, by go_num, Lib.hid fun j hj => ?_⟩
         by_cases hjk : j = k
         ·rw [hjk, ← HX.out]; exact HOK.out
         ·exact HS.out j (by omega)
        case measure => simp [intOf]; omega
       ·have p2' : inB (wrap64 (-x)) 1 (s - 1) = false := by simpa using p2
        clear p2
        have HOK : Hid (okLetter s x = false) := Lib.hid (by rw [E2.out, p1', p2']; rfl)
        go_wp2_with (go_at_call 70; refine (l01In_any _ _ _ _).mono ?_; rintro e w' ⟨rfl, rfl⟩)
        go_ret
        have : isBraid s xs = false := isBraid_bad s xs k (by rw [HL.out]; exact hlt) (by rw [← HX.out]; exact HOK.out)
        exact ⟨ret_bool this.symm, below1 w _⟩
     ·have hkn : k = n := by omega
      have HK := Lib.hid hkn; clear hkn
      go_wp2
      go_ret
      have : isBraid s xs = true := isBraid_all s n xs g1 g2 h2 HL.out (fun j hj => HS.out j (by rw [HK.out]; exact hj))
      exact ⟨ret_bool this.symm, below1 w _⟩
  ·have HS := (inB_iff _ _ _).1 hs
   have HS' := Lib.hid HS; clear HS
   go_enter Try.func42, Try.ntmps42
   go_wp2_with (go_at_call 70; refine (l01In_any _ _ _ _).mono ?_; rintro e w' ⟨rfl, rfl⟩)
   go_ret
   have : ¬ xs.length ≤ 200 := by rw [HL.out]; omega
   exact ⟨ret_bool (by simp [isBraid, this]), below1 w _⟩
 ·have hs' : inB s 1 8 = false := by simpa using hs
  clear hs
  go_enter Try.func42, Try.ntmps42
  go_wp2_with (go_at_call 70; refine (l01In_any _ _ _ _).mono ?_; rintro e w' ⟨rfl, rfl⟩)
  go_ret
  have := (inB_not _ _ _).1 hs'
  have : isBraid s xs = false := by
   rw [← Bool.not_eq_true, isBraid_iff]
   omega
  exact ⟨ret_bool this.symm, below1 w _⟩

end Go.Proofs.Yteffndmifogicaa

namespace Go.Proofs.Yteffndmifogicaa
open Go.RowKit Go.ChangeShapes

/-- Eight bools in a block. -/
structure Bool8 (w : World) (g : Nat) (f : Nat → Bool) : Prop where
 lt : g < w.heap.size
 cell : ∀ j, j < 8 → w.cell? ⟨g, j, none⟩ = some (.bool (f j))
 free : ∀ j, j < 8 → w.frozen? ⟨g, j, none⟩ = false

theorem Bool8.place (w : World) (t : TypeId) (g : Nat) (hg : w.heap.size = g) : Bool8 (w.alloc (.cells #[.bool false, .bool false, .bool false, .bool false, .bool false, .bool false, .bool false, .bool false] t)) g (fun _ => false) := by
 subst hg
 refine ⟨by simp, fun j hj => ?_, fun j hj => ?_⟩
 ·have : j = 0 ∨ j = 1 ∨ j = 2 ∨ j = 3 ∨ j = 4 ∨ j = 5 ∨ j = 6 ∨ j = 7 := by omega
  rcases this with rfl | rfl | rfl | rfl | rfl | rfl | rfl | rfl <;> simp
 ·simp

theorem Bool8.store {w : World} {g : Nat} {f : Nat → Bool} (h : Bool8 w g f) (i : Nat) (hi : i < 8) (x : Bool) : Bool8 (w.setCell ⟨g, i, none⟩ (.bool x)) g (fun j => if i = j then x else f j) := by
 refine ⟨by simpa [World.setCell] using h.lt, fun j hj => ?_, fun j hj => by simpa using h.free j hj⟩
 by_cases e : i = j
 ·subst e
  rw [if_pos rfl]
  exact World.cell?_setCell_same _ _ _ (h.cell i hi)
 ·rw [if_neg e]
  refine (World.cell?_setCell_other _ _ _ _ ?_).trans (h.cell j hj)
  simp

theorem Bool8.congr {w : World} {g : Nat} {f f' : Nat → Bool} (h : Bool8 w g f) (e : ∀ j, j < 8 → f j = f' j) : Bool8 w g f' := ⟨h.lt, fun j hj => by rw [← e j hj]; exact h.cell j hj, h.free⟩

end Go.Proofs.Yteffndmifogicaa

namespace Go.Proofs.Yteffndmifogicaa
open Go.RowKit Go.ChangeShapes

end Go.Proofs.Yteffndmifogicaa

namespace Go.Proofs.Yteffndmifogicaa
open Go.RowKit Go.ChangeShapes

end Go.Proofs.Yteffndmifogicaa

namespace Go.Proofs.Yteffndmifogicaa
open Go.RowKit Go.ChangeShapes

theorem tmod_even (k : Int) : (k.tmod 2 == 0) = decide (k % 2 = 0) := by
 have e : k.tmod 2 = 0 ↔ k % 2 = 0 := by rw [← Int.dvd_iff_emod_eq_zero, Int.dvd_iff_tmod_eq_zero]
 rw [Bool.eq_iff_iff, beq_iff_eq, decide_eq_true_eq]
 exact e

theorem turn_turnR (n : Nat) (s : List Int) (hs : Sim n s) (w : World) :
  Calls Try.prog 104 #[arr8 .u8 s, .int .i64 n] w (RetArr .u8 w (turnR n s)) := turn_any n s hs w

set_option maxRecDepth 100000 in
set_option maxHeartbeats 1000000 in
theorem turned_any (n : Nat) (k : Int) (s : List Int) (hs : Sim n s) (w : World) :
  Calls Try.prog 66 #[arr8 .u8 s, .int .i64 k, .int .i64 n] w (RetArr .u8 w (turnK n k s)) := by
 have HS := Lib.hid hs
 have LS := Lib.hid hs.len
 clear hs
 have t0 := tmod_even k
 by_cases hk : k % 2 = 0
 ·have e1 : turnK n k s = s := by unfold turnK; rw [if_pos hk]
  rw [e1]
  have t1 : (k.tmod 2 == 0) = true := by rw [t0, decide_eq_true hk]
  clear t0 hk e1
  go_enter Try.func66, Try.ntmps66
  have R := Lib.hid (Row8.place (w.alloc (.cells #[.int .u8 (at8 s 0), .int .u8 (at8 s 1), .int .u8 (at8 s 2), .int .u8 (at8 s 3), .int .u8 (at8 s 4), .int .u8 (at8 s 5), .int .u8 (at8 s 6), .int .u8 (at8 s 7)] 77)) .u8 s 77 (w.heap.size + 1) (by simp) LS.out)
  go_wp2
  try rw [Exit.noGoto_ret]
  obtain ⟨⟨e0, e1, e2, e3⟩, e4, e5, e6, e7⟩ := R.out.all
  exact bodyPost_ret (v := arr8 .u8 s) (by simp [results, Try.results66, go_sem, e0, e1, e2, e3, e4, e5, e6, e7]) rfl ⟨rfl, (below1 w _).alloc (by simp) _⟩
 ·have e1 : turnK n k s = turnR n s := by unfold turnK; rw [if_neg hk]
  rw [e1]
  have t1 : (k.tmod 2 == 0) = false := by rw [t0, decide_eq_false hk]
  clear t0 hk e1
  go_enter Try.func66, Try.ntmps66
  have RZ := Lib.hid (Row8.zeros (w.alloc (.cells #[.int .u8 (at8 s 0), .int .u8 (at8 s 1), .int .u8 (at8 s 2), .int .u8 (at8 s 3), .int .u8 (at8 s 4), .int .u8 (at8 s 5), .int .u8 (at8 s 6), .int .u8 (at8 s 7)] 77)) .u8 77 (w.heap.size + 1) (by simp))
  have BB := Lib.hid (below2 w (.cells #[.int .u8 (at8 s 0), .int .u8 (at8 s 1), .int .u8 (at8 s 2), .int .u8 (at8 s 3), .int .u8 (at8 s 4), .int .u8 (at8 s 5), .int .u8 (at8 s 6), .int .u8 (at8 s 7)] 77) (.cells #[.int .u8 0, .int .u8 0, .int .u8 0, .int .u8 0, .int .u8 0, .int .u8 0, .int .u8 0, .int .u8 0] 77))
  go_wp2_with fail
  refine (turn_turnR n s HS.out _).mono ?_
  rintro e w2 ⟨rfl, hb⟩
  replace RZ := Lib.hid (RZ.out.below hb)
  replace BB := Lib.hid (below_go BB.out hb BB.out.size)
  clear hb
  obtain ⟨⟨d0, d1, d2, d3⟩, d4, d5, d6, d7⟩ := RZ.out.all
  obtain ⟨⟨f0, f1, f2, f3⟩, f4, f5, f6, f7⟩ := RZ.out.frees
  have HT := Lib.hid (turnR_sim HS.out).len
  go_wp2
  try rw [Exit.noGoto_ret]
  obtain ⟨⟨e0, e1, e2, e3⟩, e4, e5, e6, e7⟩ := (RZ.out.fill (turnR n s) HT.out).all
  refine bodyPost_ret (v := arr8 .u8 (turnR n s)) (by simp [results, Try.results66, go_sem, e0, e1, e2, e3, e4, e5, e6, e7]) rfl ⟨rfl, ?_⟩
  exact below_fill8 BB.out _ (by omega) _ _ _ _ _ _ _ _

end Go.Proofs.Yteffndmifogicaa

namespace Go.Proofs.Yteffndmifogicaa
open Go.RowKit Go.ChangeShapes

/-- The slice of rows that a call hands back. -/
def RetRows (w : World) (rs : List (List Int)) (e : Ending) (w' : World) : Prop := ∃ a n cap, e = .returned (.slice a n cap) ∧ OwnA w.heap.size w' a n cap rs ∧ Below w.heap.size w w'

set_option maxRecDepth 100000 in
set_option maxHeartbeats 2000000 in
theorem l03Turned_any (m : Nat) (k : Int) (a : Option Addr) (n cap : Nat) (rs : List (List Int)) (w : World) (hr : ReadsA w a n rs) (hs : ∀ j, j < rs.length → Sim m (rowAt rs j)) (hn : n ≤ 1048576) :
  Calls Try.prog 99 #[.slice a n cap, .int .i64 m, .int .i64 k] w (RetRows w (rs.map (turnK m k))) := by
 obtain ⟨i0, hi, hz0, hz1, hz2⟩ := info_parts infoSimple
 have HL := Lib.hid hr.len
 have HS := Lib.hid hs; clear hs
 have R := Lib.hid hr
 clear hr
 have HK : Hid (k % 2 = 0 ∧ (k.tmod 2 != 0) = false ∨ k % 2 ≠ 0 ∧ (k.tmod 2 != 0) = true) := Lib.hid (by
  have e : k.tmod 2 = 0 ↔ k % 2 = 0 := by rw [← Int.dvd_iff_emod_eq_zero, Int.dvd_iff_tmod_eq_zero]
  by_cases h : k % 2 = 0
  ·left; exact ⟨h, by rw [e.2 h]; rfl⟩
  ·right; exact ⟨h, by rw [bne_iff_ne]; exact fun h2 => h (e.1 h2)⟩)
 go_enter Try.func99, Try.ntmps99
 have B := Lib.hid (below1 w (.cells #[] 77))
 have O := Lib.hid (OwnAV.empty w)
 go_wp2
 go_loopg [7, 8] n (fun g v i wx => ∃ j : Nat, j ≤ n ∧ g + j = n ∧ i = .int .i64 j ∧ OwnAV w.heap.size wx v j ((rs.map (turnK m k)).take j) ∧ Below w.heap.size w wx)
 case atStart => exact ⟨0, Nat.zero_le _, rfl, rfl, by simpa using O.out, B.out⟩
 case round =>
  obtain ⟨j, hj, hgj, rfl, ho, hB⟩ := hrel
  clear B O
  have O := Lib.hid ho
  have B := Lib.hid hB
  clear ho hB
  have zb := B.out.size
  by_cases hlt : j < n
  ·obtain ⟨b, off, rfl, hbl, hcl⟩ := R.out.cells (Nat.lt_of_le_of_lt (Nat.zero_le _) hlt)
   have hC : Cells8 wr b (off + j * 8) (rowAt rs j) := fun i hi => (B.out.cell (by exact hbl)).trans (hcl j hlt i hi)
   have HR8 := Lib.hid (R.out.rows.at (j := j) (by rw [HL.out]; exact hlt))
   clear hbl hcl
   have SR := Lib.hid (HS.out j (by rw [HL.out]; exact hlt))
   have HNX : Hid ((rs.map (turnK m k)).take (j + 1) = (rs.map (turnK m k)).take j ++ [turnK m k (rowAt rs j)]) := Lib.hid (by
    rw [List.take_succ_eq_append_getElem (by rw [List.length_map, HL.out]; exact hlt)]
    simp [rowAt, List.getD, show j < rs.length by rw [HL.out]; exact hlt])
   obtain ⟨row, hrow⟩ : ∃ row, row = rowAt rs j := ⟨_, rfl⟩
   rw [← hrow] at hC HR8 SR HNX
   clear hrow
   obtain ⟨c0, c1, c2, c3, c4, c5, c6, c7⟩ := hC.flat
   clear hC
   rcases HK.out with ⟨hk2, t1⟩ | ⟨hk2, t1⟩
   ·have e1 : turnK m k row = row := by unfold turnK; rw [if_pos hk2]
    rw [e1] at HNX
    clear hk2 e1
    go_wp2_with (at_builtin; refine wpList_append_rows_at rfl _ _ 26 rfl w.heap.size i0 Try.underlying26 hi hz0 hz1 hz2 _ _ _ rfl (O.out.drawn ((Below.refl _ _).alloc (Nat.le_refl _) _)) _ _ _ [row] rfl (readsA_one _ row HR8.out _) (by omega) (by simp; omega) ?_)
    intro v' w2 ho' hg hv
    have O2 := Lib.hid ho'
    have B2 := Lib.hid (below_ownA (B.out.alloc zb _) (by simp; omega) (Nat.le_refl _) (O.out.drawn ((Below.refl _ _).alloc (Nat.le_refl _) _)) hg)
    clear ho' hg hv
    go_wp2
    go_roundg (gk - 1)
    case measure => omega
    case rel => exact ⟨j + 1, by omega, by omega, by go_num, by rw [HNX.out]; exact O2.out, B2.out⟩
   ·have e1 : turnK m k row = turnR m row := by unfold turnK; rw [if_neg hk2]
    rw [e1] at HNX
    clear hk2 e1
    have HT8 : Hid ((turnR m row).length = 8) := Lib.hid (turnR_sim SR.out).len
    go_wp2_with fail
    refine (l02Turn_any m row SR.out _).mono ?_
    rintro e w2 ⟨rfl, hb⟩
    clear c0 c1 c2 c3 c4 c5 c6 c7
    replace O := Lib.hid (O.out.drawn hb)
    replace B := Lib.hid (below_go B.out hb zb)
    clear hb
    have zb2 := B.out.size
    obtain ⟨row2, hrow2⟩ : ∃ row2, row2 = turnR m row := ⟨_, rfl⟩
    have hrow3 : thenR m (thenR m (halfR m) row) (halfR m) = row2 := hrow2.symm
    rw [hrow3]
    rw [← hrow2] at HT8 HNX
    clear hrow2 hrow3
    go_wp2_with (at_builtin; refine wpList_append_rows_at rfl _ _ 26 rfl w.heap.size i0 Try.underlying26 hi hz0 hz1 hz2 _ _ _ rfl (O.out.drawn ((Below.refl _ _).alloc (Nat.le_refl _) _)) _ _ _ [row2] rfl (readsA_one _ row2 HT8.out _) (by omega) (by simp; omega) ?_)
    intro v' w3 ho' hg hv
    have O2 := Lib.hid ho'
    have B2 := Lib.hid (below_ownA (B.out.alloc zb2 _) (by simp; omega) (Nat.le_refl _) (O.out.drawn ((Below.refl _ _).alloc (Nat.le_refl _) _)) hg)
    clear ho' hg hv
    go_wp2
    go_roundg (gk - 1)
    case measure => omega
    case rel => exact ⟨j + 1, by omega, by omega, by go_num, by rw [HNX.out]; exact O2.out, B2.out⟩
  ·have hjn : j = n := by omega
   subst hjn
   go_wp2
   go_ret
   have h9 := O.out
   rw [List.take_of_length_le (by rw [List.length_map, HL.out]; exact Nat.le_refl _)] at h9
   obtain ⟨a', c', rfl, ho'⟩ := h9.form
   exact ⟨a', _, c', rfl, ho', B.out⟩

end Go.Proofs.Yteffndmifogicaa

