/- Merged texts. -/
import Derived.Test.YtleoohplnkdbdabSlMapK
import Derived.Test.YtleoohplnkdbdabSlPM
import Derived.Test.YtleoohplnkdbdabSlQA
import Derived.BigQuiet
import Derived.IntWalk
import Derived.Deep.RegionHeld3
import Derived.Deep.DeepCutAuto

/- The meet of a simple braid and itself: the program. -/
namespace Go.Proofs.Ytleoohplnkdbdab
open Go.RowKit Go.ChangeShapes
open Go.ChangeMaps (setBlock)

set_option maxRecDepth 100000 in
set_option maxHeartbeats 1000000 in
theorem meet_eq (n : Nat) (a : List Int) (sa : Sim n a) (w : World) :
  Calls Try.prog 105 #[arr8 .u8 a, arr8 .u8 a, .int .i64 n] w (RetArr .u8 w (exsR n (takeR n [a, a]))) := by
 have h8 := sa.hi
 have SA := Lib.hid sa
 have h1 := sa.lo
 clear sa
 go_enter Try.func105, Try.ntmps105
 have RA := Lib.hid (((Row8.place w .u8 a 54 w.heap.size rfl SA.out.len).alloc (.cells #[.int .u8 (at8 a 0), .int .u8 (at8 a 1), .int .u8 (at8 a 2), .int .u8 (at8 a 3), .int .u8 (at8 a 4), .int .u8 (at8 a 5), .int .u8 (at8 a 6), .int .u8 (at8 a 7)] 54)).alloc (.cells #[.int .u8 0, .int .u8 0, .int .u8 0, .int .u8 0, .int .u8 0, .int .u8 0, .int .u8 0, .int .u8 0] 54))
 have RB := Lib.hid ((Row8.place (w.alloc (.cells #[.int .u8 (at8 a 0), .int .u8 (at8 a 1), .int .u8 (at8 a 2), .int .u8 (at8 a 3), .int .u8 (at8 a 4), .int .u8 (at8 a 5), .int .u8 (at8 a 6), .int .u8 (at8 a 7)] 54)) .u8 a 54 (w.heap.size + 1) (by simp) SA.out.len).alloc (.cells #[.int .u8 0, .int .u8 0, .int .u8 0, .int .u8 0, .int .u8 0, .int .u8 0, .int .u8 0, .int .u8 0] 54))
 have RZ := Lib.hid (Row8.zeros ((w.alloc (.cells #[.int .u8 (at8 a 0), .int .u8 (at8 a 1), .int .u8 (at8 a 2), .int .u8 (at8 a 3), .int .u8 (at8 a 4), .int .u8 (at8 a 5), .int .u8 (at8 a 6), .int .u8 (at8 a 7)] 54)).alloc (.cells #[.int .u8 (at8 a 0), .int .u8 (at8 a 1), .int .u8 (at8 a 2), .int .u8 (at8 a 3), .int .u8 (at8 a 4), .int .u8 (at8 a 5), .int .u8 (at8 a 6), .int .u8 (at8 a 7)] 54)) .u8 54 (w.heap.size + 1 + 1) (by simp))
 have BB := Lib.hid (below3 w (.cells #[.int .u8 (at8 a 0), .int .u8 (at8 a 1), .int .u8 (at8 a 2), .int .u8 (at8 a 3), .int .u8 (at8 a 4), .int .u8 (at8 a 5), .int .u8 (at8 a 6), .int .u8 (at8 a 7)] 54) (.cells #[.int .u8 (at8 a 0), .int .u8 (at8 a 1), .int .u8 (at8 a 2), .int .u8 (at8 a 3), .int .u8 (at8 a 4), .int .u8 (at8 a 5), .int .u8 (at8 a 6), .int .u8 (at8 a 7)] 54) (.cells #[.int .u8 0, .int .u8 0, .int .u8 0, .int .u8 0, .int .u8 0, .int .u8 0, .int .u8 0, .int .u8 0] 54))
 go_upto_region 1 with fail
 obtain ⟨W, hW⟩ : ∃ W, W = (((w.alloc (.cells #[.int .u8 (at8 a 0), .int .u8 (at8 a 1), .int .u8 (at8 a 2), .int .u8 (at8 a 3), .int .u8 (at8 a 4), .int .u8 (at8 a 5), .int .u8 (at8 a 6), .int .u8 (at8 a 7)] 54)).alloc (.cells #[.int .u8 (at8 a 0), .int .u8 (at8 a 1), .int .u8 (at8 a 2), .int .u8 (at8 a 3), .int .u8 (at8 a 4), .int .u8 (at8 a 5), .int .u8 (at8 a 6), .int .u8 (at8 a 7)] 54)).alloc (.cells #[.int .u8 0, .int .u8 0, .int .u8 0, .int .u8 0, .int .u8 0, .int .u8 0, .int .u8 0, .int .u8 0] 54)) := ⟨_, rfl⟩
 rw [← hW] at RA RB RZ BB ⊢
 clear hW
 have zb := BB.out.size
 have za := RA.out.lt
 have zbb := RB.out.lt
 have hmk : (Instr.makeMap 111 none).run Try.prog W.drew = .ok (.map (some W.heap.size)) ((W.alloc (.map #[] 0)).drew) := run_makeMap _ _
 have P0 : MapA ((W.alloc (.map #[] 0)).drew) W.heap.size [] := by unfold MapA; exact Array.getElem?_push_size
 have hu1 : (Instr.mapUpdate 111 (.map (some W.heap.size)) (.agg #[.int .u8 (at8 a 0), .int .u8 (at8 a 1), .int .u8 (at8 a 2), .int .u8 (at8 a 3), .int .u8 (at8 a 4), .int .u8 (at8 a 5), .int .u8 (at8 a 6), .int .u8 (at8 a 7)]) (.agg #[.int .u8 (at8 a 0), .int .u8 (at8 a 1), .int .u8 (at8 a 2), .int .u8 (at8 a 3), .int .u8 (at8 a 4), .int .u8 (at8 a 5), .int .u8 (at8 a 6), .int .u8 (at8 a 7)])).run Try.prog ((W.alloc (.map #[] 0)).drew) = .ok () (setBlock ((W.alloc (.map #[] 0)).drew) W.heap.size (.map (entsF 0 [(a, a)]).toArray 1)) := run_update_new P0 (fun x hx => absurd hx List.not_mem_nil) a a SA.out.len rfl
 have PA : MapA (setBlock ((W.alloc (.map #[] 0)).drew) W.heap.size (.map (entsF 0 [(a, a)]).toArray 1)) W.heap.size [(a, a)] := setBlock_same _ P0.lt
 have Q0 : Wrote W.heap.size (W.heap.size + 1) W ((W.alloc (.map #[] 0)).drew) := below_wrote ((Below.refl _ _).alloc (Nat.le_refl _) (.map #[] 0)).drew
 have QA : Wrote W.heap.size (W.heap.size + 1) W (setBlock ((W.alloc (.map #[] 0)).drew) W.heap.size (.map (entsF 0 [(a, a)]).toArray 1)) := Q0.trans (setBlock_wrote _ _ _)
 have hu2 : (Instr.mapUpdate 111 (.map (some W.heap.size)) (.agg #[.int .u8 (at8 a 0), .int .u8 (at8 a 1), .int .u8 (at8 a 2), .int .u8 (at8 a 3), .int .u8 (at8 a 4), .int .u8 (at8 a 5), .int .u8 (at8 a 6), .int .u8 (at8 a 7)]) (.agg #[.int .u8 (at8 a 0), .int .u8 (at8 a 1), .int .u8 (at8 a 2), .int .u8 (at8 a 3), .int .u8 (at8 a 4), .int .u8 (at8 a 5), .int .u8 (at8 a 6), .int .u8 (at8 a 7)])).run Try.prog (setBlock ((W.alloc (.map #[] 0)).drew) W.heap.size (.map (entsF 0 [(a, a)]).toArray 1)) = .ok () (setBlock ((setBlock ((W.alloc (.map #[] 0)).drew) W.heap.size (.map (entsF 0 [(a, a)]).toArray 1))) W.heap.size (.map (entsF 0 [(a, a)]).toArray 1)) := run_update_old PA (fun x hx => by rw [List.mem_singleton.1 hx]; exact SA.out.len) a a SA.out.len 0 (arr8 .u8 a) (by simp [findL])
 have PAA : MapA (setBlock ((setBlock ((W.alloc (.map #[] 0)).drew) W.heap.size (.map (entsF 0 [(a, a)]).toArray 1))) W.heap.size (.map (entsF 0 [(a, a)]).toArray 1)) W.heap.size [(a, a)] := setBlock_same _ PA.lt
 have QAA : Wrote W.heap.size (W.heap.size + 1) W (setBlock ((setBlock ((W.alloc (.map #[] 0)).drew) W.heap.size (.map (entsF 0 [(a, a)]).toArray 1))) W.heap.size (.map (entsF 0 [(a, a)]).toArray 1)) := QA.trans (setBlock_wrote _ _ _)
 have CA := Lib.hid (takeAll_meet n h1 h8 a a [(a, a)] W _ PAA QAA (fun x hx => by rw [List.mem_singleton.1 hx]; exact SA.out.len) (fun i j x y hx hy _ => by
   have h1 := (List.getElem?_eq_some_iff.1 hx).1
   have h2 := (List.getElem?_eq_some_iff.1 hy).1
   simp at h1 h2
   omega) (fun u hu => by rw [List.mem_singleton.1 hu]; exact SA.out) (by simp) (takeF_two n 200 a))
 clear P0 PA PAA Q0 QA QAA
 have HLT := Lib.hid (takeF_lets n 200 [a, a])
 go_region_held3 (fun w' => (w'.cell? ⟨w.heap.size, 0, none⟩ = some (.int .u8 (at8 a 0)) ∧ w'.cell? ⟨w.heap.size, 1, none⟩ = some (.int .u8 (at8 a 1)) ∧ w'.cell? ⟨w.heap.size, 2, none⟩ = some (.int .u8 (at8 a 2)) ∧ w'.cell? ⟨w.heap.size, 3, none⟩ = some (.int .u8 (at8 a 3)) ∧ w'.cell? ⟨w.heap.size, 4, none⟩ = some (.int .u8 (at8 a 4)) ∧ w'.cell? ⟨w.heap.size, 5, none⟩ = some (.int .u8 (at8 a 5)) ∧ w'.cell? ⟨w.heap.size, 6, none⟩ = some (.int .u8 (at8 a 6)) ∧ w'.cell? ⟨w.heap.size, 7, none⟩ = some (.int .u8 (at8 a 7))) ∧ (w'.cell? ⟨w.heap.size + 1, 0, none⟩ = some (.int .u8 (at8 a 0)) ∧ w'.cell? ⟨w.heap.size + 1, 1, none⟩ = some (.int .u8 (at8 a 1)) ∧ w'.cell? ⟨w.heap.size + 1, 2, none⟩ = some (.int .u8 (at8 a 2)) ∧ w'.cell? ⟨w.heap.size + 1, 3, none⟩ = some (.int .u8 (at8 a 3)) ∧ w'.cell? ⟨w.heap.size + 1, 4, none⟩ = some (.int .u8 (at8 a 4)) ∧ w'.cell? ⟨w.heap.size + 1, 5, none⟩ = some (.int .u8 (at8 a 5)) ∧ w'.cell? ⟨w.heap.size + 1, 6, none⟩ = some (.int .u8 (at8 a 6)) ∧ w'.cell? ⟨w.heap.size + 1, 7, none⟩ = some (.int .u8 (at8 a 7)))) (first | with_reducible exact ⟨((RA.out.drew)).flat, ((RB.out.drew)).flat⟩ | with_reducible exact ⟨(((RA.out.alloc _).drew)).flat, (((RB.out.alloc _).drew)).flat⟩ | with_reducible exact ⟨((((RA.out.alloc _).drew).setB (by omega))).flat, ((((RB.out.alloc _).drew).setB (by omega))).flat⟩ | with_reducible exact ⟨(((((RA.out.alloc _).drew).setB (by omega)).setB (by omega))).flat, (((((RB.out.alloc _).drew).setB (by omega)).setB (by omega))).flat⟩ | with_reducible exact ⟨(RA.out.below hb1).flat, (RB.out.below hb1).flat⟩ | with_reducible exact ⟨((RA.out.below hb1).below hb2).flat, ((RB.out.below hb1).below hb2).flat⟩ | with_reducible exact ⟨(((RA.out.below hb1).below hb2).past (w.heap.size + 1 + 1) (by omega) _ _ _ _ _ _ _ _).flat, (((RB.out.below hb1).below hb2).past (w.heap.size + 1 + 1) (by omega) _ _ _ _ _ _ _ _).flat⟩)
  (first
   | (go_at_call 121; refine CA.out.mono ?_; rintro e w1 ⟨a1, m1, c1, rfl, hm1, hr1, hb1⟩)
   | (go_at_call 120; refine (exchanged_any n h8 a1 m1 c1 (takeR n [a, a]) _ hr1 HLT.out h1 (by omega)).mono ?_; rintro e w2 ⟨rfl, hb2⟩; obtain ⟨⟨d0, d1, d2, d3⟩, d4, d5, d6, d7⟩ := ((RZ.out.below hb1).below hb2).all; obtain ⟨⟨f0, f1, f2, f3⟩, f4, f5, f6, f7⟩ := ((RZ.out.below hb1).below hb2).frees; have zq := ((RZ.out.below hb1).below hb2).lt))
 all_goals
  have R3 := Lib.hid ((RZ.out.below hb1).below hb2)
  have B3 := Lib.hid (below_go (below_go BB.out hb1 zb) hb2 (Nat.le_trans zb hb1.size))
  have HX := Lib.hid (exsR_sim n h1 h8 (takeR n [a, a]) HLT.out).len
  go_wp2
  obtain ⟨⟨e0, e1, e2, e3⟩, e4, e5, e6, e7⟩ := (R3.out.fill (exsR n (takeR n [a, a])) HX.out).all
  refine bodyPost_ret (v := arr8 .u8 (exsR n (takeR n [a, a]))) (by simp [results, Try.results105, go_sem, e0, e1, e2, e3, e4, e5, e6, e7]) rfl ⟨rfl, ?_⟩
  exact below_fill8 B3.out _ (by omega) _ _ _ _ _ _ _ _

end Go.Proofs.Ytleoohplnkdbdab

/- The meet of two simple braids that differ: the program. -/
namespace Go.Proofs.Ytleoohplnkdbdab
open Go.RowKit Go.ChangeShapes
open Go.ChangeMaps (setBlock)

theorem apart_two (a b : List Int) (h : a ≠ b) : KeysApart [(a, a), (b, b)] := by
 intro i j x y hx hy e
 have h1 := (List.getElem?_eq_some_iff.1 hx).1
 have h2 := (List.getElem?_eq_some_iff.1 hy).1
 simp at h1 h2
 have hi : i = 0 ∨ i = 1 := by omega
 have hj : j = 0 ∨ j = 1 := by omega
 rcases hi with rfl | rfl <;> rcases hj with rfl | rfl <;> simp at hx hy <;> subst hx <;> subst hy <;> first | rfl | exact absurd e h | exact absurd e.symm h

set_option maxRecDepth 100000 in
set_option maxHeartbeats 1000000 in
theorem meet_ne (n : Nat) (a b : List Int) (sa : Sim n a) (sb : Sim n b) (hne : a ≠ b) (w : World) :
  Calls Try.prog 105 #[arr8 .u8 a, arr8 .u8 b, .int .i64 n] w (RetArr .u8 w (exsR n (takeR n [a, b]))) := by
 have h8 := sa.hi
 have SA := Lib.hid sa
 have SB := Lib.hid sb
 have HNE := Lib.hid hne
 clear sb hne
 have h1 := sa.lo
 clear sa
 go_enter Try.func105, Try.ntmps105
 have RA := Lib.hid (((Row8.place w .u8 a 54 w.heap.size rfl SA.out.len).alloc (.cells #[.int .u8 (at8 b 0), .int .u8 (at8 b 1), .int .u8 (at8 b 2), .int .u8 (at8 b 3), .int .u8 (at8 b 4), .int .u8 (at8 b 5), .int .u8 (at8 b 6), .int .u8 (at8 b 7)] 54)).alloc (.cells #[.int .u8 0, .int .u8 0, .int .u8 0, .int .u8 0, .int .u8 0, .int .u8 0, .int .u8 0, .int .u8 0] 54))
 have RB := Lib.hid ((Row8.place (w.alloc (.cells #[.int .u8 (at8 a 0), .int .u8 (at8 a 1), .int .u8 (at8 a 2), .int .u8 (at8 a 3), .int .u8 (at8 a 4), .int .u8 (at8 a 5), .int .u8 (at8 a 6), .int .u8 (at8 a 7)] 54)) .u8 b 54 (w.heap.size + 1) (by simp) SB.out.len).alloc (.cells #[.int .u8 0, .int .u8 0, .int .u8 0, .int .u8 0, .int .u8 0, .int .u8 0, .int .u8 0, .int .u8 0] 54))
 have RZ := Lib.hid (Row8.zeros ((w.alloc (.cells #[.int .u8 (at8 a 0), .int .u8 (at8 a 1), .int .u8 (at8 a 2), .int .u8 (at8 a 3), .int .u8 (at8 a 4), .int .u8 (at8 a 5), .int .u8 (at8 a 6), .int .u8 (at8 a 7)] 54)).alloc (.cells #[.int .u8 (at8 b 0), .int .u8 (at8 b 1), .int .u8 (at8 b 2), .int .u8 (at8 b 3), .int .u8 (at8 b 4), .int .u8 (at8 b 5), .int .u8 (at8 b 6), .int .u8 (at8 b 7)] 54)) .u8 54 (w.heap.size + 1 + 1) (by simp))
 have BB := Lib.hid (below3 w (.cells #[.int .u8 (at8 a 0), .int .u8 (at8 a 1), .int .u8 (at8 a 2), .int .u8 (at8 a 3), .int .u8 (at8 a 4), .int .u8 (at8 a 5), .int .u8 (at8 a 6), .int .u8 (at8 a 7)] 54) (.cells #[.int .u8 (at8 b 0), .int .u8 (at8 b 1), .int .u8 (at8 b 2), .int .u8 (at8 b 3), .int .u8 (at8 b 4), .int .u8 (at8 b 5), .int .u8 (at8 b 6), .int .u8 (at8 b 7)] 54) (.cells #[.int .u8 0, .int .u8 0, .int .u8 0, .int .u8 0, .int .u8 0, .int .u8 0, .int .u8 0, .int .u8 0] 54))
 go_upto_region 1 with fail
 obtain ⟨W, hW⟩ : ∃ W, W = (((w.alloc (.cells #[.int .u8 (at8 a 0), .int .u8 (at8 a 1), .int .u8 (at8 a 2), .int .u8 (at8 a 3), .int .u8 (at8 a 4), .int .u8 (at8 a 5), .int .u8 (at8 a 6), .int .u8 (at8 a 7)] 54)).alloc (.cells #[.int .u8 (at8 b 0), .int .u8 (at8 b 1), .int .u8 (at8 b 2), .int .u8 (at8 b 3), .int .u8 (at8 b 4), .int .u8 (at8 b 5), .int .u8 (at8 b 6), .int .u8 (at8 b 7)] 54)).alloc (.cells #[.int .u8 0, .int .u8 0, .int .u8 0, .int .u8 0, .int .u8 0, .int .u8 0, .int .u8 0, .int .u8 0] 54)) := ⟨_, rfl⟩
 rw [← hW] at RA RB RZ BB ⊢
 clear hW
 have zb := BB.out.size
 have za := RA.out.lt
 have zbb := RB.out.lt
 have hmk : (Instr.makeMap 111 none).run Try.prog W.drew = .ok (.map (some W.heap.size)) ((W.alloc (.map #[] 0)).drew) := run_makeMap _ _
 have P0 : MapA ((W.alloc (.map #[] 0)).drew) W.heap.size [] := by unfold MapA; exact Array.getElem?_push_size
 have hu1 : (Instr.mapUpdate 111 (.map (some W.heap.size)) (.agg #[.int .u8 (at8 a 0), .int .u8 (at8 a 1), .int .u8 (at8 a 2), .int .u8 (at8 a 3), .int .u8 (at8 a 4), .int .u8 (at8 a 5), .int .u8 (at8 a 6), .int .u8 (at8 a 7)]) (.agg #[.int .u8 (at8 a 0), .int .u8 (at8 a 1), .int .u8 (at8 a 2), .int .u8 (at8 a 3), .int .u8 (at8 a 4), .int .u8 (at8 a 5), .int .u8 (at8 a 6), .int .u8 (at8 a 7)])).run Try.prog ((W.alloc (.map #[] 0)).drew) = .ok () (setBlock ((W.alloc (.map #[] 0)).drew) W.heap.size (.map (entsF 0 [(a, a)]).toArray 1)) := run_update_new P0 (fun x hx => absurd hx List.not_mem_nil) a a SA.out.len rfl
 have PA : MapA (setBlock ((W.alloc (.map #[] 0)).drew) W.heap.size (.map (entsF 0 [(a, a)]).toArray 1)) W.heap.size [(a, a)] := setBlock_same _ P0.lt
 have Q0 : Wrote W.heap.size (W.heap.size + 1) W ((W.alloc (.map #[] 0)).drew) := below_wrote ((Below.refl _ _).alloc (Nat.le_refl _) (.map #[] 0)).drew
 have QA : Wrote W.heap.size (W.heap.size + 1) W (setBlock ((W.alloc (.map #[] 0)).drew) W.heap.size (.map (entsF 0 [(a, a)]).toArray 1)) := Q0.trans (setBlock_wrote _ _ _)
 have hu2 : (Instr.mapUpdate 111 (.map (some W.heap.size)) (.agg #[.int .u8 (at8 b 0), .int .u8 (at8 b 1), .int .u8 (at8 b 2), .int .u8 (at8 b 3), .int .u8 (at8 b 4), .int .u8 (at8 b 5), .int .u8 (at8 b 6), .int .u8 (at8 b 7)]) (.agg #[.int .u8 (at8 b 0), .int .u8 (at8 b 1), .int .u8 (at8 b 2), .int .u8 (at8 b 3), .int .u8 (at8 b 4), .int .u8 (at8 b 5), .int .u8 (at8 b 6), .int .u8 (at8 b 7)])).run Try.prog ((W.alloc (.map #[] 0)).drew) = .ok () (setBlock ((W.alloc (.map #[] 0)).drew) W.heap.size (.map (entsF 0 [(b, b)]).toArray 1)) := run_update_new P0 (fun x hx => absurd hx List.not_mem_nil) b b SB.out.len rfl
 have PB : MapA (setBlock ((W.alloc (.map #[] 0)).drew) W.heap.size (.map (entsF 0 [(b, b)]).toArray 1)) W.heap.size [(b, b)] := setBlock_same _ P0.lt
 have QB : Wrote W.heap.size (W.heap.size + 1) W (setBlock ((W.alloc (.map #[] 0)).drew) W.heap.size (.map (entsF 0 [(b, b)]).toArray 1)) := Q0.trans (setBlock_wrote _ _ _)
 have hu3 : (Instr.mapUpdate 111 (.map (some W.heap.size)) (.agg #[.int .u8 (at8 b 0), .int .u8 (at8 b 1), .int .u8 (at8 b 2), .int .u8 (at8 b 3), .int .u8 (at8 b 4), .int .u8 (at8 b 5), .int .u8 (at8 b 6), .int .u8 (at8 b 7)]) (.agg #[.int .u8 (at8 b 0), .int .u8 (at8 b 1), .int .u8 (at8 b 2), .int .u8 (at8 b 3), .int .u8 (at8 b 4), .int .u8 (at8 b 5), .int .u8 (at8 b 6), .int .u8 (at8 b 7)])).run Try.prog (setBlock ((W.alloc (.map #[] 0)).drew) W.heap.size (.map (entsF 0 [(a, a)]).toArray 1)) = .ok () (setBlock ((setBlock ((W.alloc (.map #[] 0)).drew) W.heap.size (.map (entsF 0 [(a, a)]).toArray 1))) W.heap.size (.map (entsF 0 [(a, a), (b, b)]).toArray 2)) := run_update_new PA (fun x hx => by rw [List.mem_singleton.1 hx]; exact SA.out.len) b b SB.out.len (by simp [findL, Ne.symm HNE.out])
 have hu4 : (Instr.mapUpdate 111 (.map (some W.heap.size)) (.agg #[.int .u8 (at8 a 0), .int .u8 (at8 a 1), .int .u8 (at8 a 2), .int .u8 (at8 a 3), .int .u8 (at8 a 4), .int .u8 (at8 a 5), .int .u8 (at8 a 6), .int .u8 (at8 a 7)]) (.agg #[.int .u8 (at8 a 0), .int .u8 (at8 a 1), .int .u8 (at8 a 2), .int .u8 (at8 a 3), .int .u8 (at8 a 4), .int .u8 (at8 a 5), .int .u8 (at8 a 6), .int .u8 (at8 a 7)])).run Try.prog (setBlock ((W.alloc (.map #[] 0)).drew) W.heap.size (.map (entsF 0 [(b, b)]).toArray 1)) = .ok () (setBlock ((setBlock ((W.alloc (.map #[] 0)).drew) W.heap.size (.map (entsF 0 [(b, b)]).toArray 1))) W.heap.size (.map (entsF 0 [(b, b), (a, a)]).toArray 2)) := run_update_new PB (fun x hx => by rw [List.mem_singleton.1 hx]; exact SB.out.len) a a SA.out.len (by simp [findL, HNE.out])
 have PAB : MapA (setBlock ((setBlock ((W.alloc (.map #[] 0)).drew) W.heap.size (.map (entsF 0 [(a, a)]).toArray 1))) W.heap.size (.map (entsF 0 [(a, a), (b, b)]).toArray 2)) W.heap.size [(a, a), (b, b)] := setBlock_same _ PA.lt
 have QAB : Wrote W.heap.size (W.heap.size + 1) W (setBlock ((setBlock ((W.alloc (.map #[] 0)).drew) W.heap.size (.map (entsF 0 [(a, a)]).toArray 1))) W.heap.size (.map (entsF 0 [(a, a), (b, b)]).toArray 2)) := QA.trans (setBlock_wrote _ _ _)
 have PBA : MapA (setBlock ((setBlock ((W.alloc (.map #[] 0)).drew) W.heap.size (.map (entsF 0 [(b, b)]).toArray 1))) W.heap.size (.map (entsF 0 [(b, b), (a, a)]).toArray 2)) W.heap.size [(b, b), (a, a)] := setBlock_same _ PB.lt
 have QBA : Wrote W.heap.size (W.heap.size + 1) W (setBlock ((setBlock ((W.alloc (.map #[] 0)).drew) W.heap.size (.map (entsF 0 [(b, b)]).toArray 1))) W.heap.size (.map (entsF 0 [(b, b), (a, a)]).toArray 2)) := QB.trans (setBlock_wrote _ _ _)
 have CA := Lib.hid (takeAll_meet n h1 h8 a b [(a, a), (b, b)] W _ PAB QAB (fun z hz => by
   rcases List.mem_cons.1 hz with rfl | hz
   ·exact SA.out.len
   ·rw [List.mem_singleton.1 hz]; exact SB.out.len) (apart_two _ _ HNE.out) (fun u hu => by
   rcases List.mem_cons.1 hu with rfl | hu
   ·exact SA.out
   ·rw [List.mem_singleton.1 hu]; exact SB.out) (by simp) rfl)
 have CB := Lib.hid (takeAll_meet n h1 h8 a b [(b, b), (a, a)] W _ PBA QBA (fun z hz => by
   rcases List.mem_cons.1 hz with rfl | hz
   ·exact SB.out.len
   ·rw [List.mem_singleton.1 hz]; exact SA.out.len) (apart_two _ _ (Ne.symm HNE.out)) (fun u hu => by
   rcases List.mem_cons.1 hu with rfl | hu
   ·exact SB.out
   ·rw [List.mem_singleton.1 hu]; exact SA.out) (by simp) (takeF_swap n 200 a b))
 clear P0 PA PB PAB PBA Q0 QA QB QAB QBA
 have HLT := Lib.hid (takeF_lets n 200 [a, b])
 go_region_held3 (fun w' => (w'.cell? ⟨w.heap.size, 0, none⟩ = some (.int .u8 (at8 a 0)) ∧ w'.cell? ⟨w.heap.size, 1, none⟩ = some (.int .u8 (at8 a 1)) ∧ w'.cell? ⟨w.heap.size, 2, none⟩ = some (.int .u8 (at8 a 2)) ∧ w'.cell? ⟨w.heap.size, 3, none⟩ = some (.int .u8 (at8 a 3)) ∧ w'.cell? ⟨w.heap.size, 4, none⟩ = some (.int .u8 (at8 a 4)) ∧ w'.cell? ⟨w.heap.size, 5, none⟩ = some (.int .u8 (at8 a 5)) ∧ w'.cell? ⟨w.heap.size, 6, none⟩ = some (.int .u8 (at8 a 6)) ∧ w'.cell? ⟨w.heap.size, 7, none⟩ = some (.int .u8 (at8 a 7))) ∧ (w'.cell? ⟨w.heap.size + 1, 0, none⟩ = some (.int .u8 (at8 b 0)) ∧ w'.cell? ⟨w.heap.size + 1, 1, none⟩ = some (.int .u8 (at8 b 1)) ∧ w'.cell? ⟨w.heap.size + 1, 2, none⟩ = some (.int .u8 (at8 b 2)) ∧ w'.cell? ⟨w.heap.size + 1, 3, none⟩ = some (.int .u8 (at8 b 3)) ∧ w'.cell? ⟨w.heap.size + 1, 4, none⟩ = some (.int .u8 (at8 b 4)) ∧ w'.cell? ⟨w.heap.size + 1, 5, none⟩ = some (.int .u8 (at8 b 5)) ∧ w'.cell? ⟨w.heap.size + 1, 6, none⟩ = some (.int .u8 (at8 b 6)) ∧ w'.cell? ⟨w.heap.size + 1, 7, none⟩ = some (.int .u8 (at8 b 7)))) (first | with_reducible exact ⟨((RA.out.drew)).flat, ((RB.out.drew)).flat⟩ | with_reducible exact ⟨(((RA.out.alloc _).drew)).flat, (((RB.out.alloc _).drew)).flat⟩ | with_reducible exact ⟨((((RA.out.alloc _).drew).setB (by omega))).flat, ((((RB.out.alloc _).drew).setB (by omega))).flat⟩ | with_reducible exact ⟨(((((RA.out.alloc _).drew).setB (by omega)).setB (by omega))).flat, (((((RB.out.alloc _).drew).setB (by omega)).setB (by omega))).flat⟩ | with_reducible exact ⟨(RA.out.below hb1).flat, (RB.out.below hb1).flat⟩ | with_reducible exact ⟨((RA.out.below hb1).below hb2).flat, ((RB.out.below hb1).below hb2).flat⟩ | with_reducible exact ⟨(((RA.out.below hb1).below hb2).past (w.heap.size + 1 + 1) (by omega) _ _ _ _ _ _ _ _).flat, (((RB.out.below hb1).below hb2).past (w.heap.size + 1 + 1) (by omega) _ _ _ _ _ _ _ _).flat⟩)
  (first
   | (go_at_call 121; (first | refine CA.out.mono ?_ | refine CB.out.mono ?_); rintro e w1 ⟨a1, m1, c1, rfl, hm1, hr1, hb1⟩)
   | (go_at_call 120; refine (exchanged_any n h8 a1 m1 c1 (takeR n [a, b]) _ hr1 HLT.out h1 (by omega)).mono ?_; rintro e w2 ⟨rfl, hb2⟩; obtain ⟨⟨d0, d1, d2, d3⟩, d4, d5, d6, d7⟩ := ((RZ.out.below hb1).below hb2).all; obtain ⟨⟨f0, f1, f2, f3⟩, f4, f5, f6, f7⟩ := ((RZ.out.below hb1).below hb2).frees; have zq := ((RZ.out.below hb1).below hb2).lt))
 all_goals
  have R3 := Lib.hid ((RZ.out.below hb1).below hb2)
  have B3 := Lib.hid (below_go (below_go BB.out hb1 zb) hb2 (Nat.le_trans zb hb1.size))
  have HX := Lib.hid (exsR_sim n h1 h8 (takeR n [a, b]) HLT.out).len
  go_wp2
  obtain ⟨⟨e0, e1, e2, e3⟩, e4, e5, e6, e7⟩ := (R3.out.fill (exsR n (takeR n [a, b])) HX.out).all
  refine bodyPost_ret (v := arr8 .u8 (exsR n (takeR n [a, b]))) (by simp [results, Try.results105, go_sem, e0, e1, e2, e3, e4, e5, e6, e7]) rfl ⟨rfl, ?_⟩
  exact below_fill8 B3.out _ (by omega) _ _ _ _ _ _ _ _

end Go.Proofs.Ytleoohplnkdbdab
