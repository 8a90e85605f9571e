/- The meet of a simple braid and itself: the program. -/
import Derived.Test.YtgljkffkpmkheaaSlMapK
import Derived.Test.YtgljkffkpmkheaaSlMapG
import Derived.Deep.RegionHeld3
import Derived.Deep.DeepCutAuto
namespace Go.Proofs.Ytgljkffkpmkheaa
open Go.RowKit Go.ChangeShapes
open Go.ChangeMaps (setBlock)

set_option maxRecDepth 100000 in
set_option maxHeartbeats 1000000 in
theorem meet_eq (n : Nat) (a : List Int) (sa : Sim n a) (w : World) :
  Calls Try.prog 148 #[arr8 .u8 a, arr8 .u8 a, .int .i64 n] w (RetArr .u8 w (exsR n (takeR n [a, a]))) := by
 have h8 := sa.hi
 have SA := Lib.hid sa
 have h1 := sa.lo
 clear sa
 go_enter Try.func148, Try.ntmps148
 have RA := Lib.hid (((Row8.place w .u8 a 67 w.heap.size rfl SA.out.len).alloc (.cells #[.int .u8 (at8 a 0), .int .u8 (at8 a 1), .int .u8 (at8 a 2), .int .u8 (at8 a 3), .int .u8 (at8 a 4), .int .u8 (at8 a 5), .int .u8 (at8 a 6), .int .u8 (at8 a 7)] 67)).alloc (.cells #[.int .u8 0, .int .u8 0, .int .u8 0, .int .u8 0, .int .u8 0, .int .u8 0, .int .u8 0, .int .u8 0] 67))
 have RB := Lib.hid ((Row8.place (w.alloc (.cells #[.int .u8 (at8 a 0), .int .u8 (at8 a 1), .int .u8 (at8 a 2), .int .u8 (at8 a 3), .int .u8 (at8 a 4), .int .u8 (at8 a 5), .int .u8 (at8 a 6), .int .u8 (at8 a 7)] 67)) .u8 a 67 (w.heap.size + 1) (by simp) SA.out.len).alloc (.cells #[.int .u8 0, .int .u8 0, .int .u8 0, .int .u8 0, .int .u8 0, .int .u8 0, .int .u8 0, .int .u8 0] 67))
 have RZ := Lib.hid (Row8.zeros ((w.alloc (.cells #[.int .u8 (at8 a 0), .int .u8 (at8 a 1), .int .u8 (at8 a 2), .int .u8 (at8 a 3), .int .u8 (at8 a 4), .int .u8 (at8 a 5), .int .u8 (at8 a 6), .int .u8 (at8 a 7)] 67)).alloc (.cells #[.int .u8 (at8 a 0), .int .u8 (at8 a 1), .int .u8 (at8 a 2), .int .u8 (at8 a 3), .int .u8 (at8 a 4), .int .u8 (at8 a 5), .int .u8 (at8 a 6), .int .u8 (at8 a 7)] 67)) .u8 67 (w.heap.size + 1 + 1) (by simp))
 have BB := Lib.hid (below3 w (.cells #[.int .u8 (at8 a 0), .int .u8 (at8 a 1), .int .u8 (at8 a 2), .int .u8 (at8 a 3), .int .u8 (at8 a 4), .int .u8 (at8 a 5), .int .u8 (at8 a 6), .int .u8 (at8 a 7)] 67) (.cells #[.int .u8 (at8 a 0), .int .u8 (at8 a 1), .int .u8 (at8 a 2), .int .u8 (at8 a 3), .int .u8 (at8 a 4), .int .u8 (at8 a 5), .int .u8 (at8 a 6), .int .u8 (at8 a 7)] 67) (.cells #[.int .u8 0, .int .u8 0, .int .u8 0, .int .u8 0, .int .u8 0, .int .u8 0, .int .u8 0, .int .u8 0] 67))
 go_upto_region 1 with fail
 obtain ⟨W, hW⟩ : ∃ W, W = (((w.alloc (.cells #[.int .u8 (at8 a 0), .int .u8 (at8 a 1), .int .u8 (at8 a 2), .int .u8 (at8 a 3), .int .u8 (at8 a 4), .int .u8 (at8 a 5), .int .u8 (at8 a 6), .int .u8 (at8 a 7)] 67)).alloc (.cells #[.int .u8 (at8 a 0), .int .u8 (at8 a 1), .int .u8 (at8 a 2), .int .u8 (at8 a 3), .int .u8 (at8 a 4), .int .u8 (at8 a 5), .int .u8 (at8 a 6), .int .u8 (at8 a 7)] 67)).alloc (.cells #[.int .u8 0, .int .u8 0, .int .u8 0, .int .u8 0, .int .u8 0, .int .u8 0, .int .u8 0, .int .u8 0] 67)) := ⟨_, rfl⟩
 rw [← hW] at RA RB RZ BB ⊢
 clear hW
 have zb := BB.out.size
 have za := RA.out.lt
 have zbb := RB.out.lt
 have hmk : (Instr.makeMap 121 none).run Try.prog W.drew = .ok (.map (some W.heap.size)) ((W.alloc (.map #[] 0)).drew) := run_makeMap _ _
 have P0 : MapA ((W.alloc (.map #[] 0)).drew) W.heap.size [] := by unfold MapA; exact Array.getElem?_push_size
 have hu1 : (Instr.mapUpdate 121 (.map (some W.heap.size)) (.agg #[.int .u8 (at8 a 0), .int .u8 (at8 a 1), .int .u8 (at8 a 2), .int .u8 (at8 a 3), .int .u8 (at8 a 4), .int .u8 (at8 a 5), .int .u8 (at8 a 6), .int .u8 (at8 a 7)]) (.agg #[.int .u8 (at8 a 0), .int .u8 (at8 a 1), .int .u8 (at8 a 2), .int .u8 (at8 a 3), .int .u8 (at8 a 4), .int .u8 (at8 a 5), .int .u8 (at8 a 6), .int .u8 (at8 a 7)])).run Try.prog ((W.alloc (.map #[] 0)).drew) = .ok () (setBlock ((W.alloc (.map #[] 0)).drew) W.heap.size (.map (entsF 0 [(a, a)]).toArray 1)) := run_update_new P0 (fun x hx => absurd hx List.not_mem_nil) a a SA.out.len rfl
 have PA : MapA (setBlock ((W.alloc (.map #[] 0)).drew) W.heap.size (.map (entsF 0 [(a, a)]).toArray 1)) W.heap.size [(a, a)] := setBlock_same _ P0.lt
 have Q0 : Wrote W.heap.size (W.heap.size + 1) W ((W.alloc (.map #[] 0)).drew) := below_wrote ((Below.refl _ _).alloc (Nat.le_refl _) (.map #[] 0)).drew
 have QA : Wrote W.heap.size (W.heap.size + 1) W (setBlock ((W.alloc (.map #[] 0)).drew) W.heap.size (.map (entsF 0 [(a, a)]).toArray 1)) := Q0.trans (setBlock_wrote _ _ _)
 have hu2 : (Instr.mapUpdate 121 (.map (some W.heap.size)) (.agg #[.int .u8 (at8 a 0), .int .u8 (at8 a 1), .int .u8 (at8 a 2), .int .u8 (at8 a 3), .int .u8 (at8 a 4), .int .u8 (at8 a 5), .int .u8 (at8 a 6), .int .u8 (at8 a 7)]) (.agg #[.int .u8 (at8 a 0), .int .u8 (at8 a 1), .int .u8 (at8 a 2), .int .u8 (at8 a 3), .int .u8 (at8 a 4), .int .u8 (at8 a 5), .int .u8 (at8 a 6), .int .u8 (at8 a 7)])).run Try.prog (setBlock ((W.alloc (.map #[] 0)).drew) W.heap.size (.map (entsF 0 [(a, a)]).toArray 1)) = .ok () (setBlock ((setBlock ((W.alloc (.map #[] 0)).drew) W.heap.size (.map (entsF 0 [(a, a)]).toArray 1))) W.heap.size (.map (entsF 0 [(a, a)]).toArray 1)) := run_update_old PA (fun x hx => by rw [List.mem_singleton.1 hx]; exact SA.out.len) a a SA.out.len 0 (arr8 .u8 a) (by simp [findL])
 have PAA : MapA (setBlock ((setBlock ((W.alloc (.map #[] 0)).drew) W.heap.size (.map (entsF 0 [(a, a)]).toArray 1))) W.heap.size (.map (entsF 0 [(a, a)]).toArray 1)) W.heap.size [(a, a)] := setBlock_same _ PA.lt
 have QAA : Wrote W.heap.size (W.heap.size + 1) W (setBlock ((setBlock ((W.alloc (.map #[] 0)).drew) W.heap.size (.map (entsF 0 [(a, a)]).toArray 1))) W.heap.size (.map (entsF 0 [(a, a)]).toArray 1)) := QA.trans (setBlock_wrote _ _ _)
 have CA := Lib.hid (takeAll_meet n h1 h8 a a [(a, a)] W _ PAA QAA (fun x hx => by rw [List.mem_singleton.1 hx]; exact SA.out.len) (fun i j x y hx hy _ => by
   have h1 := (List.getElem?_eq_some_iff.1 hx).1
   have h2 := (List.getElem?_eq_some_iff.1 hy).1
   simp at h1 h2
   omega) (fun u hu => by rw [List.mem_singleton.1 hu]; exact SA.out) (by simp) (takeF_two n 200 a))
 clear P0 PA PAA Q0 QA QAA
 have HLT := Lib.hid (takeF_lets n 200 [a, a])
 go_region_held3 (fun w' => (w'.cell? ⟨w.heap.size, 0, none⟩ = some (.int .u8 (at8 a 0)) ∧ w'.cell? ⟨w.heap.size, 1, none⟩ = some (.int .u8 (at8 a 1)) ∧ w'.cell? ⟨w.heap.size, 2, none⟩ = some (.int .u8 (at8 a 2)) ∧ w'.cell? ⟨w.heap.size, 3, none⟩ = some (.int .u8 (at8 a 3)) ∧ w'.cell? ⟨w.heap.size, 4, none⟩ = some (.int .u8 (at8 a 4)) ∧ w'.cell? ⟨w.heap.size, 5, none⟩ = some (.int .u8 (at8 a 5)) ∧ w'.cell? ⟨w.heap.size, 6, none⟩ = some (.int .u8 (at8 a 6)) ∧ w'.cell? ⟨w.heap.size, 7, none⟩ = some (.int .u8 (at8 a 7))) ∧ (w'.cell? ⟨w.heap.size + 1, 0, none⟩ = some (.int .u8 (at8 a 0)) ∧ w'.cell? ⟨w.heap.size + 1, 1, none⟩ = some (.int .u8 (at8 a 1)) ∧ w'.cell? ⟨w.heap.size + 1, 2, none⟩ = some (.int .u8 (at8 a 2)) ∧ w'.cell? ⟨w.heap.size + 1, 3, none⟩ = some (.int .u8 (at8 a 3)) ∧ w'.cell? ⟨w.heap.size + 1, 4, none⟩ = some (.int .u8 (at8 a 4)) ∧ w'.cell? ⟨w.heap.size + 1, 5, none⟩ = some (.int .u8 (at8 a 5)) ∧ w'.cell? ⟨w.heap.size + 1, 6, none⟩ = some (.int .u8 (at8 a 6)) ∧ w'.cell? ⟨w.heap.size + 1, 7, none⟩ = some (.int .u8 (at8 a 7)))) (first | with_reducible exact ⟨((RA.out.drew)).flat, ((RB.out.drew)).flat⟩ | with_reducible exact ⟨(((RA.out.alloc _).drew)).flat, (((RB.out.alloc _).drew)).flat⟩ | with_reducible exact ⟨((((RA.out.alloc _).drew).setB (by omega))).flat, ((((RB.out.alloc _).drew).setB (by omega))).flat⟩ | with_reducible exact ⟨(((((RA.out.alloc _).drew).setB (by omega)).setB (by omega))).flat, (((((RB.out.alloc _).drew).setB (by omega)).setB (by omega))).flat⟩ | with_reducible exact ⟨(RA.out.below hb1).flat, (RB.out.below hb1).flat⟩ | with_reducible exact ⟨((RA.out.below hb1).below hb2).flat, ((RB.out.below hb1).below hb2).flat⟩ | with_reducible exact ⟨(((RA.out.below hb1).below hb2).past (w.heap.size + 1 + 1) (by omega) _ _ _ _ _ _ _ _).flat, (((RB.out.below hb1).below hb2).past (w.heap.size + 1 + 1) (by omega) _ _ _ _ _ _ _ _).flat⟩)
  (first
   | (go_at_call 164; refine CA.out.mono ?_; rintro e w1 ⟨a1, m1, c1, rfl, hm1, hr1, hb1⟩)
   | (go_at_call 163; refine (exchanged_any n h8 a1 m1 c1 (takeR n [a, a]) _ hr1 HLT.out h1 (by omega)).mono ?_; rintro e w2 ⟨rfl, hb2⟩; obtain ⟨⟨d0, d1, d2, d3⟩, d4, d5, d6, d7⟩ := ((RZ.out.below hb1).below hb2).all; obtain ⟨⟨f0, f1, f2, f3⟩, f4, f5, f6, f7⟩ := ((RZ.out.below hb1).below hb2).frees; have zq := ((RZ.out.below hb1).below hb2).lt))
 all_goals
  have R3 := Lib.hid ((RZ.out.below hb1).below hb2)
  have B3 := Lib.hid (below_go (below_go BB.out hb1 zb) hb2 (Nat.le_trans zb hb1.size))
  have HX := Lib.hid (exsR_sim n h1 h8 (takeR n [a, a]) HLT.out).len
  go_wp2
  obtain ⟨⟨e0, e1, e2, e3⟩, e4, e5, e6, e7⟩ := (R3.out.fill (exsR n (takeR n [a, a])) HX.out).all
  refine bodyPost_ret (v := arr8 .u8 (exsR n (takeR n [a, a]))) (by simp [results, Try.results148, go_sem, e0, e1, e2, e3, e4, e5, e6, e7]) rfl ⟨rfl, ?_⟩
  exact below_fill8 B3.out _ (by omega) _ _ _ _ _ _ _ _

end Go.Proofs.Ytgljkffkpmkheaa

