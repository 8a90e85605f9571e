/- Simple braids: rows that are made place by place by a function value. -/
import Derived.Test.YthelncibpoijoaaSortP
import Derived.Test.YthelncibpoijoaaKit7
import Derived.Test.YthelncibpoijoaaBase
import Derived.Deep.RegionHeld3
namespace Go.Proofs.Ythelncibpoijoaa
open Go.RowKit Go.ChangeShapes

theorem infoByte : (Try.prog.info? 5).map (fun i => (i.zero, i.size, i.bytes)) = some (some (.int .u8 0), 1, 1) := by kernel_rfl

/-- A new array of eight bytes. -/
theorem Row8.made {B : Nat} {w : World} (h : w.ownsRow B 5 1 (.slice (some ⟨B, 0, none⟩) 8 8) 8 (madeCells #[Value.int .u8 0] 8).toList) : Row8 w B .u8 [0, 0, 0, 0, 0, 0, 0, 0] := by
  rw [toList_madeCells_one] at h
  refine ⟨?_, rfl, fun j hj => ?_, fun j _ => World.ownsRow.frozenAt h j⟩
  · rcases h.2 with ⟨hv, h0⟩ | ⟨g, c, cur, hv, hg, hh, r⟩
    · cases hv
    · simp only [Value.slice.injEq, Option.some.injEq, Addr.mk.injEq] at hv
      obtain ⟨⟨rfl, _⟩, _⟩ := hv
      obtain ⟨hlt, _⟩ := Array.getElem?_eq_some_iff.1 hh
      exact hlt
  · rw [World.ownsRow.cellAt h j (by simpa using hj)]
    have : j = 0 ∨ j = 1 ∨ j = 2 ∨ j = 3 ∨ j = 4 ∨ j = 5 ∨ j = 6 ∨ j = 7 := by omega
    rcases this with rfl | rfl | rfl | rfl | rfl | rfl | rfl | rfl <;> rfl

/-- A slice of eight bytes as an array. -/
theorem arrayAt8 (g : Nat) (W : World) : Sem.run Try.prog (Instr.arrayAt 52 (.slice (some ⟨g, 0, none⟩) 8 8)) W = .ok (.pointer (some ⟨g, 0, none⟩)) W := by
  have ht : ∀ W, (underlying 52).run Try.prog W = .ok (.array 8 5) W := fun _ => by kernel_rfl
  simp [Instr.arrayAt, go_sem, ht]

set_option maxRecDepth 100000 in
set_option maxHeartbeats 4000000 in
theorem simpleFrom_any (F : FuncId) (caps : Array Value) (f : Nat → Int) (n : Nat) (h8 : n ≤ 8) (w : World)
    (hcall : ∀ (args : Array Value) (W : World), Sem.run Try.prog (callFunc F args) W = .ok (.enter F args) W)
    (hF : ∀ (x : Nat) W, Below w.heap.size w W → x < n → Calls Try.prog F (#[.int .u8 x] ++ caps) W fun e w' => e = .returned (.int .u8 (f x)) ∧ Below W.heap.size W w') :
    Calls Try.prog 81 #[.int .i64 n, .func (.func F) #[] caps] w (RetArr .u8 w (mapR n f)) := by
  obtain ⟨i0, hi, hz0, hz1, hz2⟩ := info_parts infoByte
  have HFF := Lib.hid hF; clear hF
  have HCALL := Lib.hid hcall; clear hcall
  go_enter Try.func81, Try.ntmps81
  have Z0 := Lib.hid (Row8.zeros w .u8 52 w.heap.size rfl)
  have BB := Lib.hid (below1 w (.cells #[.int .u8 0, .int .u8 0, .int .u8 0, .int .u8 0, .int .u8 0, .int .u8 0, .int .u8 0, .int .u8 0] 52))
  go_wp2_with (at_make; refine wpList_make_full (w.alloc (.cells #[.int .u8 0, .int .u8 0, .int .u8 0, .int .u8 0, .int .u8 0, .int .u8 0, .int .u8 0, .int .u8 0] 52)) rfl _ _ 77 rfl (w.heap.size + 1) 5 i0 (.int .u8 0) 1 Try.underlying77 hi hz0 hz1 .i64 .i64 _ _ 8 rfl rfl (by omega) (by omega) (by rw [hz2]; omega) (by unfold maxLen; omega) (by simp) ?_)
  intro w1 hown hgrow
  have E0 := Lib.hid (Row8.made hown)
  have hb := Below.ofGrown hgrow
  clear hown hgrow
  replace Z0 := Lib.hid (Z0.out.below hb)
  replace BB := Lib.hid (below_go BB.out hb (by simp))
  clear hb
  go_wp2
  go_loopw [12] (fun i wr => ∃ k : Nat, k ≤ n ∧ i = .int .i64 k ∧ Row8 wr (w.heap.size + 1) .u8 (mapR k f) ∧ Row8 wr w.heap.size .u8 [0, 0, 0, 0, 0, 0, 0, 0] ∧ Below w.heap.size w wr) (fun i _ => n - (intOf i).toNat)
  case atStart => exact ⟨0, Nat.zero_le _, rfl, E0.out, Z0.out, BB.out⟩
  case round =>
    obtain ⟨k, hk, rfl, he, hz, hb⟩ := hrel
    clear E0 Z0 BB
    have E0 := Lib.hid he
    have Z0 := Lib.hid hz
    have BB := Lib.hid hb
    clear he hz hb
    have zz := BB.out.size
    have ze := E0.out.lt
    by_cases hlt : k < n
    · have hcall := HCALL.out
      go_wp2_with fail
      clear hcall
      refine (HFF.out k _ BB.out hlt).mono ?_
      rintro e w2 ⟨rfl, hb⟩
      replace E0 := Lib.hid (E0.out.below hb)
      replace Z0 := Lib.hid (Z0.out.below hb)
      replace BB := Lib.hid (below_go BB.out hb zz)
      clear hb
      have c1 := E0.out.cell k (by omega)
      have c2 := E0.out.free k (by omega)
      clear zz ze
      have zz := BB.out.size
      have ze := E0.out.lt
      go_wp2
      go_roundw
      case rel =>
        refine ⟨k + 1, by omega, by go_num, ?_, Z0.out.setCell (by simp) _, BB.out.setCell (p := ⟨w.heap.size + 1, k, none⟩) (by simp) _⟩
        rw [← mapR_step k f (by omega)]
        exact E0.out.store k (by omega) (f k)
      case measure => simp [intOf]; omega
    · have hkn : k = n := by omega
      have HK := Lib.hid hkn
      clear hkn
      obtain ⟨⟨c0, c1, c2, c3⟩, c4, c5, c6, c7⟩ := E0.out.all
      obtain ⟨⟨d0, d1, d2, d3⟩, d4, d5, d6, d7⟩ := Z0.out.all
      obtain ⟨⟨f0, f1, f2, f3⟩, f4, f5, f6, f7⟩ := Z0.out.frees
      have z0 := Z0.out.lt
      have hsa := fun W => arrayAt8 (w.heap.size + 1) W
      go_wp2
      obtain ⟨⟨e0, e1, e2, e3⟩, e4, e5, e6, e7⟩ := (Z0.out.fill (mapR k f) E0.out.len).all
      refine bodyPost_ret (v := arr8 .u8 (mapR k f)) (by simp [results, Try.results81, go_sem, e0, e1, e2, e3, e4, e5, e6, e7]) rfl ⟨by rw [HK.out], ?_⟩
      exact below_fill8 BB.out _ (Nat.le_refl _) _ _ _ _ _ _ _ _

end Go.Proofs.Ythelncibpoijoaa
