/- Merged texts. -/
import Derived.Test.YtehcbamfendbaaaSeStrands
import Derived.Maps.AppendAt

/- The model's places where the strands end. -/
namespace Go.Proofs.Ytehcbamfendbaaa
open Go.RowKit Go.ChangeShapes

set_option maxHeartbeats 4000000 in
theorem l01Perm_any (s : Nat) (hs : s ≤ 8) (a : Option Addr) (n cap : Nat) (xs : List Int) (w : World) (hr : Reads w a n xs) (hx : Letts s xs) (hn : n ≤ 1048576) :
  Calls Try.prog 78 #[.int .i64 s, .slice a n cap] w fun e w' => e = .returned (arr8 .u8 (ends 8 (run8 (startM s) xs) s)) ∧ Below w.heap.size w w' := by
 have hok := run8_ok s (startM s) xs (startM_ok s hs) (by rw [startM_len s hs]; exact hs) hx
 have hlen : (run8 (startM s) xs).length = 8 := by rw [run8_len, startM_len s hs]
 have C1 := fun W (hR : Reads W a n xs) => l01Strands_any s hs a n cap xs W hR hx hn
 obtain ⟨l, hl⟩ : ∃ l, l = run8 (startM s) xs := ⟨_, rfl⟩
 rw [← hl] at C1 hok hlen ⊢
 have K1 := Lib.hid C1
 have HOK := Lib.hid hok
 have HLEN := Lib.hid hlen
 have HR := Lib.hid hr
 clear C1 hl hok hlen hr hx
 go_enter Try.func78, Try.ntmps78
 have R0 := Lib.hid (Row8.zeros w .u8 60 w.heap.size rfl)
 have BB := Lib.hid (below1 w (.cells #[.int .u8 0, .int .u8 0, .int .u8 0, .int .u8 0, .int .u8 0, .int .u8 0, .int .u8 0, .int .u8 0] 60))
 go_wp2_with (go_at_call 102; refine (K1.out _ (HR.out.alloc _)).mono ?_; rintro e w1 ⟨rfl, hb⟩)
 replace R0 := Lib.hid (R0.out.below hb)
 replace BB := Lib.hid (below_go BB.out hb (by simp))
 clear hb
 go_wp2
 have zz := BB.out.size
 have z0 := R0.out.lt
 replace R0 := Lib.hid ((R0.out.alloc (.cells #[.int .u8 (at8 l 0), .int .u8 (at8 l 1), .int .u8 (at8 l 2), .int .u8 (at8 l 3), .int .u8 (at8 l 4), .int .u8 (at8 l 5), .int .u8 (at8 l 6), .int .u8 (at8 l 7)] 60)).alloc (.cells #[.int .u8 0, .int .u8 0, .int .u8 0, .int .u8 0, .int .u8 0, .int .u8 0, .int .u8 0, .int .u8 0] 60))
 replace BB := Lib.hid ((BB.out.alloc zz (.cells #[.int .u8 (at8 l 0), .int .u8 (at8 l 1), .int .u8 (at8 l 2), .int .u8 (at8 l 3), .int .u8 (at8 l 4), .int .u8 (at8 l 5), .int .u8 (at8 l 6), .int .u8 (at8 l 7)] 60)).alloc (by simp; omega) (.cells #[.int .u8 0, .int .u8 0, .int .u8 0, .int .u8 0, .int .u8 0, .int .u8 0, .int .u8 0, .int .u8 0] 60))
 have R5 := Lib.hid ((Row8.place w1 .u8 l 60 w1.heap.size rfl HLEN.out).alloc (.cells #[.int .u8 0, .int .u8 0, .int .u8 0, .int .u8 0, .int .u8 0, .int .u8 0, .int .u8 0, .int .u8 0] 60))
 have R6 := Lib.hid (Row8.zeros (w1.alloc (.cells #[.int .u8 (at8 l 0), .int .u8 (at8 l 1), .int .u8 (at8 l 2), .int .u8 (at8 l 3), .int .u8 (at8 l 4), .int .u8 (at8 l 5), .int .u8 (at8 l 6), .int .u8 (at8 l 7)] 60)) .u8 60 (w1.heap.size + 1) (by simp))
 go_loopw [7] (fun i wr => ∃ k : Nat, k ≤ s ∧ i = .int .i64 k ∧ Row8 wr w.heap.size .u8 [0, 0, 0, 0, 0, 0, 0, 0] ∧ Row8 wr w1.heap.size .u8 l ∧ Row8 wr (w1.heap.size + 1) .u8 (ends 8 l k) ∧ Below w.heap.size w wr) (fun i _ => s - (intOf i).toNat)
 case atStart => exact ⟨0, Nat.zero_le _, rfl, R0.out, R5.out, R6.out, BB.out⟩
 case round =>
  obtain ⟨k, hk, rfl, r0, r5, r6, bb⟩ := hrel
  clear R0 R5 R6 BB
  have R0 := Lib.hid r0
  have R5 := Lib.hid r5
  have R6 := Lib.hid r6
  have BB := Lib.hid bb
  clear r0 r5 r6 bb
  by_cases hlt : k < s
  ·obtain ⟨o1, o2⟩ := HOK.out k hlt
   have st := ends_step 8 l k
   obtain ⟨v, hv⟩ : ∃ v : Nat, at8 l k = (v : Int) := ⟨(at8 l k).toNat, by omega⟩
   have c5 := R5.out.cell k (by omega)
   rw [hv] at c5 o1 o2 st
   have HST := Lib.hid st
   clear hv st
   have f6 := R6.out.free v (by omega)
   have c6 := R6.out.cell v (by omega)
   have z5 := R5.out.lt
   have z6 := R6.out.lt
   go_wp2
   go_round
   case rel =>
    refine ⟨k + 1, by omega, by go_num, R0.out.setCell (by simp; omega) _, R5.out.setCell (by simp) _, ?_, BB.out.setCell (by simp; omega) _⟩
    rw [HST.out]
    exact R6.out.store v (by omega) k
   case measure => simp [intOf]; omega
  ·have hkn : k = s := by omega
   subst hkn
   obtain ⟨⟨c0, c1, c2, c3⟩, c4, c5, c6, c7⟩ := R6.out.all
   obtain ⟨⟨d0, d1, d2, d3⟩, d4, d5, d6, d7⟩ := R0.out.all
   obtain ⟨⟨f0, f1, f2, f3⟩, f4, f5, f6, f7⟩ := R0.out.frees
   have z1 := R0.out.lt
   go_wp2
   obtain ⟨⟨e0, e1, e2, e3⟩, e4, e5, e6, e7⟩ := (R0.out.fill (ends 8 l k) R6.out.len).all
   refine bodyPost_ret (v := arr8 .u8 (ends 8 l k)) (by simp [results, Try.results78, go_sem, e0, e1, e2, e3, e4, e5, e6, e7]) rfl ⟨rfl, ?_⟩
   exact below_fill8 BB.out _ (Nat.le_refl _) _ _ _ _ _ _ _ _

end Go.Proofs.Ytehcbamfendbaaa

/- Where the strands end: the model's answer. -/
namespace Go.Proofs.Ytehcbamfendbaaa
open Go.RowKit Go.ChangeShapes

/-- A braid's number of strands as a natural number, and its letters' bounds. -/
theorem braid_nat {s : Int} {xs : List Int} (h : isBraid s xs = true) : ∃ k : Nat, s = k ∧ 1 ≤ k ∧ k ≤ 8 ∧ Letts k xs := by
 obtain ⟨h1, h2, _, h3⟩ := (isBraid_iff s xs).1 h
 obtain ⟨k, rfl⟩ : ∃ k : Nat, s = k := ⟨s.toNat, by omega⟩
 exact ⟨k, rfl, by omega, by omega, h3⟩

theorem Row8.grown {w w' : World} {g : Nat} {k : IntKind} {l : List Int} {row : Option Nat} (h : Row8 w g k l) (hg : w.grownBy w' row) (hr : row ≠ some g) : Row8 w' g k l := h.heap hg.size (hg.block g h.lt (Ne.symm hr))

end Go.Proofs.Ytehcbamfendbaaa
