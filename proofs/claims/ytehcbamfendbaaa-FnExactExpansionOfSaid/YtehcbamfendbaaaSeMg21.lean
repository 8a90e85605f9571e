/- Merged texts. -/
import Derived.Test.YtehcbamfendbaaaSeQA
import Derived.Deep.RegionHeld3

/- The program's words: letters turned one by one, words backwards, words again and again. -/
namespace Go.Proofs.Ytehcbamfendbaaa
open Go.RowKit Go.ChangeShapes

theorem inverse_any (x : Int) (w : World) (h1 : -1000 < x) (h2 : x < 1000) :
  Calls Try.prog 108 #[.int .i64 x] w fun e w' => e = .returned (.int .i64 (-x)) ∧ w = w' := by
 go_enter Try.func108, Try.ntmps108
 go_wp2
 go_ret
 exact ⟨rfl, rfl⟩

theorem At2.grown {w w' : World} {g : Nat} {u v : Value} (h : At2 w g u v) (k : w.grownBy w' none) : At2 w' g u v := h.below (Below.ofGrown k)

set_option maxHeartbeats 1000000 in
theorem changed_any (F : FuncId) (caps : Array Value) (g : Int → Int) (s t : Int) (a : Option Addr) (n cap : Nat) (xs : List Int) (w : World) (hr : Reads w a n xs) (hsm : Small xs) (hn : n ≤ 1048576)
  (hcall : ∀ (args : Array Value) (W : World), Sem.run Try.prog (callFunc F args) W = .ok (.enter F args) W)
  (hF : ∀ x W, Below w.heap.size w W → -1000 < x → x < 1000 → Calls Try.prog F (#[.int .i64 x] ++ caps) W fun e w' => e = .returned (.int .i64 (g x)) ∧ Below W.heap.size W w') :
  Calls Try.prog 107 #[.agg #[.int .i64 s, .slice a n cap], .int .i64 t, .func (.func F) #[] caps] w (MadeBraid w t (xs.map g)) := by
 obtain ⟨i0, hi, hz0, hz1, hz2⟩ := info_parts infoInt
 have HL := Lib.hid hr.len
 have HSM := Lib.hid hsm; clear hsm
 have HFF := Lib.hid hF; clear hF
 have HCALL := Lib.hid hcall; clear hcall
 have R := Lib.hid hr; clear hr
 rcases Nat.eq_zero_or_pos n with h0 | h0
 ·subst h0
  go_enter Try.func107, Try.ntmps107
  replace R := Lib.hid (R.out.alloc (.cells #[.int .i64 s, .slice a 0 cap] 29))
  have A := Lib.hid (At2.new w (.int .i64 s) (.slice a 0 cap) 29)
  have BB := Lib.hid (below1 w (.cells #[.int .i64 s, .slice a 0 cap] 29))
  replace R := Lib.hid (R.out.alloc (.cells #[.int .i64 0, .slice none 0 0] 29))
  replace A := Lib.hid (A.out.alloc (.cells #[.int .i64 0, .slice none 0 0] 29))
  have Z := Lib.hid (At2.place (w.alloc (.cells #[.int .i64 s, .slice a 0 cap] 29)) (.int .i64 0) (.slice none 0 0) 29 (w.heap.size + 1) (by simp))
  replace BB := Lib.hid (BB.out.alloc (by simp; try omega) (.cells #[.int .i64 0, .slice none 0 0] 29))
  go_wp2_with (at_make; refine wpList_make_full ((w.alloc (.cells #[.int .i64 s, .slice a 0 cap] 29)).alloc (.cells #[.int .i64 0, .slice none 0 0] 29)) rfl _ _ 22 rfl (w.heap.size + 1 + 1) 2 i0 (.int .i64 0) 1 Try.underlying22 hi hz0 hz1 .i64 .i64 _ _ 0 rfl rfl (by rfl) (by rfl) (by rw [hz2]; omega) (by unfold maxLen; omega) (by simp) ?_)
  intro w1 hown hgrow
  have hown1 := own_made hown
  have hb := Below.ofGrown hgrow
  clear hown hgrow
  replace R := Lib.hid (R.out.below hb)
  replace A := Lib.hid (A.out.below hb)
  replace Z := Lib.hid (Z.out.below hb)
  have z1 : w.heap.size + 2 ≤ w1.heap.size := by have := hb.size; simp at this; omega
  replace BB := Lib.hid (below_go BB.out hb (by simp; omega))
  clear hb
  obtain ⟨qA1, qA2, qA3, qA4, qA5⟩ := A.out
  obtain ⟨qZ1, qZ2, qZ3, qZ4, qZ5⟩ := Z.out
  have B3 : w.heap.size + 2 ≤ w1.heap.size := z1
  go_wp2
  refine wp_loop_rounds 1 ?_; rw [rounds_succ]
  go_wp2
  obtain ⟨_, e2, e3, _, _⟩ := Z.out.fill (.int .i64 t) (.slice (some ⟨w.heap.size + 1 + 1, 0, none⟩) 0 0)
  have hx : xs = [] := List.eq_nil_of_length_eq_zero HL.out
  rw [hx]
  refine bodyPost_ret (v := .agg #[.int .i64 t, .slice (some ⟨w.heap.size + 1 + 1, 0, none⟩) 0 0]) (by simp [results, Try.results107, go_sem, e2, e3]) rfl ⟨_, 0, 0, rfl, ?_, ?_⟩
  ·exact ((hown1.setCell_below (by simp) _).setCell_below (by simp) _).mono (by omega)
  ·exact (BB.out.setCell (p := ⟨w.heap.size + 1, 0, none⟩) (by simp) _).setCell (p := ⟨w.heap.size + 1, 1, none⟩) (by simp) _
 ·obtain ⟨b, off, rfl, hb0, hc⟩ := R.out.cells h0
  have HC := Lib.hid hc; clear hc
  go_enter Try.func107, Try.ntmps107
  replace R := Lib.hid (R.out.alloc (.cells #[.int .i64 s, .slice (some ⟨b, off, none⟩) n cap] 29))
  have A := Lib.hid (At2.new w (.int .i64 s) (.slice (some ⟨b, off, none⟩) n cap) 29)
  have BB := Lib.hid (below1 w (.cells #[.int .i64 s, .slice (some ⟨b, off, none⟩) n cap] 29))
  replace R := Lib.hid (R.out.alloc (.cells #[.int .i64 0, .slice none 0 0] 29))
  replace A := Lib.hid (A.out.alloc (.cells #[.int .i64 0, .slice none 0 0] 29))
  have Z := Lib.hid (At2.place (w.alloc (.cells #[.int .i64 s, .slice (some ⟨b, off, none⟩) n cap] 29)) (.int .i64 0) (.slice none 0 0) 29 (w.heap.size + 1) (by simp))
  replace BB := Lib.hid (BB.out.alloc (by simp; try omega) (.cells #[.int .i64 0, .slice none 0 0] 29))
  go_wp2_with (at_make; refine wpList_make_full ((w.alloc (.cells #[.int .i64 s, .slice (some ⟨b, off, none⟩) n cap] 29)).alloc (.cells #[.int .i64 0, .slice none 0 0] 29)) rfl _ _ 22 rfl (w.heap.size + 1 + 1) 2 i0 (.int .i64 0) 1 Try.underlying22 hi hz0 hz1 .i64 .i64 _ _ n rfl rfl (by omega) (by omega) (by rw [hz2]; omega) (by unfold maxLen; omega) (by simp) ?_)
  intro w1 hown hgrow
  have hown1 := own_made hown
  have hb := Below.ofGrown hgrow
  clear hown hgrow
  replace R := Lib.hid (R.out.below hb)
  replace A := Lib.hid (A.out.below hb)
  replace Z := Lib.hid (Z.out.below hb)
  have z1 : w.heap.size + 2 ≤ w1.heap.size := by have := hb.size; simp at this; omega
  replace BB := Lib.hid (below_go BB.out hb (by simp; omega))
  clear hb
  obtain ⟨qA1, qA2, qA3, qA4, qA5⟩ := A.out
  obtain ⟨qZ1, qZ2, qZ3, qZ4, qZ5⟩ := Z.out
  have B3 : w.heap.size + 2 ≤ w1.heap.size := z1
  go_wp2
  clear qA1 qA2 qA3 qA4 qA5 qZ1 qZ2 qZ3 qZ4 qZ5
  clear z1
  go_loopw [17] (fun i wr => ∃ k : Nat, k ≤ n ∧ i = .int .i64 k ∧ Own (w.heap.size + 1 + 1) wr (some ⟨w.heap.size + 1 + 1, 0, none⟩) n n ((xs.map g).take k ++ List.replicate (n - k) 0) ∧ Below (w.heap.size + 1 + 1) w1 wr) (fun i _ => n - (intOf i).toNat)
  case atStart => exact ⟨0, Nat.zero_le _, rfl, by simpa using hown1, Below.refl _ _⟩
  case round =>
   obtain ⟨k, hk, rfl, ho, hbl⟩ := hrel
   clear hown1
   have hA := A.out.heap hbl.size (hbl.block _ (by omega))
   have hZ := Z.out.heap hbl.size (hbl.block _ (by omega))
   have HB0 := Lib.hid (BB.out.trans (hbl.mono (by omega)))
   have HZ := Lib.hid hZ
   obtain ⟨qA1, qA2, qA3, qA4, qA5⟩ := hA
   obtain ⟨qZ1, qZ2, qZ3, qZ4, qZ5⟩ := hZ
   by_cases hlt : k < n
   ·have hm := HSM.out _ (getD_mem xs k (by rw [HL.out]; exact hlt))
    obtain ⟨x, hx⟩ : ∃ x, x = xs.getD k 0 := ⟨_, rfl⟩
    have h1 : wr.cell? ⟨b, off + k, none⟩ = some (.int .i64 x) := by rw [hx]; exact (HB0.out.cell (by exact hb0)).trans (HC.out k hlt)
    rw [← hx] at hm
    have HX := Lib.hid hx; clear hx
    obtain ⟨hm1, hm2⟩ := hm
    have HO := Lib.hid ho; clear ho
    have HBL := Lib.hid hbl; clear hbl
    have hcall := HCALL.out
    go_wp2_with fail
    clear hcall
    refine (HFF.out x _ HB0.out hm1 hm2).mono ?_
    rintro e w2 ⟨rfl, hb⟩
    have ho2 := HO.out.below hb
    have c1 := ho2.cellAt k hlt
    have c2 := ho2.frozenAt k
    have HO2 := Lib.hid ho2; clear ho2
    have HBL2 := Lib.hid (below_go HBL.out hb (by omega)); clear hb
    clear qA1 qA2 qA3 qA4 qA5 qZ1 qZ2 qZ3 qZ4 qZ5 h1
    go_wp2
    go_roundw
    case rel =>
     have hst := HO2.out.store k (g x)
     have e1 : g x = (xs.map g).getD k 0 := by rw [HX.out]; simp [List.getD, show k < xs.length by rw [HL.out]; exact hlt]
     rw [e1, set_prefix (xs.map g) n k (by simpa using HL.out) hlt, ← e1] at hst
     exact ⟨k + 1, by omega, by go_num, by simpa using hst.1, by simpa using HBL2.out.setCell (p := ⟨w.heap.size + 1 + 1, k, none⟩) (Nat.le_refl _) _⟩
    case measure => simp [intOf]; omega
   ·have hkn : k = n := by omega
    have HK := Lib.hid hkn; clear hkn
    have hh := HL.out
    rw [HK.out, Nat.sub_self, List.replicate_zero, List.append_nil, List.take_of_length_le (by simp; omega)] at ho
    go_wp2
    obtain ⟨_, e2, e3, _, _⟩ := HZ.out.fill (.int .i64 t) (.slice (some ⟨w.heap.size + 1 + 1, 0, none⟩) n n)
    refine bodyPost_ret (v := .agg #[.int .i64 t, .slice (some ⟨w.heap.size + 1 + 1, 0, none⟩) n n]) (by simp [results, Try.results107, go_sem, e2, e3]) rfl ⟨_, n, n, rfl, ?_, ?_⟩
    ·exact ((ho.setCell_below (by simp) _).setCell_below (by simp) _).mono (by omega)
    ·exact (HB0.out.setCell (p := ⟨w.heap.size + 1, 0, none⟩) (by simp) _).setCell (p := ⟨w.heap.size + 1, 1, none⟩) (by simp) _

theorem set_back (xs : List Int) (n k : Nat) (hl : xs.length = n) (h : k < n) :
  (List.replicate (n - k) (0 : Int) ++ (xs.take k).reverse).set (n - 1 - k) (xs.getD k 0) = List.replicate (n - (k + 1)) (0 : Int) ++ (xs.take (k + 1)).reverse := by
 rw [take_snoc xs k (by omega), List.reverse_append, show n - k = (n - (k + 1)) + 1 by omega, List.replicate_succ', List.append_assoc, List.set_append, if_neg (by simp; omega), List.length_replicate,
  show n - 1 - k - (n - (k + 1)) = 0 by omega]
 rfl

set_option maxHeartbeats 1000000 in
theorem backwards_any (s : Int) (a : Option Addr) (n cap : Nat) (xs : List Int) (w : World) (hr : Reads w a n xs) (hn : n ≤ 1048576) :
  Calls Try.prog 106 #[.agg #[.int .i64 s, .slice a n cap]] w (MadeBraid w s xs.reverse) := by
 obtain ⟨i0, hi, hz0, hz1, hz2⟩ := info_parts infoInt
 have HL := Lib.hid hr.len
 have R := Lib.hid hr; clear hr
 rcases Nat.eq_zero_or_pos n with h0 | h0
 ·subst h0
  go_enter Try.func106, Try.ntmps106
  replace R := Lib.hid (R.out.alloc (.cells #[.int .i64 s, .slice a 0 cap] 29))
  have A := Lib.hid (At2.new w (.int .i64 s) (.slice a 0 cap) 29)
  have BB := Lib.hid (below1 w (.cells #[.int .i64 s, .slice a 0 cap] 29))
  replace R := Lib.hid (R.out.alloc (.cells #[.int .i64 0, .slice none 0 0] 29))
  replace A := Lib.hid (A.out.alloc (.cells #[.int .i64 0, .slice none 0 0] 29))
  have Z := Lib.hid (At2.place (w.alloc (.cells #[.int .i64 s, .slice a 0 cap] 29)) (.int .i64 0) (.slice none 0 0) 29 (w.heap.size + 1) (by simp))
  replace BB := Lib.hid (BB.out.alloc (by simp; try omega) (.cells #[.int .i64 0, .slice none 0 0] 29))
  go_wp2_with (at_make; refine wpList_make_full ((w.alloc (.cells #[.int .i64 s, .slice a 0 cap] 29)).alloc (.cells #[.int .i64 0, .slice none 0 0] 29)) rfl _ _ 22 rfl (w.heap.size + 1 + 1) 2 i0 (.int .i64 0) 1 Try.underlying22 hi hz0 hz1 .i64 .i64 _ _ 0 rfl rfl (by rfl) (by rfl) (by rw [hz2]; omega) (by unfold maxLen; omega) (by simp) ?_)
  intro w1 hown hgrow
  have hown1 := own_made hown
  have hb := Below.ofGrown hgrow
  clear hown hgrow
  replace R := Lib.hid (R.out.below hb)
  replace A := Lib.hid (A.out.below hb)
  replace Z := Lib.hid (Z.out.below hb)
  have z1 : w.heap.size + 2 ≤ w1.heap.size := by have := hb.size; simp at this; omega
  replace BB := Lib.hid (below_go BB.out hb (by simp; omega))
  clear hb
  obtain ⟨qA1, qA2, qA3, qA4, qA5⟩ := A.out
  obtain ⟨qZ1, qZ2, qZ3, qZ4, qZ5⟩ := Z.out
  have B3 : w.heap.size + 2 ≤ w1.heap.size := z1
  go_wp2
  refine wp_loop_rounds 1 ?_; rw [rounds_succ]
  go_wp2
  obtain ⟨_, e2, e3, _, _⟩ := Z.out.fill (.int .i64 s) (.slice (some ⟨w.heap.size + 1 + 1, 0, none⟩) 0 0)
  have hx : xs = [] := List.eq_nil_of_length_eq_zero HL.out
  rw [hx]
  refine bodyPost_ret (v := .agg #[.int .i64 s, .slice (some ⟨w.heap.size + 1 + 1, 0, none⟩) 0 0]) (by simp [results, Try.results106, go_sem, e2, e3]) rfl ⟨_, 0, 0, rfl, ?_, ?_⟩
  ·exact ((hown1.setCell_below (by simp) _).setCell_below (by simp) _).mono (by omega)
  ·exact (BB.out.setCell (p := ⟨w.heap.size + 1, 0, none⟩) (by simp) _).setCell (p := ⟨w.heap.size + 1, 1, none⟩) (by simp) _
 ·obtain ⟨b, off, rfl, hb0, hc⟩ := R.out.cells h0
  have HC := Lib.hid hc; clear hc
  go_enter Try.func106, Try.ntmps106
  replace R := Lib.hid (R.out.alloc (.cells #[.int .i64 s, .slice (some ⟨b, off, none⟩) n cap] 29))
  have A := Lib.hid (At2.new w (.int .i64 s) (.slice (some ⟨b, off, none⟩) n cap) 29)
  have BB := Lib.hid (below1 w (.cells #[.int .i64 s, .slice (some ⟨b, off, none⟩) n cap] 29))
  replace R := Lib.hid (R.out.alloc (.cells #[.int .i64 0, .slice none 0 0] 29))
  replace A := Lib.hid (A.out.alloc (.cells #[.int .i64 0, .slice none 0 0] 29))
  have Z := Lib.hid (At2.place (w.alloc (.cells #[.int .i64 s, .slice (some ⟨b, off, none⟩) n cap] 29)) (.int .i64 0) (.slice none 0 0) 29 (w.heap.size + 1) (by simp))
  replace BB := Lib.hid (BB.out.alloc (by simp; try omega) (.cells #[.int .i64 0, .slice none 0 0] 29))
  go_wp2_with (at_make; refine wpList_make_full ((w.alloc (.cells #[.int .i64 s, .slice (some ⟨b, off, none⟩) n cap] 29)).alloc (.cells #[.int .i64 0, .slice none 0 0] 29)) rfl _ _ 22 rfl (w.heap.size + 1 + 1) 2 i0 (.int .i64 0) 1 Try.underlying22 hi hz0 hz1 .i64 .i64 _ _ n rfl rfl (by omega) (by omega) (by rw [hz2]; omega) (by unfold maxLen; omega) (by simp) ?_)
  intro w1 hown hgrow
  have hown1 := own_made hown
  have hb := Below.ofGrown hgrow
  clear hown hgrow
  replace R := Lib.hid (R.out.below hb)
  replace A := Lib.hid (A.out.below hb)
  replace Z := Lib.hid (Z.out.below hb)
  have z1 : w.heap.size + 2 ≤ w1.heap.size := by have := hb.size; simp at this; omega
  replace BB := Lib.hid (below_go BB.out hb (by simp; omega))
  clear hb
  obtain ⟨qA1, qA2, qA3, qA4, qA5⟩ := A.out
  obtain ⟨qZ1, qZ2, qZ3, qZ4, qZ5⟩ := Z.out
  have B3 : w.heap.size + 2 ≤ w1.heap.size := z1
  go_wp2
  clear qA1 qA2 qA3 qA4 qA5 qZ1 qZ2 qZ3 qZ4 qZ5
  clear z1
  go_loopw [13] (fun i wr => ∃ k : Nat, k ≤ n ∧ i = .int .i64 k ∧ Own (w.heap.size + 1 + 1) wr (some ⟨w.heap.size + 1 + 1, 0, none⟩) n n (List.replicate (n - k) 0 ++ (xs.take k).reverse) ∧ Below (w.heap.size + 1 + 1) w1 wr) (fun i _ => n - (intOf i).toNat)
  case atStart => exact ⟨0, Nat.zero_le _, rfl, by simpa using hown1, Below.refl _ _⟩
  case round =>
   obtain ⟨k, hk, rfl, ho, hbl⟩ := hrel
   clear hown1
   have hA := A.out.heap hbl.size (hbl.block _ (by omega))
   have hZ := Z.out.heap hbl.size (hbl.block _ (by omega))
   have HB0 := Lib.hid (BB.out.trans (hbl.mono (by omega)))
   have HZ := Lib.hid hZ
   obtain ⟨qA1, qA2, qA3, qA4, qA5⟩ := hA
   obtain ⟨qZ1, qZ2, qZ3, qZ4, qZ5⟩ := hZ
   by_cases hlt : k < n
   ·obtain ⟨x, hx⟩ : ∃ x, x = xs.getD k 0 := ⟨_, rfl⟩
    have h1 : wr.cell? ⟨b, off + k, none⟩ = some (.int .i64 x) := by rw [hx]; exact (HB0.out.cell (by exact hb0)).trans (HC.out k hlt)
    have HX := Lib.hid hx; clear hx
    have c1 := ho.cellAt (n - 1 - k) (by omega)
    have c2 := ho.frozenAt (n - 1 - k)
    obtain ⟨y, hy⟩ : ∃ y, y = (List.replicate (n - k) (0 : Int) ++ (xs.take k).reverse).getD (n - 1 - k) 0 := ⟨_, rfl⟩
    rw [← hy] at c1; clear hy
    have HO := Lib.hid ho; clear ho
    have HBL := Lib.hid hbl; clear hbl
    go_wp2
    go_roundw
    case rel =>
     have hst := HO.out.store (n - 1 - k) x
     rw [HX.out, set_back xs n k HL.out hlt, ← HX.out] at hst
     exact ⟨k + 1, by omega, by go_num, hst.1, HBL.out.setCell (p := ⟨w.heap.size + 1 + 1, n - 1 - k, none⟩) (Nat.le_refl _) _⟩
    case measure => simp [intOf]; omega
   ·have hkn : k = n := by omega
    have HK := Lib.hid hkn; clear hkn
    have hh := HL.out
    rw [HK.out, Nat.sub_self, List.replicate_zero, List.nil_append, List.take_of_length_le (by omega)] at ho
    go_wp2
    obtain ⟨_, e2, e3, _, _⟩ := HZ.out.fill (.int .i64 s) (.slice (some ⟨w.heap.size + 1 + 1, 0, none⟩) n n)
    refine bodyPost_ret (v := .agg #[.int .i64 s, .slice (some ⟨w.heap.size + 1 + 1, 0, none⟩) n n]) (by simp [results, Try.results106, go_sem, e2, e3]) rfl ⟨_, n, n, rfl, ?_, ?_⟩
    ·exact ((ho.setCell_below (by simp) _).setCell_below (by simp) _).mono (by omega)
    ·exact (HB0.out.setCell (p := ⟨w.heap.size + 1, 0, none⟩) (by simp) _).setCell (p := ⟨w.heap.size + 1, 1, none⟩) (by simp) _

theorem enter_inverse (args : Array Value) (W : World) : Sem.run Try.prog (callFunc 108 args) W = .ok (.enter 108 args) W := by
 kernel_rfl

end Go.Proofs.Ytehcbamfendbaaa

/- The program's powers of words (with few imports). -/
namespace Go.Proofs.Ytehcbamfendbaaa
open Go.RowKit Go.ChangeShapes

set_option maxHeartbeats 1000000 in
theorem inverted_any (s : Int) (a : Option Addr) (n cap : Nat) (xs : List Int) (w : World) (hr : Reads w a n xs) (hsm : Small xs) (hn : n ≤ 1048576) :
  Calls Try.prog 73 #[.agg #[.int .i64 s, .slice a n cap]] w (MadeBraid w s (inverse xs)) := by
 have R := Lib.hid hr; clear hr
 have HSM := Lib.hid hsm; clear hsm
 go_enter Try.func73, Try.ntmps73
 replace R := Lib.hid ((R.out.alloc (.cells #[.int .i64 s, .slice a n cap] 29)).alloc (.cells #[.int .i64 0, .slice none 0 0] 29))
 have A := Lib.hid ((At2.new w (.int .i64 s) (.slice a n cap) 29).alloc (.cells #[.int .i64 0, .slice none 0 0] 29))
 have Z := Lib.hid (At2.place (w.alloc (.cells #[.int .i64 s, .slice a n cap] 29)) (.int .i64 0) (.slice none 0 0) 29 (w.heap.size + 1) (by simp))
 have BB := Lib.hid (below2 w (.cells #[.int .i64 s, .slice a n cap] 29) (.cells #[.int .i64 0, .slice none 0 0] 29))
 obtain ⟨qA1, qA2, qA3, qA4, qA5⟩ := A.out
 go_wp2_with fail
 refine (changed_any 108 #[] (fun x => -x) _ _ _ _ _ _ _ R.out HSM.out hn enter_inverse (fun x W _ h1 h2 => (inverse_any x W h1 h2).mono fun _ _ ⟨he, hw⟩ => ⟨he, hw ▸ Below.refl _ _⟩)).mono ?_
 rintro e w2 ⟨a2, n2, c2, rfl, ho, hb⟩
 clear qA1 qA2 qA3 qA4 qA5
 have O2 := Lib.hid ho; clear ho
 have hl2 : n2 ≤ 1048576 := by have := O2.out.len; have := R.out.len; simp at *; omega
 replace A := Lib.hid (A.out.below hb)
 replace Z := Lib.hid (Z.out.below hb)
 replace BB := Lib.hid (below_go BB.out hb BB.out.size)
 clear hb
 have zz := Z.out.1
 go_wp2_with fail
 refine (backwards_any _ _ _ _ _ _ O2.out.reads hl2).mono ?_
 rintro e w3 ⟨a3, n3, c3, rfl, ho, hb⟩
 have O3 : Hid (Own (w.heap.size + 1 + 1) w3 a3 n3 c3 (xs.map fun x => -x).reverse) := Lib.hid (ho.mono (by omega)); clear ho
 replace Z := Lib.hid (Z.out.below hb)
 replace BB := Lib.hid (below_go BB.out hb BB.out.size)
 clear hb
 obtain ⟨qZ1, qZ2, qZ3, qZ4, qZ5⟩ := Z.out
 go_wp2
 obtain ⟨_, e2, e3, _, _⟩ := Z.out.fill (.int .i64 s) (.slice a3 n3 c3)
 refine bodyPost_ret (v := .agg #[.int .i64 s, .slice a3 n3 c3]) (by simp [results, Try.results73, go_sem, e2, e3]) rfl ⟨a3, n3, c3, rfl, ?_, ?_⟩
 ·exact ((O3.out.setCell_below (by simp) _).setCell_below (by simp) _).mono (by omega)
 ·exact (BB.out.setCell (p := ⟨w.heap.size + 1, 0, none⟩) (by simp) _).setCell (p := ⟨w.heap.size + 1, 1, none⟩) (by simp) _

end Go.Proofs.Ytehcbamfendbaaa
