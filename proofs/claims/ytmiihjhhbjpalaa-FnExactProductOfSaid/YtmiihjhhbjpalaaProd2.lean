/- The products of braids: the model's answer and the program's. -/
import Derived.Test.YtmiihjhhbjpalaaRep
import Derived.Test.YtmiihjhhbjpalaaKit6
import Derived.Deep.RegionHeld3
namespace Go.Proofs.Ytmiihjhhbjpalaa
open Go.RowKit Go.ChangeShapes

/-- The product of two braids, and the code. -/
def mProduct (s : Int) (xs : List Int) (t : Int) (ys : List Int) : Int × List Int × Int :=
  if isBraid s xs = true ∧ isBraid t ys = true then (if s = t then (if xs.length + ys.length ≤ 200 then (s, xs ++ ys, 0) else (0, [], 3)) else (0, [], 2)) else (0, [], 1)

theorem At2.setCell2 {w : World} {g z : Nat} {u v : Value} (h : At2 w g u v) (hz : z ≠ g) (x y : Value) : At2 ((w.setCell ⟨z, 0, none⟩ x).setCell ⟨z, 1, none⟩ y) g u v :=
  (h.setCell (p := ⟨z, 0, none⟩) hz x).setCell (p := ⟨z, 1, none⟩) hz y

/-- A block of structs is no row of numbers: a store into it leaves a slice of numbers as it is. -/
theorem OwnV.setCell_other {B : Nat} {w : World} {v : Value} {n : Nat} {xs : List Int} (h : OwnV B w v n xs) {p : Addr} {cs : Array Value} (hp : w.heap[p.block]? = some (.cells cs 27)) (u : Value) : OwnV B (w.setCell p u) v n xs := by
  refine ownsRow_setCell_other h ?_ u
  rcases h.2 with ⟨hv, _⟩ | ⟨g, cap, cur, hv, hg, hh, r⟩
  · rw [hv]
    intro e
    cases e
  · rw [hv]
    intro e
    simp only [Value.ownBlock, Option.some.injEq] at e
    rw [e, hp] at hh
    simp at hh

/-- An append to a slice that lies below k leaves the block k as it is. -/
theorem Own.far {B : Nat} {w : World} {a : Option Addr} {n c k : Nat} {xs : List Int} (h : Own B w a n c xs) (hk : w.heap.size ≤ k) : some k ≠ (Value.slice a n c).ownBlock := by
  cases a with
  | none => intro e; cases e
  | some x =>
    intro e
    simp only [Value.ownBlock, Option.some.injEq] at e
    have := (h.lo x rfl).2
    omega

theorem wp_append_ints {P : Program} {w : World} {o : Oper} {a : Act} {K : Act → World → Prop} {Q : Exit → Act → World → Prop} (s x : Operand) (t : TypeId)
    (ho : o.op = .call { callee := .builtin .append, args := #[s, x], argTypes := #[t, t] })
    (base : Nat) (i : TypeInfo) (ht : P.underlying t = some (.slice 2)) (hi : P.info? 2 = some i) (hz : i.zero = some (.int .i64 0)) (hsize : i.size = 1) (hby : i.bytes = 8)
    (v : Value) (n : Nat) (xs : List Int) (hs : a.eval s = v) (hown : OwnV base w v n xs)
    (ao : Option Addr) (m c : Nat) (ys : List Int) (hx : a.eval x = .slice ao m c) (hr : Reads w ao m ys)
    (hlen : n + m ≤ 4294967296) (hbase : base ≤ w.heap.size)
    (h : ∀ v' w', OwnV base w' v' (n + m) (xs ++ ys) → w.grownBy w' v.ownBlock → K (a.put o.dst v') w') : o.wp P a w K Q := by
  cases ao with
  | some ad =>
    have hl : (ints ys).length = m * 1 := by simp [ints, hr.len]
    refine wp_append_own w s x t ho base 2 i (.int .i64 0) 1 8 ht hi hz hsize hby rfl (by decide) v n (ints xs) hs hown ad m c (ints ys) hx hl hr.news (ints_cells ys) (by unfold maxLen; omega) (by omega) hbase ?_
    intro v' w' h1 h2 _
    refine h v' w' ?_ h2
    unfold OwnV ints at *
    rw [List.map_append]
    exact h1
  | none =>
    have hm : m = 0 := by
      rcases hr.2 with h0 | ⟨b, off, ha, _⟩
      · exact h0
      · cases ha
    subst hm
    have hy : ys = [] := List.eq_nil_of_length_eq_zero hr.len
    subst hy
    have hrun := run_append_none (P := P) (w := w) base t o.type 2 i 1 ht hi v n c (ints xs) hown
    unfold Oper.wp
    simp [execOp, ho, resolve, invoke, builtin, hs, hx, hrun, Result.andThen]
    exact h v w (by simpa using hown) (World.grownBy.refl _ _)

theorem step_append_ints {P : Program} {w : World} {ops : Array Oper} {o : Oper} {a : Act} {K : Act → World → Prop} {Q : Exit → Act → World → Prop} {E : Prop} (hgd : o.guard = none) (s x : Operand) (t : TypeId)
    (ho : o.op = .call { callee := .builtin .append, args := #[s, x], argTypes := #[t, t] })
    (base : Nat) (i : TypeInfo) (ht : P.underlying t = some (.slice 2)) (hi : P.info? 2 = some i) (hz : i.zero = some (.int .i64 0)) (hsize : i.size = 1) (hby : i.bytes = 8)
    (v : Value) (n : Nat) (xs : List Int) (hs : a.eval s = v) (hown : OwnV base w v n xs)
    (ao : Option Addr) (m c : Nat) (ys : List Int) (hx : a.eval x = .slice ao m c) (hr : Reads w ao m ys)
    (hlen : n + m ≤ 4294967296) (hbase : base ≤ w.heap.size)
    (h : ∀ av cv w', Own base w' av (n + m) cv (xs ++ ys) → w.grownBy w' v.ownBlock → K (a.put o.dst (.slice av (n + m) cv)) w') :
    if Region.wanted o (yielded ops a.tmps) = true then Oper.wp P o a w K Q else E := by
  have hw : Region.wanted o (yielded ops a.tmps) = true := by simp [Region.wanted, hgd]
  rw [if_pos hw]
  refine wp_append_ints s x t ho base i ht hi hz hsize hby v n xs hs hown ao m c ys hx hr hlen hbase ?_
  intro v' w' h1 h2
  obtain ⟨av, cv, rfl, h3⟩ := h1.form
  exact h av cv w' h3 h2

set_option maxHeartbeats 2000000 in
theorem specProduct_any {s : Int} {a : Option Addr} {n cap : Nat} {xs : List Int} {t : Int} {b : Option Addr} {m cap2 : Nat} {ys : List Int} {w : World} {fs : Int} {fxs : List Int} {fc : Int} (hr : Reads w a n xs) (hf : Fits xs) (hn : n ≤ 1048576) (hr2 : Reads w b m ys) (hf2 : Fits ys) (hn2 : m ≤ 1048576) (hM : mProduct s xs t ys = (fs, fxs, fc)) :
    Calls Try.prog 32 #[.agg #[.int .i64 s, .slice a n cap], .agg #[.int .i64 t, .slice b m cap2]] w (RetBraid w fs fxs fc) := by
  obtain ⟨i0, hi, hz0, hz1, hz2⟩ := info_parts infoInt
  have HRO := Lib.hid hr.old
  have HSO := Lib.hid hr2.old
  have R := Lib.hid hr; clear hr
  have Q := Lib.hid hr2; clear hr2
  have HF := Lib.hid hf; clear hf
  have HG := Lib.hid hf2; clear hf2
  have HL := Lib.hid R.out.len
  have HM2 := Lib.hid Q.out.len
  by_cases hbr : isBraid s xs = true
  · by_cases hbr2 : isBraid t ys = true
    · have hn200 : n ≤ 200 := by have := HL.out; have := len_of_isBraid _ _ hbr; omega
      have hm200 : m ≤ 200 := by have := HM2.out; have := len_of_isBraid _ _ hbr2; omega
      simp only [mProduct, if_pos (show isBraid s xs = true ∧ isBraid t ys = true from ⟨hbr, hbr2⟩)] at hM
      by_cases hst : s = t
      · rw [if_pos hst, HL.out, HM2.out] at hM
        have t1 : (s != t) = false := by simp [hst]
        have HST := Lib.hid hst; clear hst
        by_cases hlen : n + m ≤ 200
        · simp only [if_pos hlen, Prod.mk.injEq] at hM
          obtain ⟨rfl, rfl, rfl⟩ := hM
          go_enter Try.func32, Try.ntmps32
          replace R := Lib.hid (R.out.alloc (.cells #[.int .i64 s, .slice a n cap] 27))
          replace Q := Lib.hid (Q.out.alloc (.cells #[.int .i64 s, .slice a n cap] 27))
          have A := Lib.hid (At2.new w (.int .i64 s) (.slice a n cap) 27)
          have BB := Lib.hid (below1 w (.cells #[.int .i64 s, .slice a n cap] 27))
          replace R := Lib.hid (R.out.alloc (.cells #[.int .i64 t, .slice b m cap2] 27))
          replace Q := Lib.hid (Q.out.alloc (.cells #[.int .i64 t, .slice b m cap2] 27))
          replace A := Lib.hid (A.out.alloc (.cells #[.int .i64 t, .slice b m cap2] 27))
          have C := Lib.hid (At2.place (w.alloc (.cells #[.int .i64 s, .slice a n cap] 27)) (.int .i64 t) (.slice b m cap2) 27 (w.heap.size + 1) (by simp))
          replace BB := Lib.hid (BB.out.alloc (by first | omega | (simp; done) | (simp; omega)) (.cells #[.int .i64 t, .slice b m cap2] 27))
          replace R := Lib.hid (R.out.alloc (.cells #[.int .i64 0, .slice none 0 0] 27))
          replace Q := Lib.hid (Q.out.alloc (.cells #[.int .i64 0, .slice none 0 0] 27))
          replace A := Lib.hid (A.out.alloc (.cells #[.int .i64 0, .slice none 0 0] 27))
          replace C := Lib.hid (C.out.alloc (.cells #[.int .i64 0, .slice none 0 0] 27))
          have Z := Lib.hid (At2.place ((w.alloc (.cells #[.int .i64 s, .slice a n cap] 27)).alloc (.cells #[.int .i64 t, .slice b m cap2] 27)) (.int .i64 0) (.slice none 0 0) 27 (w.heap.size + 1 + 1) (by simp))
          replace BB := Lib.hid (BB.out.alloc (by first | omega | (simp; done) | (simp; omega)) (.cells #[.int .i64 0, .slice none 0 0] 27))
          go_wp2_with fail
          refine (l01Is_any _ _ _ _ xs _ R.out HF.out hn).mono ?_
          rintro e w1 ⟨rfl, hb⟩
          replace R := Lib.hid (R.out.below hb)
          replace Q := Lib.hid (Q.out.below hb)
          replace A := Lib.hid (A.out.below hb)
          replace C := Lib.hid (C.out.below hb)
          replace Z := Lib.hid (Z.out.below hb)
          have z1 : w.heap.size + 3 ≤ w1.heap.size := by have := hb.size; simp at this; omega
          replace BB := Lib.hid (below_go BB.out hb (by first | omega | (simp; done) | (simp; omega)))
          clear hb
          obtain ⟨qA1, qA2, qA3, qA4, qA5⟩ := A.out
          obtain ⟨qC1, qC2, qC3, qC4, qC5⟩ := C.out
          obtain ⟨qZ1, qZ2, qZ3, qZ4, qZ5⟩ := Z.out
          go_wp2_with fail
          refine (l01Is_any _ _ _ _ ys _ Q.out HG.out hn2).mono ?_
          rintro e w2 ⟨rfl, hb⟩
          clear qA1 qA2 qA3 qA4 qA5 qC1 qC2 qC3 qC4 qC5 qZ1 qZ2 qZ3 qZ4 qZ5
          replace R := Lib.hid (R.out.below hb)
          replace Q := Lib.hid (Q.out.below hb)
          replace A := Lib.hid (A.out.below hb)
          replace C := Lib.hid (C.out.below hb)
          replace Z := Lib.hid (Z.out.below hb)
          have z2 : w1.heap.size ≤ w2.heap.size := hb.size
          replace BB := Lib.hid (below_go BB.out hb (by omega))
          clear hb
          obtain ⟨qA1, qA2, qA3, qA4, qA5⟩ := A.out
          obtain ⟨qC1, qC2, qC3, qC4, qC5⟩ := C.out
          obtain ⟨qZ1, qZ2, qZ3, qZ4, qZ5⟩ := Z.out
          have hzl : w.heap.size + 3 ≤ w2.heap.size := by omega
          have hzQ : Hid (ReadsIn 0 w.heap.size w2 b m ys) := Lib.hid ⟨Q.out, HSO.out.2⟩
          go_wp2
          go_region_held3 (fun w' => w'.cell? ⟨w.heap.size, 0, none⟩ = some (.int .i64 s) ∧ w'.cell? ⟨w.heap.size, 1, none⟩ = some (.slice a n cap) ∧ w'.cell? ⟨w.heap.size + 1, 0, none⟩ = some (.int .i64 t) ∧ w'.cell? ⟨w.heap.size + 1, 1, none⟩ = some (.slice b m cap2)) (first | exact ⟨qA2, qA3, qC2, qC3⟩ | exact ⟨rA2, rA3, rC2, rC3⟩ | exact ⟨uA2, uA3, uC2, uC3⟩ | exact ⟨(hA4.setCell2 (by omega) _ _).2.1, (hA4.setCell2 (by omega) _ _).2.2.1, (hC4.setCell2 (by omega) _ _).2.1, (hC4.setCell2 (by omega) _ _).2.2.1⟩ | go_keep)
            (first
              | (go_at_call 65; refine (l01Own_any _ _ _ _ _ R.out.drew hn).mono ?_; rintro e w3 ⟨a3, c3, rfl, ho, hb⟩; obtain ⟨rA1, rA2, rA3, rA4, rA5⟩ := A.out.drew.below hb; obtain ⟨rC1, rC2, rC3, rC4, rC5⟩ := C.out.drew.below hb; obtain ⟨rZ1, rZ2, rZ3, rZ4, rZ5⟩ := Z.out.drew.below hb)
              | (refine step_append_ints rfl _ _ 22 rfl w2.heap.size i0 Try.underlying22 hi hz0 hz1 hz2 _ _ _ rfl (show OwnV w2.heap.size w3 _ n xs from ho) _ _ _ ys rfl (Q.out.drew.below hb) (by omega) (by exact hb.size) ?_; intro a4 c4 w4 ho4 hg4; have hb4 := below_appended2 (Below.refl w2.heap.size w3) (by exact hb.size) (show OwnV w2.heap.size w3 _ n xs from ho) hg4; have hA4 := (A.out.drew.below hb).heap hb4.size (hb4.block _ (by omega)); have hC4 := (C.out.drew.below hb).heap hb4.size (hb4.block _ (by omega)); obtain ⟨uA1, uA2, uA3, uA4, uA5⟩ := hA4; obtain ⟨uC1, uC2, uC3, uC4, uC5⟩ := hC4; have hA4 := (A.out.drew.below hb).heap hb4.size (hb4.block _ (by omega)); have hC4 := (C.out.drew.below hb).heap hb4.size (hb4.block _ (by omega)); obtain ⟨uZ1, uZ2, uZ3, uZ4, uZ5⟩ := (Z.out.drew.below hb).heap hb4.size (hb4.block _ (by omega))))
          go_wp2
          have HZ4 := (Z.out.drew.below hb).heap hb4.size (hb4.block _ (by omega))
          have HB4 := (below_go BB.out.drew hb (by show _ ≤ w2.heap.size; omega)).trans (hb4.mono (by omega))
          obtain ⟨_, e2, e3, _, _⟩ := HZ4.fill (.int .i64 s) (.slice a4 (n + m) c4)
          refine bodyPost_ret (v := .tuple #[.agg #[.int .i64 s, .slice a4 (n + m) c4], .int .i64 0]) (by simp [results, Try.results32, go_sem, e2, e3]) rfl ⟨a4, n + m, c4, rfl, by omega, ?_, ?_⟩
          · exact ((ho4.setCell_below (by simp; omega) _).setCell_below (by simp; omega) _).mono (by omega)
          · exact (HB4.setCell (p := ⟨w.heap.size + 1 + 1, 0, none⟩) (by simp; omega) _).setCell (p := ⟨w.heap.size + 1 + 1, 1, none⟩) (by simp; omega) _
        · simp only [if_neg hlen, Prod.mk.injEq] at hM
          obtain ⟨rfl, rfl, rfl⟩ := hM
          go_enter Try.func32, Try.ntmps32
          replace R := Lib.hid (R.out.alloc (.cells #[.int .i64 s, .slice a n cap] 27))
          replace Q := Lib.hid (Q.out.alloc (.cells #[.int .i64 s, .slice a n cap] 27))
          have A := Lib.hid (At2.new w (.int .i64 s) (.slice a n cap) 27)
          have BB := Lib.hid (below1 w (.cells #[.int .i64 s, .slice a n cap] 27))
          replace R := Lib.hid (R.out.alloc (.cells #[.int .i64 t, .slice b m cap2] 27))
          replace Q := Lib.hid (Q.out.alloc (.cells #[.int .i64 t, .slice b m cap2] 27))
          replace A := Lib.hid (A.out.alloc (.cells #[.int .i64 t, .slice b m cap2] 27))
          have C := Lib.hid (At2.place (w.alloc (.cells #[.int .i64 s, .slice a n cap] 27)) (.int .i64 t) (.slice b m cap2) 27 (w.heap.size + 1) (by simp))
          replace BB := Lib.hid (BB.out.alloc (by first | omega | (simp; done) | (simp; omega)) (.cells #[.int .i64 t, .slice b m cap2] 27))
          replace R := Lib.hid (R.out.alloc (.cells #[.int .i64 0, .slice none 0 0] 27))
          replace Q := Lib.hid (Q.out.alloc (.cells #[.int .i64 0, .slice none 0 0] 27))
          replace A := Lib.hid (A.out.alloc (.cells #[.int .i64 0, .slice none 0 0] 27))
          replace C := Lib.hid (C.out.alloc (.cells #[.int .i64 0, .slice none 0 0] 27))
          have Z := Lib.hid (At2.place ((w.alloc (.cells #[.int .i64 s, .slice a n cap] 27)).alloc (.cells #[.int .i64 t, .slice b m cap2] 27)) (.int .i64 0) (.slice none 0 0) 27 (w.heap.size + 1 + 1) (by simp))
          replace BB := Lib.hid (BB.out.alloc (by first | omega | (simp; done) | (simp; omega)) (.cells #[.int .i64 0, .slice none 0 0] 27))
          go_wp2_with fail
          refine (l01Is_any _ _ _ _ xs _ R.out HF.out hn).mono ?_
          rintro e w1 ⟨rfl, hb⟩
          replace R := Lib.hid (R.out.below hb)
          replace Q := Lib.hid (Q.out.below hb)
          replace A := Lib.hid (A.out.below hb)
          replace C := Lib.hid (C.out.below hb)
          replace Z := Lib.hid (Z.out.below hb)
          have z1 : w.heap.size + 3 ≤ w1.heap.size := by have := hb.size; simp at this; omega
          replace BB := Lib.hid (below_go BB.out hb (by first | omega | (simp; done) | (simp; omega)))
          clear hb
          obtain ⟨qA1, qA2, qA3, qA4, qA5⟩ := A.out
          obtain ⟨qC1, qC2, qC3, qC4, qC5⟩ := C.out
          obtain ⟨qZ1, qZ2, qZ3, qZ4, qZ5⟩ := Z.out
          go_wp2_with fail
          refine (l01Is_any _ _ _ _ ys _ Q.out HG.out hn2).mono ?_
          rintro e w2 ⟨rfl, hb⟩
          clear qA1 qA2 qA3 qA4 qA5 qC1 qC2 qC3 qC4 qC5 qZ1 qZ2 qZ3 qZ4 qZ5
          replace R := Lib.hid (R.out.below hb)
          replace Q := Lib.hid (Q.out.below hb)
          replace A := Lib.hid (A.out.below hb)
          replace C := Lib.hid (C.out.below hb)
          replace Z := Lib.hid (Z.out.below hb)
          have z2 : w1.heap.size ≤ w2.heap.size := hb.size
          replace BB := Lib.hid (below_go BB.out hb (by omega))
          clear hb
          obtain ⟨qA1, qA2, qA3, qA4, qA5⟩ := A.out
          obtain ⟨qC1, qC2, qC3, qC4, qC5⟩ := C.out
          obtain ⟨qZ1, qZ2, qZ3, qZ4, qZ5⟩ := Z.out
          go_wp2
          obtain ⟨_, e2, e3, _, _⟩ := Z.out.fill (.int .i64 0) (.slice none 0 0)
          refine bodyPost_ret (v := .tuple #[.agg #[.int .i64 0, .slice none 0 0], .int .i64 3]) (by simp [results, Try.results32, go_sem, e2, e3]) rfl ⟨none, 0, 0, rfl, Nat.zero_le _, Own.nil _ _, ?_⟩
          exact (BB.out.setCell (p := ⟨w.heap.size + 1 + 1, 0, none⟩) (by simp; omega) _).setCell (p := ⟨w.heap.size + 1 + 1, 1, none⟩) (by simp; omega) _
      · simp only [if_neg hst, Prod.mk.injEq] at hM
        obtain ⟨rfl, rfl, rfl⟩ := hM
        have t1 : (s != t) = true := by simp [hst]
        have HST := Lib.hid hst; clear hst
        go_enter Try.func32, Try.ntmps32
        replace R := Lib.hid (R.out.alloc (.cells #[.int .i64 s, .slice a n cap] 27))
        replace Q := Lib.hid (Q.out.alloc (.cells #[.int .i64 s, .slice a n cap] 27))
        have A := Lib.hid (At2.new w (.int .i64 s) (.slice a n cap) 27)
        have BB := Lib.hid (below1 w (.cells #[.int .i64 s, .slice a n cap] 27))
        replace R := Lib.hid (R.out.alloc (.cells #[.int .i64 t, .slice b m cap2] 27))
        replace Q := Lib.hid (Q.out.alloc (.cells #[.int .i64 t, .slice b m cap2] 27))
        replace A := Lib.hid (A.out.alloc (.cells #[.int .i64 t, .slice b m cap2] 27))
        have C := Lib.hid (At2.place (w.alloc (.cells #[.int .i64 s, .slice a n cap] 27)) (.int .i64 t) (.slice b m cap2) 27 (w.heap.size + 1) (by simp))
        replace BB := Lib.hid (BB.out.alloc (by first | omega | (simp; done) | (simp; omega)) (.cells #[.int .i64 t, .slice b m cap2] 27))
        replace R := Lib.hid (R.out.alloc (.cells #[.int .i64 0, .slice none 0 0] 27))
        replace Q := Lib.hid (Q.out.alloc (.cells #[.int .i64 0, .slice none 0 0] 27))
        replace A := Lib.hid (A.out.alloc (.cells #[.int .i64 0, .slice none 0 0] 27))
        replace C := Lib.hid (C.out.alloc (.cells #[.int .i64 0, .slice none 0 0] 27))
        have Z := Lib.hid (At2.place ((w.alloc (.cells #[.int .i64 s, .slice a n cap] 27)).alloc (.cells #[.int .i64 t, .slice b m cap2] 27)) (.int .i64 0) (.slice none 0 0) 27 (w.heap.size + 1 + 1) (by simp))
        replace BB := Lib.hid (BB.out.alloc (by first | omega | (simp; done) | (simp; omega)) (.cells #[.int .i64 0, .slice none 0 0] 27))
        go_wp2_with fail
        refine (l01Is_any _ _ _ _ xs _ R.out HF.out hn).mono ?_
        rintro e w1 ⟨rfl, hb⟩
        replace R := Lib.hid (R.out.below hb)
        replace Q := Lib.hid (Q.out.below hb)
        replace A := Lib.hid (A.out.below hb)
        replace C := Lib.hid (C.out.below hb)
        replace Z := Lib.hid (Z.out.below hb)
        have z1 : w.heap.size + 3 ≤ w1.heap.size := by have := hb.size; simp at this; omega
        replace BB := Lib.hid (below_go BB.out hb (by first | omega | (simp; done) | (simp; omega)))
        clear hb
        obtain ⟨qA1, qA2, qA3, qA4, qA5⟩ := A.out
        obtain ⟨qC1, qC2, qC3, qC4, qC5⟩ := C.out
        obtain ⟨qZ1, qZ2, qZ3, qZ4, qZ5⟩ := Z.out
        go_wp2_with fail
        refine (l01Is_any _ _ _ _ ys _ Q.out HG.out hn2).mono ?_
        rintro e w2 ⟨rfl, hb⟩
        clear qA1 qA2 qA3 qA4 qA5 qC1 qC2 qC3 qC4 qC5 qZ1 qZ2 qZ3 qZ4 qZ5
        replace R := Lib.hid (R.out.below hb)
        replace Q := Lib.hid (Q.out.below hb)
        replace A := Lib.hid (A.out.below hb)
        replace C := Lib.hid (C.out.below hb)
        replace Z := Lib.hid (Z.out.below hb)
        have z2 : w1.heap.size ≤ w2.heap.size := hb.size
        replace BB := Lib.hid (below_go BB.out hb (by omega))
        clear hb
        obtain ⟨qA1, qA2, qA3, qA4, qA5⟩ := A.out
        obtain ⟨qC1, qC2, qC3, qC4, qC5⟩ := C.out
        obtain ⟨qZ1, qZ2, qZ3, qZ4, qZ5⟩ := Z.out
        go_wp2
        obtain ⟨_, e2, e3, _, _⟩ := Z.out.fill (.int .i64 0) (.slice none 0 0)
        refine bodyPost_ret (v := .tuple #[.agg #[.int .i64 0, .slice none 0 0], .int .i64 2]) (by simp [results, Try.results32, go_sem, e2, e3]) rfl ⟨none, 0, 0, rfl, Nat.zero_le _, Own.nil _ _, ?_⟩
        exact (BB.out.setCell (p := ⟨w.heap.size + 1 + 1, 0, none⟩) (by simp; omega) _).setCell (p := ⟨w.heap.size + 1 + 1, 1, none⟩) (by simp; omega) _
    · have hb0 : isBraid t ys = false := by simpa using hbr2
      simp only [mProduct, if_neg (show ¬ (isBraid s xs = true ∧ isBraid t ys = true) from fun h => hbr2 h.2), Prod.mk.injEq] at hM
      obtain ⟨rfl, rfl, rfl⟩ := hM
      clear hbr2
      go_enter Try.func32, Try.ntmps32
      replace R := Lib.hid (R.out.alloc (.cells #[.int .i64 s, .slice a n cap] 27))
      replace Q := Lib.hid (Q.out.alloc (.cells #[.int .i64 s, .slice a n cap] 27))
      have A := Lib.hid (At2.new w (.int .i64 s) (.slice a n cap) 27)
      have BB := Lib.hid (below1 w (.cells #[.int .i64 s, .slice a n cap] 27))
      replace R := Lib.hid (R.out.alloc (.cells #[.int .i64 t, .slice b m cap2] 27))
      replace Q := Lib.hid (Q.out.alloc (.cells #[.int .i64 t, .slice b m cap2] 27))
      replace A := Lib.hid (A.out.alloc (.cells #[.int .i64 t, .slice b m cap2] 27))
      have C := Lib.hid (At2.place (w.alloc (.cells #[.int .i64 s, .slice a n cap] 27)) (.int .i64 t) (.slice b m cap2) 27 (w.heap.size + 1) (by simp))
      replace BB := Lib.hid (BB.out.alloc (by first | omega | (simp; done) | (simp; omega)) (.cells #[.int .i64 t, .slice b m cap2] 27))
      replace R := Lib.hid (R.out.alloc (.cells #[.int .i64 0, .slice none 0 0] 27))
      replace Q := Lib.hid (Q.out.alloc (.cells #[.int .i64 0, .slice none 0 0] 27))
      replace A := Lib.hid (A.out.alloc (.cells #[.int .i64 0, .slice none 0 0] 27))
      replace C := Lib.hid (C.out.alloc (.cells #[.int .i64 0, .slice none 0 0] 27))
      have Z := Lib.hid (At2.place ((w.alloc (.cells #[.int .i64 s, .slice a n cap] 27)).alloc (.cells #[.int .i64 t, .slice b m cap2] 27)) (.int .i64 0) (.slice none 0 0) 27 (w.heap.size + 1 + 1) (by simp))
      replace BB := Lib.hid (BB.out.alloc (by first | omega | (simp; done) | (simp; omega)) (.cells #[.int .i64 0, .slice none 0 0] 27))
      go_wp2_with fail
      refine (l01Is_any _ _ _ _ xs _ R.out HF.out hn).mono ?_
      rintro e w1 ⟨rfl, hb⟩
      replace R := Lib.hid (R.out.below hb)
      replace Q := Lib.hid (Q.out.below hb)
      replace A := Lib.hid (A.out.below hb)
      replace C := Lib.hid (C.out.below hb)
      replace Z := Lib.hid (Z.out.below hb)
      have z1 : w.heap.size + 3 ≤ w1.heap.size := by have := hb.size; simp at this; omega
      replace BB := Lib.hid (below_go BB.out hb (by first | omega | (simp; done) | (simp; omega)))
      clear hb
      obtain ⟨qA1, qA2, qA3, qA4, qA5⟩ := A.out
      obtain ⟨qC1, qC2, qC3, qC4, qC5⟩ := C.out
      obtain ⟨qZ1, qZ2, qZ3, qZ4, qZ5⟩ := Z.out
      go_wp2_with fail
      refine (l01Is_any _ _ _ _ ys _ Q.out HG.out hn2).mono ?_
      rintro e w2 ⟨rfl, hb⟩
      clear qA1 qA2 qA3 qA4 qA5 qC1 qC2 qC3 qC4 qC5 qZ1 qZ2 qZ3 qZ4 qZ5
      replace R := Lib.hid (R.out.below hb)
      replace Q := Lib.hid (Q.out.below hb)
      replace A := Lib.hid (A.out.below hb)
      replace C := Lib.hid (C.out.below hb)
      replace Z := Lib.hid (Z.out.below hb)
      have z2 : w1.heap.size ≤ w2.heap.size := hb.size
      replace BB := Lib.hid (below_go BB.out hb (by omega))
      clear hb
      obtain ⟨qA1, qA2, qA3, qA4, qA5⟩ := A.out
      obtain ⟨qC1, qC2, qC3, qC4, qC5⟩ := C.out
      obtain ⟨qZ1, qZ2, qZ3, qZ4, qZ5⟩ := Z.out
      go_wp2
      obtain ⟨_, e2, e3, _, _⟩ := Z.out.fill (.int .i64 0) (.slice none 0 0)
      refine bodyPost_ret (v := .tuple #[.agg #[.int .i64 0, .slice none 0 0], .int .i64 1]) (by simp [results, Try.results32, go_sem, e2, e3]) rfl ⟨none, 0, 0, rfl, Nat.zero_le _, Own.nil _ _, ?_⟩
      exact (BB.out.setCell (p := ⟨w.heap.size + 1 + 1, 0, none⟩) (by simp; omega) _).setCell (p := ⟨w.heap.size + 1 + 1, 1, none⟩) (by simp; omega) _
  · have hb0 : isBraid s xs = false := by simpa using hbr
    simp only [mProduct, if_neg (show ¬ (isBraid s xs = true ∧ isBraid t ys = true) from fun h => hbr h.1), Prod.mk.injEq] at hM
    obtain ⟨rfl, rfl, rfl⟩ := hM
    clear hbr
    go_enter Try.func32, Try.ntmps32
    replace R := Lib.hid (R.out.alloc (.cells #[.int .i64 s, .slice a n cap] 27))
    replace Q := Lib.hid (Q.out.alloc (.cells #[.int .i64 s, .slice a n cap] 27))
    have A := Lib.hid (At2.new w (.int .i64 s) (.slice a n cap) 27)
    have BB := Lib.hid (below1 w (.cells #[.int .i64 s, .slice a n cap] 27))
    replace R := Lib.hid (R.out.alloc (.cells #[.int .i64 t, .slice b m cap2] 27))
    replace Q := Lib.hid (Q.out.alloc (.cells #[.int .i64 t, .slice b m cap2] 27))
    replace A := Lib.hid (A.out.alloc (.cells #[.int .i64 t, .slice b m cap2] 27))
    have C := Lib.hid (At2.place (w.alloc (.cells #[.int .i64 s, .slice a n cap] 27)) (.int .i64 t) (.slice b m cap2) 27 (w.heap.size + 1) (by simp))
    replace BB := Lib.hid (BB.out.alloc (by first | omega | (simp; done) | (simp; omega)) (.cells #[.int .i64 t, .slice b m cap2] 27))
    replace R := Lib.hid (R.out.alloc (.cells #[.int .i64 0, .slice none 0 0] 27))
    replace Q := Lib.hid (Q.out.alloc (.cells #[.int .i64 0, .slice none 0 0] 27))
    replace A := Lib.hid (A.out.alloc (.cells #[.int .i64 0, .slice none 0 0] 27))
    replace C := Lib.hid (C.out.alloc (.cells #[.int .i64 0, .slice none 0 0] 27))
    have Z := Lib.hid (At2.place ((w.alloc (.cells #[.int .i64 s, .slice a n cap] 27)).alloc (.cells #[.int .i64 t, .slice b m cap2] 27)) (.int .i64 0) (.slice none 0 0) 27 (w.heap.size + 1 + 1) (by simp))
    replace BB := Lib.hid (BB.out.alloc (by first | omega | (simp; done) | (simp; omega)) (.cells #[.int .i64 0, .slice none 0 0] 27))
    go_wp2_with fail
    refine (l01Is_any _ _ _ _ xs _ R.out HF.out hn).mono ?_
    rintro e w1 ⟨rfl, hb⟩
    replace R := Lib.hid (R.out.below hb)
    replace Q := Lib.hid (Q.out.below hb)
    replace A := Lib.hid (A.out.below hb)
    replace C := Lib.hid (C.out.below hb)
    replace Z := Lib.hid (Z.out.below hb)
    have z1 : w.heap.size + 3 ≤ w1.heap.size := by have := hb.size; simp at this; omega
    replace BB := Lib.hid (below_go BB.out hb (by first | omega | (simp; done) | (simp; omega)))
    clear hb
    obtain ⟨qA1, qA2, qA3, qA4, qA5⟩ := A.out
    obtain ⟨qC1, qC2, qC3, qC4, qC5⟩ := C.out
    obtain ⟨qZ1, qZ2, qZ3, qZ4, qZ5⟩ := Z.out
    go_wp2
    obtain ⟨_, e2, e3, _, _⟩ := Z.out.fill (.int .i64 0) (.slice none 0 0)
    refine bodyPost_ret (v := .tuple #[.agg #[.int .i64 0, .slice none 0 0], .int .i64 1]) (by simp [results, Try.results32, go_sem, e2, e3]) rfl ⟨none, 0, 0, rfl, Nat.zero_le _, Own.nil _ _, ?_⟩
    exact (BB.out.setCell (p := ⟨w.heap.size + 1 + 1, 0, none⟩) (by simp; omega) _).setCell (p := ⟨w.heap.size + 1 + 1, 1, none⟩) (by simp; omega) _

set_option maxHeartbeats 2000000 in
theorem implProduct_any {s : Int} {a : Option Addr} {n cap : Nat} {xs : List Int} {t : Int} {b : Option Addr} {m cap2 : Nat} {ys : List Int} {w : World} {fs : Int} {fxs : List Int} {fc : Int} (hr : Reads w a n xs) (hf : Fits xs) (hn : n ≤ 1048576) (hr2 : Reads w b m ys) (hf2 : Fits ys) (hn2 : m ≤ 1048576) (hM : mProduct s xs t ys = (fs, fxs, fc)) :
    Calls Try.prog 33 #[.agg #[.int .i64 s, .slice a n cap], .agg #[.int .i64 t, .slice b m cap2]] w (RetBraid w fs fxs fc) := by
  obtain ⟨i0, hi, hz0, hz1, hz2⟩ := info_parts infoInt
  have HRO := Lib.hid hr.old
  have HSO := Lib.hid hr2.old
  have R := Lib.hid hr; clear hr
  have Q := Lib.hid hr2; clear hr2
  have HF := Lib.hid hf; clear hf
  have HG := Lib.hid hf2; clear hf2
  have HL := Lib.hid R.out.len
  have HM2 := Lib.hid Q.out.len
  by_cases hbr : isBraid s xs = true
  · by_cases hbr2 : isBraid t ys = true
    · have hn200 : n ≤ 200 := by have := HL.out; have := len_of_isBraid _ _ hbr; omega
      have hm200 : m ≤ 200 := by have := HM2.out; have := len_of_isBraid _ _ hbr2; omega
      simp only [mProduct, if_pos (show isBraid s xs = true ∧ isBraid t ys = true from ⟨hbr, hbr2⟩)] at hM
      by_cases hst : s = t
      · rw [if_pos hst, HL.out, HM2.out] at hM
        have t1 : (s != t) = false := by simp [hst]
        have HST := Lib.hid hst; clear hst
        by_cases hlen : n + m ≤ 200
        · simp only [if_pos hlen, Prod.mk.injEq] at hM
          obtain ⟨rfl, rfl, rfl⟩ := hM
          go_enter Try.func33, Try.ntmps33
          replace R := Lib.hid (R.out.alloc (.cells #[.int .i64 s, .slice a n cap] 27))
          replace Q := Lib.hid (Q.out.alloc (.cells #[.int .i64 s, .slice a n cap] 27))
          have A := Lib.hid (At2.new w (.int .i64 s) (.slice a n cap) 27)
          have BB := Lib.hid (below1 w (.cells #[.int .i64 s, .slice a n cap] 27))
          replace R := Lib.hid (R.out.alloc (.cells #[.int .i64 t, .slice b m cap2] 27))
          replace Q := Lib.hid (Q.out.alloc (.cells #[.int .i64 t, .slice b m cap2] 27))
          replace A := Lib.hid (A.out.alloc (.cells #[.int .i64 t, .slice b m cap2] 27))
          have C := Lib.hid (At2.place (w.alloc (.cells #[.int .i64 s, .slice a n cap] 27)) (.int .i64 t) (.slice b m cap2) 27 (w.heap.size + 1) (by simp))
          replace BB := Lib.hid (BB.out.alloc (by first | omega | (simp; done) | (simp; omega)) (.cells #[.int .i64 t, .slice b m cap2] 27))
          replace R := Lib.hid (R.out.alloc (.cells #[.int .i64 0, .slice none 0 0] 27))
          replace Q := Lib.hid (Q.out.alloc (.cells #[.int .i64 0, .slice none 0 0] 27))
          replace A := Lib.hid (A.out.alloc (.cells #[.int .i64 0, .slice none 0 0] 27))
          replace C := Lib.hid (C.out.alloc (.cells #[.int .i64 0, .slice none 0 0] 27))
          have Z := Lib.hid (At2.place ((w.alloc (.cells #[.int .i64 s, .slice a n cap] 27)).alloc (.cells #[.int .i64 t, .slice b m cap2] 27)) (.int .i64 0) (.slice none 0 0) 27 (w.heap.size + 1 + 1) (by simp))
          replace BB := Lib.hid (BB.out.alloc (by first | omega | (simp; done) | (simp; omega)) (.cells #[.int .i64 0, .slice none 0 0] 27))
          go_wp2_with fail
          refine (implIsBraid_any _ _ _ _ xs _ R.out hn).mono ?_
          rintro e w1 ⟨rfl, hb⟩
          replace R := Lib.hid (R.out.below hb)
          replace Q := Lib.hid (Q.out.below hb)
          replace A := Lib.hid (A.out.below hb)
          replace C := Lib.hid (C.out.below hb)
          replace Z := Lib.hid (Z.out.below hb)
          have z1 : w.heap.size + 3 ≤ w1.heap.size := by have := hb.size; simp at this; omega
          replace BB := Lib.hid (below_go BB.out hb (by first | omega | (simp; done) | (simp; omega)))
          clear hb
          obtain ⟨qA1, qA2, qA3, qA4, qA5⟩ := A.out
          obtain ⟨qC1, qC2, qC3, qC4, qC5⟩ := C.out
          obtain ⟨qZ1, qZ2, qZ3, qZ4, qZ5⟩ := Z.out
          go_wp2_with fail
          refine (implIsBraid_any _ _ _ _ ys _ Q.out hn2).mono ?_
          rintro e w2 ⟨rfl, hb⟩
          clear qA1 qA2 qA3 qA4 qA5 qC1 qC2 qC3 qC4 qC5 qZ1 qZ2 qZ3 qZ4 qZ5
          replace R := Lib.hid (R.out.below hb)
          replace Q := Lib.hid (Q.out.below hb)
          replace A := Lib.hid (A.out.below hb)
          replace C := Lib.hid (C.out.below hb)
          replace Z := Lib.hid (Z.out.below hb)
          have z2 : w1.heap.size ≤ w2.heap.size := hb.size
          replace BB := Lib.hid (below_go BB.out hb (by omega))
          clear hb
          obtain ⟨qA1, qA2, qA3, qA4, qA5⟩ := A.out
          obtain ⟨qC1, qC2, qC3, qC4, qC5⟩ := C.out
          obtain ⟨qZ1, qZ2, qZ3, qZ4, qZ5⟩ := Z.out
          have hzl : w.heap.size + 3 ≤ w2.heap.size := by omega
          have hzQ : Hid (ReadsIn 0 w.heap.size w2 b m ys) := Lib.hid ⟨Q.out, HSO.out.2⟩
          go_wp2_with fail
          refine (repeated_any _ _ _ _ xs 1 _ R.out hn (by decide) (by omega)).mono ?_
          rintro e w3 ⟨a3, n3, c3, rfl, ho, hb⟩
          clear qA1 qA2 qA3 qA4 qA5 qC1 qC2 qC3 qC4 qC5 qZ1 qZ2 qZ3 qZ4 qZ5
          rw [rep_one] at ho
          have O3 := Lib.hid ho; clear ho
          have hl3 : n3 = n := by have := O3.out.len; have := HL.out; omega
          subst hl3
          replace R := Lib.hid (R.out.below hb)
          replace Q := Lib.hid (Q.out.below hb)
          replace A := Lib.hid (A.out.below hb)
          replace C := Lib.hid (C.out.below hb)
          replace Z := Lib.hid (Z.out.below hb)
          have z3 : w2.heap.size ≤ w3.heap.size := hb.size
          replace BB := Lib.hid (below_go BB.out hb (by omega))
          clear hb
          obtain ⟨qA1, qA2, qA3, qA4, qA5⟩ := A.out
          obtain ⟨qC1, qC2, qC3, qC4, qC5⟩ := C.out
          obtain ⟨qZ1, qZ2, qZ3, qZ4, qZ5⟩ := Z.out
          replace R := Lib.hid (R.out.alloc (.cells #[.int .i64 s, .slice a3 n3 c3] 27))
          replace Q := Lib.hid (Q.out.alloc (.cells #[.int .i64 s, .slice a3 n3 c3] 27))
          replace A := Lib.hid (A.out.alloc (.cells #[.int .i64 s, .slice a3 n3 c3] 27))
          replace C := Lib.hid (C.out.alloc (.cells #[.int .i64 s, .slice a3 n3 c3] 27))
          replace Z := Lib.hid (Z.out.alloc (.cells #[.int .i64 s, .slice a3 n3 c3] 27))
          have P := Lib.hid (At2.new w3 (.int .i64 s) (.slice a3 n3 c3) 27)
          replace BB := Lib.hid (BB.out.alloc (by first | omega | (simp; done) | (simp; omega)) (.cells #[.int .i64 s, .slice a3 n3 c3] 27))
          have O3P := Lib.hid (O3.out.alloc (.cells #[.int .i64 s, .slice a3 n3 c3] 27))
          have hzp : w3.heap.size + 1 ≤ (w3.alloc (.cells #[.int .i64 s, .slice a3 n3 c3] 27)).heap.size := by simp
          obtain ⟨wp, hwp⟩ : ∃ wp, wp = (w3.alloc (.cells #[.int .i64 s, .slice a3 n3 c3] 27)) := ⟨_, rfl⟩
          rw [← hwp] at R Q A C Z P O3P BB hzp
          go_wp2_with (at_builtin; rw [← hwp]; refine wpList_append_ints rfl _ _ 22 rfl w2.heap.size i0 Try.underlying22 hi hz0 hz1 hz2 _ _ _ rfl (show OwnV w2.heap.size wp _ n3 xs from O3P.out) _ _ _ ys rfl Q.out (by omega) (by omega) ?_)
          intro v' w5 ho' hg
          rw [← hwp] at hg
          have hb5 := below_appended2 (Below.refl w2.heap.size wp) (by omega) (show OwnV w2.heap.size wp _ n3 xs from O3P.out) hg
          have hblk : w5.heap[w3.heap.size]? = some (.cells #[.int .i64 s, .slice a3 n3 c3] 27) := by rw [hg.block _ (by omega) (O3.out.far (Nat.le_refl _)), hwp]; exact heap_alloc_new _ _
          have HP5 := Lib.hid (P.out.heap hg.size (hg.block _ (by omega) (O3.out.far (Nat.le_refl _))))
          have HA5 := Lib.hid (A.out.heap hb5.size (hb5.block _ (by omega)))
          have HC5 := Lib.hid (C.out.heap hb5.size (hb5.block _ (by omega)))
          have HZ5 := Lib.hid (Z.out.heap hb5.size (hb5.block _ (by omega)))
          have HB5 := Lib.hid (BB.out.trans (hb5.mono (by omega)))
          obtain ⟨av, cv, rfl, _⟩ := ho'.form
          have HO6 := Lib.hid (OwnV.setCell_other ho' (p := ⟨w3.heap.size, 1, none⟩) hblk (.slice av (n3 + m) cv))
          have hz5 : w3.heap.size + 1 ≤ w5.heap.size := Nat.le_trans hzp hg.size
          clear qA1 qA2 qA3 qA4 qA5 qC1 qC2 qC3 qC4 qC5 qZ1 qZ2 qZ3 qZ4 qZ5
          clear ho' hg hb5 hblk R Q A C Z P O3P BB O3
          clear hwp
          obtain ⟨y1, y2, y3, y4, y5⟩ := HP5.out
          obtain ⟨v1, v2, v3, v4, v5⟩ := HZ5.out
          go_wp2
          have HZ6 := Lib.hid (HZ5.out.setCell (p := ⟨w3.heap.size, 1, none⟩) (by simp; omega) (.slice av (n3 + m) cv))
          have HB6 := Lib.hid (HB5.out.setCell (p := ⟨w3.heap.size, 1, none⟩) (by simp; omega) (.slice av (n3 + m) cv))
          obtain ⟨_, e2, e3, _, _⟩ := HZ6.out.fill (.int .i64 s) (.slice av (n3 + m) cv)
          obtain ⟨_, _, e9, ho6⟩ := HO6.out.form
          cases e9
          refine bodyPost_ret (v := .tuple #[.agg #[.int .i64 s, .slice av (n3 + m) cv], .int .i64 0]) (by simp [results, Try.results33, go_sem, e2, e3]) rfl ⟨av, n3 + m, cv, rfl, by omega, ?_, ?_⟩
          · exact ((Own.setCell_below ho6 (by simp; omega) _).setCell_below (by simp; omega) _).mono (by omega)
          · exact (HB6.out.setCell (p := ⟨w.heap.size + 1 + 1, 0, none⟩) (by simp; omega) _).setCell (p := ⟨w.heap.size + 1 + 1, 1, none⟩) (by simp; omega) _
        · simp only [if_neg hlen, Prod.mk.injEq] at hM
          obtain ⟨rfl, rfl, rfl⟩ := hM
          go_enter Try.func33, Try.ntmps33
          replace R := Lib.hid (R.out.alloc (.cells #[.int .i64 s, .slice a n cap] 27))
          replace Q := Lib.hid (Q.out.alloc (.cells #[.int .i64 s, .slice a n cap] 27))
          have A := Lib.hid (At2.new w (.int .i64 s) (.slice a n cap) 27)
          have BB := Lib.hid (below1 w (.cells #[.int .i64 s, .slice a n cap] 27))
          replace R := Lib.hid (R.out.alloc (.cells #[.int .i64 t, .slice b m cap2] 27))
          replace Q := Lib.hid (Q.out.alloc (.cells #[.int .i64 t, .slice b m cap2] 27))
          replace A := Lib.hid (A.out.alloc (.cells #[.int .i64 t, .slice b m cap2] 27))
          have C := Lib.hid (At2.place (w.alloc (.cells #[.int .i64 s, .slice a n cap] 27)) (.int .i64 t) (.slice b m cap2) 27 (w.heap.size + 1) (by simp))
          replace BB := Lib.hid (BB.out.alloc (by first | omega | (simp; done) | (simp; omega)) (.cells #[.int .i64 t, .slice b m cap2] 27))
          replace R := Lib.hid (R.out.alloc (.cells #[.int .i64 0, .slice none 0 0] 27))
          replace Q := Lib.hid (Q.out.alloc (.cells #[.int .i64 0, .slice none 0 0] 27))
          replace A := Lib.hid (A.out.alloc (.cells #[.int .i64 0, .slice none 0 0] 27))
          replace C := Lib.hid (C.out.alloc (.cells #[.int .i64 0, .slice none 0 0] 27))
          have Z := Lib.hid (At2.place ((w.alloc (.cells #[.int .i64 s, .slice a n cap] 27)).alloc (.cells #[.int .i64 t, .slice b m cap2] 27)) (.int .i64 0) (.slice none 0 0) 27 (w.heap.size + 1 + 1) (by simp))
          replace BB := Lib.hid (BB.out.alloc (by first | omega | (simp; done) | (simp; omega)) (.cells #[.int .i64 0, .slice none 0 0] 27))
          go_wp2_with fail
          refine (implIsBraid_any _ _ _ _ xs _ R.out hn).mono ?_
          rintro e w1 ⟨rfl, hb⟩
          replace R := Lib.hid (R.out.below hb)
          replace Q := Lib.hid (Q.out.below hb)
          replace A := Lib.hid (A.out.below hb)
          replace C := Lib.hid (C.out.below hb)
          replace Z := Lib.hid (Z.out.below hb)
          have z1 : w.heap.size + 3 ≤ w1.heap.size := by have := hb.size; simp at this; omega
          replace BB := Lib.hid (below_go BB.out hb (by first | omega | (simp; done) | (simp; omega)))
          clear hb
          obtain ⟨qA1, qA2, qA3, qA4, qA5⟩ := A.out
          obtain ⟨qC1, qC2, qC3, qC4, qC5⟩ := C.out
          obtain ⟨qZ1, qZ2, qZ3, qZ4, qZ5⟩ := Z.out
          go_wp2_with fail
          refine (implIsBraid_any _ _ _ _ ys _ Q.out hn2).mono ?_
          rintro e w2 ⟨rfl, hb⟩
          clear qA1 qA2 qA3 qA4 qA5 qC1 qC2 qC3 qC4 qC5 qZ1 qZ2 qZ3 qZ4 qZ5
          replace R := Lib.hid (R.out.below hb)
          replace Q := Lib.hid (Q.out.below hb)
          replace A := Lib.hid (A.out.below hb)
          replace C := Lib.hid (C.out.below hb)
          replace Z := Lib.hid (Z.out.below hb)
          have z2 : w1.heap.size ≤ w2.heap.size := hb.size
          replace BB := Lib.hid (below_go BB.out hb (by omega))
          clear hb
          obtain ⟨qA1, qA2, qA3, qA4, qA5⟩ := A.out
          obtain ⟨qC1, qC2, qC3, qC4, qC5⟩ := C.out
          obtain ⟨qZ1, qZ2, qZ3, qZ4, qZ5⟩ := Z.out
          go_wp2
          obtain ⟨_, e2, e3, _, _⟩ := Z.out.fill (.int .i64 0) (.slice none 0 0)
          refine bodyPost_ret (v := .tuple #[.agg #[.int .i64 0, .slice none 0 0], .int .i64 3]) (by simp [results, Try.results33, go_sem, e2, e3]) rfl ⟨none, 0, 0, rfl, Nat.zero_le _, Own.nil _ _, ?_⟩
          exact (BB.out.setCell (p := ⟨w.heap.size + 1 + 1, 0, none⟩) (by simp; omega) _).setCell (p := ⟨w.heap.size + 1 + 1, 1, none⟩) (by simp; omega) _
      · simp only [if_neg hst, Prod.mk.injEq] at hM
        obtain ⟨rfl, rfl, rfl⟩ := hM
        have t1 : (s != t) = true := by simp [hst]
        have HST := Lib.hid hst; clear hst
        go_enter Try.func33, Try.ntmps33
        replace R := Lib.hid (R.out.alloc (.cells #[.int .i64 s, .slice a n cap] 27))
        replace Q := Lib.hid (Q.out.alloc (.cells #[.int .i64 s, .slice a n cap] 27))
        have A := Lib.hid (At2.new w (.int .i64 s) (.slice a n cap) 27)
        have BB := Lib.hid (below1 w (.cells #[.int .i64 s, .slice a n cap] 27))
        replace R := Lib.hid (R.out.alloc (.cells #[.int .i64 t, .slice b m cap2] 27))
        replace Q := Lib.hid (Q.out.alloc (.cells #[.int .i64 t, .slice b m cap2] 27))
        replace A := Lib.hid (A.out.alloc (.cells #[.int .i64 t, .slice b m cap2] 27))
        have C := Lib.hid (At2.place (w.alloc (.cells #[.int .i64 s, .slice a n cap] 27)) (.int .i64 t) (.slice b m cap2) 27 (w.heap.size + 1) (by simp))
        replace BB := Lib.hid (BB.out.alloc (by first | omega | (simp; done) | (simp; omega)) (.cells #[.int .i64 t, .slice b m cap2] 27))
        replace R := Lib.hid (R.out.alloc (.cells #[.int .i64 0, .slice none 0 0] 27))
        replace Q := Lib.hid (Q.out.alloc (.cells #[.int .i64 0, .slice none 0 0] 27))
        replace A := Lib.hid (A.out.alloc (.cells #[.int .i64 0, .slice none 0 0] 27))
        replace C := Lib.hid (C.out.alloc (.cells #[.int .i64 0, .slice none 0 0] 27))
        have Z := Lib.hid (At2.place ((w.alloc (.cells #[.int .i64 s, .slice a n cap] 27)).alloc (.cells #[.int .i64 t, .slice b m cap2] 27)) (.int .i64 0) (.slice none 0 0) 27 (w.heap.size + 1 + 1) (by simp))
        replace BB := Lib.hid (BB.out.alloc (by first | omega | (simp; done) | (simp; omega)) (.cells #[.int .i64 0, .slice none 0 0] 27))
        go_wp2_with fail
        refine (implIsBraid_any _ _ _ _ xs _ R.out hn).mono ?_
        rintro e w1 ⟨rfl, hb⟩
        replace R := Lib.hid (R.out.below hb)
        replace Q := Lib.hid (Q.out.below hb)
        replace A := Lib.hid (A.out.below hb)
        replace C := Lib.hid (C.out.below hb)
        replace Z := Lib.hid (Z.out.below hb)
        have z1 : w.heap.size + 3 ≤ w1.heap.size := by have := hb.size; simp at this; omega
        replace BB := Lib.hid (below_go BB.out hb (by first | omega | (simp; done) | (simp; omega)))
        clear hb
        obtain ⟨qA1, qA2, qA3, qA4, qA5⟩ := A.out
        obtain ⟨qC1, qC2, qC3, qC4, qC5⟩ := C.out
        obtain ⟨qZ1, qZ2, qZ3, qZ4, qZ5⟩ := Z.out
        go_wp2_with fail
        refine (implIsBraid_any _ _ _ _ ys _ Q.out hn2).mono ?_
        rintro e w2 ⟨rfl, hb⟩
        clear qA1 qA2 qA3 qA4 qA5 qC1 qC2 qC3 qC4 qC5 qZ1 qZ2 qZ3 qZ4 qZ5
        replace R := Lib.hid (R.out.below hb)
        replace Q := Lib.hid (Q.out.below hb)
        replace A := Lib.hid (A.out.below hb)
        replace C := Lib.hid (C.out.below hb)
        replace Z := Lib.hid (Z.out.below hb)
        have z2 : w1.heap.size ≤ w2.heap.size := hb.size
        replace BB := Lib.hid (below_go BB.out hb (by omega))
        clear hb
        obtain ⟨qA1, qA2, qA3, qA4, qA5⟩ := A.out
        obtain ⟨qC1, qC2, qC3, qC4, qC5⟩ := C.out
        obtain ⟨qZ1, qZ2, qZ3, qZ4, qZ5⟩ := Z.out
        go_wp2
        obtain ⟨_, e2, e3, _, _⟩ := Z.out.fill (.int .i64 0) (.slice none 0 0)
        refine bodyPost_ret (v := .tuple #[.agg #[.int .i64 0, .slice none 0 0], .int .i64 2]) (by simp [results, Try.results33, go_sem, e2, e3]) rfl ⟨none, 0, 0, rfl, Nat.zero_le _, Own.nil _ _, ?_⟩
        exact (BB.out.setCell (p := ⟨w.heap.size + 1 + 1, 0, none⟩) (by simp; omega) _).setCell (p := ⟨w.heap.size + 1 + 1, 1, none⟩) (by simp; omega) _
    · have hb0 : isBraid t ys = false := by simpa using hbr2
      simp only [mProduct, if_neg (show ¬ (isBraid s xs = true ∧ isBraid t ys = true) from fun h => hbr2 h.2), Prod.mk.injEq] at hM
      obtain ⟨rfl, rfl, rfl⟩ := hM
      clear hbr2
      go_enter Try.func33, Try.ntmps33
      replace R := Lib.hid (R.out.alloc (.cells #[.int .i64 s, .slice a n cap] 27))
      replace Q := Lib.hid (Q.out.alloc (.cells #[.int .i64 s, .slice a n cap] 27))
      have A := Lib.hid (At2.new w (.int .i64 s) (.slice a n cap) 27)
      have BB := Lib.hid (below1 w (.cells #[.int .i64 s, .slice a n cap] 27))
      replace R := Lib.hid (R.out.alloc (.cells #[.int .i64 t, .slice b m cap2] 27))
      replace Q := Lib.hid (Q.out.alloc (.cells #[.int .i64 t, .slice b m cap2] 27))
      replace A := Lib.hid (A.out.alloc (.cells #[.int .i64 t, .slice b m cap2] 27))
      have C := Lib.hid (At2.place (w.alloc (.cells #[.int .i64 s, .slice a n cap] 27)) (.int .i64 t) (.slice b m cap2) 27 (w.heap.size + 1) (by simp))
      replace BB := Lib.hid (BB.out.alloc (by first | omega | (simp; done) | (simp; omega)) (.cells #[.int .i64 t, .slice b m cap2] 27))
      replace R := Lib.hid (R.out.alloc (.cells #[.int .i64 0, .slice none 0 0] 27))
      replace Q := Lib.hid (Q.out.alloc (.cells #[.int .i64 0, .slice none 0 0] 27))
      replace A := Lib.hid (A.out.alloc (.cells #[.int .i64 0, .slice none 0 0] 27))
      replace C := Lib.hid (C.out.alloc (.cells #[.int .i64 0, .slice none 0 0] 27))
      have Z := Lib.hid (At2.place ((w.alloc (.cells #[.int .i64 s, .slice a n cap] 27)).alloc (.cells #[.int .i64 t, .slice b m cap2] 27)) (.int .i64 0) (.slice none 0 0) 27 (w.heap.size + 1 + 1) (by simp))
      replace BB := Lib.hid (BB.out.alloc (by first | omega | (simp; done) | (simp; omega)) (.cells #[.int .i64 0, .slice none 0 0] 27))
      go_wp2_with fail
      refine (implIsBraid_any _ _ _ _ xs _ R.out hn).mono ?_
      rintro e w1 ⟨rfl, hb⟩
      replace R := Lib.hid (R.out.below hb)
      replace Q := Lib.hid (Q.out.below hb)
      replace A := Lib.hid (A.out.below hb)
      replace C := Lib.hid (C.out.below hb)
      replace Z := Lib.hid (Z.out.below hb)
      have z1 : w.heap.size + 3 ≤ w1.heap.size := by have := hb.size; simp at this; omega
      replace BB := Lib.hid (below_go BB.out hb (by first | omega | (simp; done) | (simp; omega)))
      clear hb
      obtain ⟨qA1, qA2, qA3, qA4, qA5⟩ := A.out
      obtain ⟨qC1, qC2, qC3, qC4, qC5⟩ := C.out
      obtain ⟨qZ1, qZ2, qZ3, qZ4, qZ5⟩ := Z.out
      go_wp2_with fail
      refine (implIsBraid_any _ _ _ _ ys _ Q.out hn2).mono ?_
      rintro e w2 ⟨rfl, hb⟩
      clear qA1 qA2 qA3 qA4 qA5 qC1 qC2 qC3 qC4 qC5 qZ1 qZ2 qZ3 qZ4 qZ5
      replace R := Lib.hid (R.out.below hb)
      replace Q := Lib.hid (Q.out.below hb)
      replace A := Lib.hid (A.out.below hb)
      replace C := Lib.hid (C.out.below hb)
      replace Z := Lib.hid (Z.out.below hb)
      have z2 : w1.heap.size ≤ w2.heap.size := hb.size
      replace BB := Lib.hid (below_go BB.out hb (by omega))
      clear hb
      obtain ⟨qA1, qA2, qA3, qA4, qA5⟩ := A.out
      obtain ⟨qC1, qC2, qC3, qC4, qC5⟩ := C.out
      obtain ⟨qZ1, qZ2, qZ3, qZ4, qZ5⟩ := Z.out
      go_wp2
      obtain ⟨_, e2, e3, _, _⟩ := Z.out.fill (.int .i64 0) (.slice none 0 0)
      refine bodyPost_ret (v := .tuple #[.agg #[.int .i64 0, .slice none 0 0], .int .i64 1]) (by simp [results, Try.results33, go_sem, e2, e3]) rfl ⟨none, 0, 0, rfl, Nat.zero_le _, Own.nil _ _, ?_⟩
      exact (BB.out.setCell (p := ⟨w.heap.size + 1 + 1, 0, none⟩) (by simp; omega) _).setCell (p := ⟨w.heap.size + 1 + 1, 1, none⟩) (by simp; omega) _
  · have hb0 : isBraid s xs = false := by simpa using hbr
    simp only [mProduct, if_neg (show ¬ (isBraid s xs = true ∧ isBraid t ys = true) from fun h => hbr h.1), Prod.mk.injEq] at hM
    obtain ⟨rfl, rfl, rfl⟩ := hM
    clear hbr
    go_enter Try.func33, Try.ntmps33
    replace R := Lib.hid (R.out.alloc (.cells #[.int .i64 s, .slice a n cap] 27))
    replace Q := Lib.hid (Q.out.alloc (.cells #[.int .i64 s, .slice a n cap] 27))
    have A := Lib.hid (At2.new w (.int .i64 s) (.slice a n cap) 27)
    have BB := Lib.hid (below1 w (.cells #[.int .i64 s, .slice a n cap] 27))
    replace R := Lib.hid (R.out.alloc (.cells #[.int .i64 t, .slice b m cap2] 27))
    replace Q := Lib.hid (Q.out.alloc (.cells #[.int .i64 t, .slice b m cap2] 27))
    replace A := Lib.hid (A.out.alloc (.cells #[.int .i64 t, .slice b m cap2] 27))
    have C := Lib.hid (At2.place (w.alloc (.cells #[.int .i64 s, .slice a n cap] 27)) (.int .i64 t) (.slice b m cap2) 27 (w.heap.size + 1) (by simp))
    replace BB := Lib.hid (BB.out.alloc (by first | omega | (simp; done) | (simp; omega)) (.cells #[.int .i64 t, .slice b m cap2] 27))
    replace R := Lib.hid (R.out.alloc (.cells #[.int .i64 0, .slice none 0 0] 27))
    replace Q := Lib.hid (Q.out.alloc (.cells #[.int .i64 0, .slice none 0 0] 27))
    replace A := Lib.hid (A.out.alloc (.cells #[.int .i64 0, .slice none 0 0] 27))
    replace C := Lib.hid (C.out.alloc (.cells #[.int .i64 0, .slice none 0 0] 27))
    have Z := Lib.hid (At2.place ((w.alloc (.cells #[.int .i64 s, .slice a n cap] 27)).alloc (.cells #[.int .i64 t, .slice b m cap2] 27)) (.int .i64 0) (.slice none 0 0) 27 (w.heap.size + 1 + 1) (by simp))
    replace BB := Lib.hid (BB.out.alloc (by first | omega | (simp; done) | (simp; omega)) (.cells #[.int .i64 0, .slice none 0 0] 27))
    go_wp2_with fail
    refine (implIsBraid_any _ _ _ _ xs _ R.out hn).mono ?_
    rintro e w1 ⟨rfl, hb⟩
    replace R := Lib.hid (R.out.below hb)
    replace Q := Lib.hid (Q.out.below hb)
    replace A := Lib.hid (A.out.below hb)
    replace C := Lib.hid (C.out.below hb)
    replace Z := Lib.hid (Z.out.below hb)
    have z1 : w.heap.size + 3 ≤ w1.heap.size := by have := hb.size; simp at this; omega
    replace BB := Lib.hid (below_go BB.out hb (by first | omega | (simp; done) | (simp; omega)))
    clear hb
    obtain ⟨qA1, qA2, qA3, qA4, qA5⟩ := A.out
    obtain ⟨qC1, qC2, qC3, qC4, qC5⟩ := C.out
    obtain ⟨qZ1, qZ2, qZ3, qZ4, qZ5⟩ := Z.out
    go_wp2
    obtain ⟨_, e2, e3, _, _⟩ := Z.out.fill (.int .i64 0) (.slice none 0 0)
    refine bodyPost_ret (v := .tuple #[.agg #[.int .i64 0, .slice none 0 0], .int .i64 1]) (by simp [results, Try.results33, go_sem, e2, e3]) rfl ⟨none, 0, 0, rfl, Nat.zero_le _, Own.nil _ _, ?_⟩
    exact (BB.out.setCell (p := ⟨w.heap.size + 1 + 1, 0, none⟩) (by simp; omega) _).setCell (p := ⟨w.heap.size + 1 + 1, 1, none⟩) (by simp; omega) _

end Go.Proofs.Ytmiihjhhbjpalaa