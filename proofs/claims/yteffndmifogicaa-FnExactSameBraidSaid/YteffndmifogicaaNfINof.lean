/- The normal form of a word: the program. -/
import Derived.Test.YteffndmifogicaaNfIBac
import Derived.Test.YteffndmifogicaaNfKit16
import Derived.Test.YteffndmifogicaaNfKit17
import Derived.Test.YteffndmifogicaaNfNofP
import Derived.Test.YteffndmifogicaaNfITms
import Derived.Test.YteffndmifogicaaNfIBeh
namespace Go.Proofs.Yteffndmifogicaa
open Go.RowKit Go.Shelf Go.ChangeShapes

attribute [local go_sem] Oper.semAt_some

/-- The count of a letter. -/
def cntI (x : Int) : Int := if x < 0 then -1 else 1

theorem countI_any (x : Int) (w : World) :
  Calls Try.prog 95 #[.int .i64 x] w fun e w' => e = .returned (.int .i64 (cntI x)) ∧ w = w' := by
 by_cases h : x < 0
 all_goals
  go_enter Try.func95, Try.ntmps95
  go_wp2
  go_ret
  exact ⟨ret_int (by simp [cntI, h]), rfl⟩

theorem indexI_any (x : Int) (w : World) (h1 : -1000 < x) (h2 : x < 1000) :
  Calls Try.prog 75 #[.int .i64 x] w fun e w' => e = .returned (.int .i64 (x * cntI x)) ∧ w = w' := by
 have hc : cntI x = -1 ∨ cntI x = 1 := by unfold cntI; split <;> simp
 have hw : wrap64 (x * cntI x) = x * cntI x := by rcases hc with e | e <;> rw [e] <;> exact IntWalk.wrap64_in _ (by omega)
 have HW := Lib.hid hw; clear hw hc
 go_enter Try.func75, Try.ntmps75
 go_wp2_with (go_at_call 95; refine (countI_any _ _).mono ?_; rintro e w' ⟨rfl, rfl⟩)
 go_ret
 exact ⟨ret_int HW.out, rfl⟩

theorem index_pos (k : Nat) (w : World) (hk : k < 100) : Calls Try.prog 75 #[.int .i64 ((k : Int) + 1)] w fun e w' => e = .returned (.int .i64 ((k : Int) + 1)) ∧ w = w' := by
 refine (indexI_any ((k : Int) + 1) w (by omega) (by omega)).mono ?_
 rintro e w' ⟨rfl, h⟩
 exact ⟨by unfold cntI; rw [if_neg (by omega), Int.mul_one], h⟩

theorem index_neg (k : Nat) (w : World) (hk : k < 100) : Calls Try.prog 75 #[.int .i64 (-(k : Int) - 1)] w fun e w' => e = .returned (.int .i64 ((k : Int) + 1)) ∧ w = w' := by
 refine (indexI_any (-(k : Int) - 1) w (by omega) (by omega)).mono ?_
 rintro e w' ⟨rfl, h⟩
 exact ⟨ret_int (by unfold cntI; rw [if_pos (by omega)]; omega), h⟩

/-- The words of the loop over the letters. -/
structure AtNof (w : World) (L m n gs : Nat) (st : Int × List (List Int)) (W : World) : Prop where
 sn : At1 W (w.heap.size + 1 + 1) (.int .i64 m)
 sp : At1 W (w.heap.size + 1 + 1 + 1) (.int .i64 st.1)
 ss : At1 W gs (.slice (some ⟨w.heap.size + 1 + 1 + 1 + 1, 0, none⟩) n n)
 rw' : OwnA (w.heap.size + 1 + 1 + 1 + 1) W (some ⟨w.heap.size + 1 + 1 + 1 + 1, 0, none⟩) n n st.2
 z : At3 W (w.heap.size + 1) (.int .i64 0) (.int .i64 0) (.slice none 0 0)
 kb : Below w.heap.size w W
 hi : L ≤ W.heap.size

theorem AtNof.below {w W W' : World} {L m n gs : Nat} {st : Int × List (List Int)} (h : AtNof w L m n gs st W) (k : Below W.heap.size W W') : AtNof w L m n gs st W' :=
 ⟨h.sn.below k, h.sp.below k, h.ss.below k, h.rw'.below k, h.z.below k, h.kb.trans (k.mono h.kb.size), Nat.le_trans h.hi k.size⟩

theorem AtNof.kept {w W W' : World} {L m n gs : Nat} {st : Int × List (List Int)} {row : Option Nat} (h : AtNof w L m n gs st W) (hg : W.grownBy W' row) (hr : ∀ r, row = some r → L ≤ r) (h4 : w.heap.size + 1 + 1 + 1 + 1 < L) (hs : gs < L) : AtNof w L m n gs st W' := by
 have hb := (Below.refl L W).grown hg h.hi hr
 have k := fun g (hgl : g < L) => hb.block g hgl
 refine ⟨h.sn.heap hb.size (k _ (by omega)), h.sp.heap hb.size (k _ (by omega)), h.ss.heap hb.size (k _ hs), ⟨h.rw'.1, World.ownsRow.kept h.rw'.2 hg (.inr ?_)⟩, h.z.heap hb.size (k _ (by omega)), h.kb.trans (hb.mono (by omega)), Nat.le_trans h.hi hb.size⟩
 intro e
 have := hr _ (by simpa [Value.ownBlock] using e.symm)
 omega

/-- The words of the loop over the rows. -/
structure AtN2 (w : World) (m n gp D : Nat) (e2 : Int) (ak : Option Addr) (nk ck : Nat) (lk rows : List (List Int)) (wx : World) : Prop where
 res : At3 wx (w.heap.size + 1) (.int .i64 0) (.int .i64 0) (.slice none 0 0)
 pr : At3 wx gp (.int .i64 m) (.int .i64 e2) (.slice ak nk ck)
 own : OwnS (w.heap.size + 1 + 1) wx ak nk lk
 rw' : OwnA (w.heap.size + 1 + 1 + 1 + 1) wx (some ⟨w.heap.size + 1 + 1 + 1 + 1, 0, none⟩) n n rows
 bel : Below w.heap.size w wx
 dfr : wx.heap[D]? = some (.deferred (some []))
 hD : D < gp
 lo : w.heap.size + 1 + 1 + 1 + 1 < gp
 dn : nk = 0 ∨ ∀ x, ak = some x → x.block ≠ D

theorem OwnS.pastObj {B : Nat} {w : World} {a : Option Addr} {n D : Nat} {rs : List (List Int)} (h : OwnS B w a n rs) (hne : n = 0 ∨ ∀ x, a = some x → x.block ≠ D) (o : Obj) : OwnS B (w.putObj D o) a n rs := by
 rcases hne with h0 | h0
 ·subst h0
  obtain rfl : rs = [] := List.eq_nil_of_length_eq_zero h.len
  exact OwnS.nil _ _ _
 ·exact h.heap (by simp [World.putObj]) (fun x hx _ _ => by simp [World.putObj, Ne.symm (h0 x hx)])

theorem AtN2.below {w wx W : World} {m n gp D : Nat} {e2 : Int} {ak : Option Addr} {nk ck : Nat} {lk rows : List (List Int)} (h : AtN2 w m n gp D e2 ak nk ck lk rows wx) (k : Below wx.heap.size wx W) : AtN2 w m n gp D e2 ak nk ck lk rows W :=
 ⟨h.res.below k, h.pr.below k, h.own.below k, h.rw'.below k, h.bel.trans (k.mono h.bel.size), (k.block D (Array.getElem?_eq_some_iff.1 h.dfr).1).trans h.dfr, h.hD, h.lo, h.dn⟩

theorem AtN2.next {w wx : World} {m n gp D : Nat} {e2 : Int} {ak : Option Addr} {nk ck : Nat} {lk rows : List (List Int)} (h : AtN2 w m n gp D e2 ak nk ck lk rows wx) (e3 : Int) {a5 : Option Addr} {n5 : Nat} (c5 : Nat) {l3 : List (List Int)} (ho : OwnS (w.heap.size + 1 + 1) wx a5 n5 l3) (hap : n5 = 0 ∨ ∀ x, a5 = some x → x.block ≠ gp) (hdn : n5 = 0 ∨ ∀ x, a5 = some x → x.block ≠ D) :
  AtN2 w m n gp D e3 a5 n5 c5 l3 rows (((wx.setCell ⟨gp, 0, none⟩ (.int .i64 m)).setCell ⟨gp, 1, none⟩ (.int .i64 e3)).setCell ⟨gp, 2, none⟩ (.slice a5 n5 c5)) := by
 have hlo := h.lo
 exact ⟨h.res.set3 (by omega) _ _ _, h.pr.fill _ _ _, ho.past3 hap _ _ _, ((h.rw'.setCell_ne (by omega) _ _).setCell_ne (by omega) _ _).setCell_ne (by omega) _ _, below_set3 h.bel (by omega) _ _ _, ((below_set3 (Below.refl gp wx) (Nat.le_refl gp) _ _ _).block D h.hD).trans h.dfr, h.hD, h.lo, hdn⟩

theorem keepsOthers_of {W X : World} (h : Below W.heap.size W X) : KeepsOthers W X := ⟨h.size, fun k _ ho _ => (h.block k (Array.getElem?_eq_some_iff.1 ho).1).trans ho⟩

theorem Keeps2.of {b c : Nat} {W X : World} (h : Below W.heap.size W X) (hb : b < W.heap.size) (hc : c < W.heap.size) : Keeps2 b c W X := ⟨h.block b hb, h.block c hc⟩

theorem Keeps2.set {b c : Nat} {A B : World} (h : Keeps2 b c A B) {p : Addr} (hb : b ≠ p.block) (hc : c ≠ p.block) (v : Value) : Keeps2 b c A (B.setCell p v) :=
 ⟨(Below.heap_setCell _ _ _ _ hb).trans h.1, (Below.heap_setCell _ _ _ _ hc).trans h.2⟩

theorem keepsOthers_set {W X : World} (h : KeepsOthers W X) (p : Addr) (v : Value) : KeepsOthers W (X.setCell p v) := h.trans (KeepsOthers.setCell X p v)

theorem keepsOthers_set8 {W X : World} (h : KeepsOthers W X) (g o : Nat) (r : List Int) : KeepsOthers W ((((((((X.setCell ⟨g, o, none⟩ (.int .u8 (at8 r 0))).setCell ⟨g, o + 1, none⟩ (.int .u8 (at8 r 1))).setCell ⟨g, o + 2, none⟩ (.int .u8 (at8 r 2))).setCell ⟨g, o + 3, none⟩ (.int .u8 (at8 r 3))).setCell ⟨g, o + 4, none⟩ (.int .u8 (at8 r 4))).setCell ⟨g, o + 5, none⟩ (.int .u8 (at8 r 5))).setCell ⟨g, o + 6, none⟩ (.int .u8 (at8 r 6))).setCell ⟨g, o + 7, none⟩ (.int .u8 (at8 r 7))) := by
 refine keepsOthers_set ?_ _ _
 refine keepsOthers_set ?_ _ _
 refine keepsOthers_set ?_ _ _
 refine keepsOthers_set ?_ _ _
 refine keepsOthers_set ?_ _ _
 refine keepsOthers_set ?_ _ _
 refine keepsOthers_set ?_ _ _
 exact keepsOthers_set h _ _

theorem Keeps2.set8 {b c : Nat} {W X : World} (h : Keeps2 b c W X) (g o : Nat) (hb : b ≠ g) (hc : c ≠ g) (r : List Int) : Keeps2 b c W ((((((((X.setCell ⟨g, o, none⟩ (.int .u8 (at8 r 0))).setCell ⟨g, o + 1, none⟩ (.int .u8 (at8 r 1))).setCell ⟨g, o + 2, none⟩ (.int .u8 (at8 r 2))).setCell ⟨g, o + 3, none⟩ (.int .u8 (at8 r 3))).setCell ⟨g, o + 4, none⟩ (.int .u8 (at8 r 4))).setCell ⟨g, o + 5, none⟩ (.int .u8 (at8 r 5))).setCell ⟨g, o + 6, none⟩ (.int .u8 (at8 r 6))).setCell ⟨g, o + 7, none⟩ (.int .u8 (at8 r 7))) := by
 refine Keeps2.set ?_ hb hc _
 refine Keeps2.set ?_ hb hc _
 refine Keeps2.set ?_ hb hc _
 refine Keeps2.set ?_ hb hc _
 refine Keeps2.set ?_ hb hc _
 refine Keeps2.set ?_ hb hc _
 refine Keeps2.set ?_ hb hc _
 exact Keeps2.set h hb hc _

theorem leftR_any (n : Nat) (s : List Int) (hs : Sim n s) (w : World) :
  Calls Try.prog 76 #[arr8 .u8 s, .int .i64 n] w (RetArr .u8 w (leftR n s)) := leftComplement_any n s hs w

theorem foldB_bd {m n : Nat} (pre : List (Let m n)) : -(pre.length : Int) ≤ (foldB m n pre).1 ∧ (foldB m n pre).1 ≤ 0 := by
 obtain ⟨r, hr⟩ : ∃ r, r = pre.reverse := ⟨_, rfl⟩
 obtain rfl : pre = r.reverse := by rw [hr, List.reverse_reverse]
 clear hr
 induction r with
 | nil => simp [foldB]
 | cons x r ih =>
  rw [List.reverse_cons, foldB_snoc]
  unfold stepB
  simp only [List.length_append, List.length_cons, List.length_nil]
  split <;> omega

theorem At1.setOther {w : World} {g : Nat} {u : Value} (h : At1 w g u) {p : Addr} (hp : g ≠ p.block) (v : Value) : At1 (w.setCell p v) g u := h.heap (by simp [World.setCell]) (Below.heap_setCell _ _ _ _ hp)

theorem AtNof.power {w W : World} {L m n gs : Nat} {st : Int × List (List Int)} (h : AtNof w L m n gs st W) (hs : w.heap.size + 1 + 1 + 1 + 1 < gs) (e : Int) : AtNof w L m n gs (e, st.2) (W.setCell ⟨w.heap.size + 1 + 1 + 1, 0, none⟩ (.int .i64 e)) :=
 ⟨h.sn.setOther (by simp) _, ⟨by have := h.sp.1; simpa [World.setCell] using this, World.cell?_setCell_same _ _ _ h.sp.2.1, by have := h.sp.2.2; simpa using this⟩, h.ss.setOther (by simp; omega) _, h.rw'.setCell_ne (by omega) _ _, h.z.setCell (p := ⟨w.heap.size + 1 + 1 + 1, 0, none⟩) (by show w.heap.size + 1 + 1 + 1 ≠ w.heap.size + 1; omega) _, h.kb.setCell (p := ⟨w.heap.size + 1 + 1 + 1, 0, none⟩) (by show w.heap.size ≤ w.heap.size + 1 + 1 + 1; omega) _, by have := h.hi; simpa [World.setCell] using this⟩

theorem AtNof.row {w W : World} {L m n gs : Nat} {st : Int × List (List Int)} (h : AtNof w L m n gs st W) (hs : w.heap.size + 1 + 1 + 1 + 1 < gs) (i : Nat) (hi : i < n) (r : List Int) (hr : r.length = 8) : AtNof w L m n gs (st.1, st.2.set i r) ((((((((W.setCell ⟨w.heap.size + 1 + 1 + 1 + 1, i * 8, none⟩ (.int .u8 (at8 r 0))).setCell ⟨w.heap.size + 1 + 1 + 1 + 1, i * 8 + 1, none⟩ (.int .u8 (at8 r 1))).setCell ⟨w.heap.size + 1 + 1 + 1 + 1, i * 8 + 2, none⟩ (.int .u8 (at8 r 2))).setCell ⟨w.heap.size + 1 + 1 + 1 + 1, i * 8 + 3, none⟩ (.int .u8 (at8 r 3))).setCell ⟨w.heap.size + 1 + 1 + 1 + 1, i * 8 + 4, none⟩ (.int .u8 (at8 r 4))).setCell ⟨w.heap.size + 1 + 1 + 1 + 1, i * 8 + 5, none⟩ (.int .u8 (at8 r 5))).setCell ⟨w.heap.size + 1 + 1 + 1 + 1, i * 8 + 6, none⟩ (.int .u8 (at8 r 6))).setCell ⟨w.heap.size + 1 + 1 + 1 + 1, i * 8 + 7, none⟩ (.int .u8 (at8 r 7))) :=
 ⟨((((((((h.sn.setOther (p := ⟨w.heap.size + 1 + 1 + 1 + 1, i * 8, none⟩) (by simp) _).setOther (p := ⟨w.heap.size + 1 + 1 + 1 + 1, i * 8 + 1, none⟩) (by simp) _).setOther (p := ⟨w.heap.size + 1 + 1 + 1 + 1, i * 8 + 2, none⟩) (by simp) _).setOther (p := ⟨w.heap.size + 1 + 1 + 1 + 1, i * 8 + 3, none⟩) (by simp) _).setOther (p := ⟨w.heap.size + 1 + 1 + 1 + 1, i * 8 + 4, none⟩) (by simp) _).setOther (p := ⟨w.heap.size + 1 + 1 + 1 + 1, i * 8 + 5, none⟩) (by simp) _).setOther (p := ⟨w.heap.size + 1 + 1 + 1 + 1, i * 8 + 6, none⟩) (by simp) _).setOther (p := ⟨w.heap.size + 1 + 1 + 1 + 1, i * 8 + 7, none⟩) (by simp) _), ((((((((h.sp.setOther (p := ⟨w.heap.size + 1 + 1 + 1 + 1, i * 8, none⟩) (by simp) _).setOther (p := ⟨w.heap.size + 1 + 1 + 1 + 1, i * 8 + 1, none⟩) (by simp) _).setOther (p := ⟨w.heap.size + 1 + 1 + 1 + 1, i * 8 + 2, none⟩) (by simp) _).setOther (p := ⟨w.heap.size + 1 + 1 + 1 + 1, i * 8 + 3, none⟩) (by simp) _).setOther (p := ⟨w.heap.size + 1 + 1 + 1 + 1, i * 8 + 4, none⟩) (by simp) _).setOther (p := ⟨w.heap.size + 1 + 1 + 1 + 1, i * 8 + 5, none⟩) (by simp) _).setOther (p := ⟨w.heap.size + 1 + 1 + 1 + 1, i * 8 + 6, none⟩) (by simp) _).setOther (p := ⟨w.heap.size + 1 + 1 + 1 + 1, i * 8 + 7, none⟩) (by simp) _), ((((((((h.ss.setOther (p := ⟨w.heap.size + 1 + 1 + 1 + 1, i * 8, none⟩) (by simp; omega) _).setOther (p := ⟨w.heap.size + 1 + 1 + 1 + 1, i * 8 + 1, none⟩) (by simp; omega) _).setOther (p := ⟨w.heap.size + 1 + 1 + 1 + 1, i * 8 + 2, none⟩) (by simp; omega) _).setOther (p := ⟨w.heap.size + 1 + 1 + 1 + 1, i * 8 + 3, none⟩) (by simp; omega) _).setOther (p := ⟨w.heap.size + 1 + 1 + 1 + 1, i * 8 + 4, none⟩) (by simp; omega) _).setOther (p := ⟨w.heap.size + 1 + 1 + 1 + 1, i * 8 + 5, none⟩) (by simp; omega) _).setOther (p := ⟨w.heap.size + 1 + 1 + 1 + 1, i * 8 + 6, none⟩) (by simp; omega) _).setOther (p := ⟨w.heap.size + 1 + 1 + 1 + 1, i * 8 + 7, none⟩) (by simp; omega) _), h.rw'.store i hi r hr, h.z.set8 (by omega) _ _ _ _ _ _ _ _, below_fill8a h.kb _ (by omega) _ _ _ _ _ _ _ _ _, by have := h.hi; simpa [World.setCell] using this⟩

set_option maxRecDepth 100000 in
set_option maxHeartbeats 20000000 in
theorem normalOf_any (m : Nat) (m1 : 1 ≤ m) (m8 : m ≤ 8) (a : Option Addr) (n cap : Nat) (xs : List Int) (w : World) (hr : Reads w a n xs) (hx : Letters m xs) (hn : n ≤ 1000) (e : Int) (kf : List (List Int)) (hM : ofW m xs = (e, kf)) :
  Calls Try.prog 46 #[.agg #[.int .i64 m, .slice a n cap]] w (RetNS w.heap.size w m e kf) := by
 obtain ⟨i0, hi, hz0, hz1, hz2⟩ := info_parts infoSimple
 have HN := Lib.hid hr.len
 have R := Lib.hid hr
 have HX := Lib.hid hx
 have HM := Lib.hid hM
 clear hr hx hM
 refine (callsIn_wide (n := 5)).1 ?_
 refine callsIn_of_wp_marks Try.func46 rfl trivial ?_ rfl
 simp only [Try.ntmps46, List.size_toArray, List.length_cons, List.length_nil, Nat.reduceAdd, Nat.reduceSub, Array.replicate_succ, Array.replicate_zero, List.push_toArray, List.append_toArray, List.nil_append, List.cons_append]
 have BR := Lib.hid (At2.place w (.int .i64 m) (.slice a n cap) 41 w.heap.size rfl)
 obtain ⟨W1, hW1⟩ : ∃ W1, W1 = w.alloc (.cells #[.int .i64 m, .slice a n cap] 41) := ⟨_, rfl⟩
 rw [← hW1] at BR
 have BL := Lib.hid (below1 w (.cells #[.int .i64 m, .slice a n cap] 41))
 rw [← hW1] at BL
 have hs1 : W1.heap.size = w.heap.size + 1 := by rw [hW1]; simp
 have HW1 := Lib.hid hW1
 have Z := Lib.hid (At3.place W1 (.int .i64 0) (.int .i64 0) (.slice none 0 0) 28 (w.heap.size + 1) hs1)
 have SN := Lib.hid (At1.place (W1.alloc (.cells #[.int .i64 0, .int .i64 0, .slice none 0 0] 28)) (.int .i64 m) 2 (w.heap.size + 1 + 1) (by simp [hs1]))
 have SP := Lib.hid (At1.place ((W1.alloc (.cells #[.int .i64 0, .int .i64 0, .slice none 0 0] 28)).alloc (.cells #[.int .i64 m] 2)) (.int .i64 0) 2 (w.heap.size + 1 + 1 + 1) (by simp [hs1]))
 obtain ⟨W2, hW2⟩ : ∃ W2, W2 = (((W1.alloc (.cells #[.int .i64 0, .int .i64 0, .slice none 0 0] 28)).alloc (.cells #[.int .i64 m] 2)).alloc (.cells #[.int .i64 0] 2)) := ⟨_, rfl⟩
 have hs2 : W2.heap.size = w.heap.size + 1 + 1 + 1 + 1 := by rw [hW2]; simp [hs1]
 rw [← hW2] at SP
 replace SN : Hid (At1 W2 (w.heap.size + 1 + 1) (.int .i64 m)) := Lib.hid (by rw [hW2]; exact SN.out.alloc _)
 replace Z : Hid (At3 W2 (w.heap.size + 1) (.int .i64 0) (.int .i64 0) (.slice none 0 0)) := Lib.hid (by rw [hW2]; exact (Z.out.alloc _).alloc _)
 replace BR : Hid (At2 W2 w.heap.size (.int .i64 m) (.slice a n cap)) := Lib.hid (by rw [hW2]; exact ((BR.out.alloc _).alloc _).alloc _)
 replace BL : Hid (Below w.heap.size w W2) := Lib.hid (by rw [hW2]; exact ((BL.out.alloc BL.out.size _).alloc (by simp; have := BL.out.size; omega) _).alloc (by simp; have := BL.out.size; omega) _)
 have HS1 := Lib.hid hs1
 have HS2 := Lib.hid hs2
 have HW2 := Lib.hid hW2
 clear hW1 hW2 hs1 hs2
 gi_wp2_with
  (first
   | (
     gi_at_make
     rw [← HW1.out, ← HW2.out]
     refine listIn_make_full W2 rfl _ _ 26 rfl (w.heap.size + 1 + 1 + 1 + 1) 77 i0 _ 8 Try.underlying26 hi hz0 hz1 .i64 .i64 _ _ n rfl rfl rfl rfl (by rw [hz2]; omega) (by unfold maxLen; omega) (by rw [HS2.out]; exact Nat.le_refl _) ?_
     rw [HS2.out]
     intro w1 hown hgrow
     have hown1 := own_madeA hown
     have hb := Below.ofGrown hgrow
     have hlt9 : w.heap.size + 1 + 1 + 1 + 1 < w1.heap.size := (World.ownsRow.lt hown _ rfl).2
     have RW := Lib.hid (hown1.alloc (.cells #[.slice (some ⟨w.heap.size + 1 + 1 + 1 + 1, 0, none⟩) n n] 26))
     replace SN := Lib.hid ((SN.out.below hb).alloc (.cells #[.slice (some ⟨w.heap.size + 1 + 1 + 1 + 1, 0, none⟩) n n] 26))
     replace SP := Lib.hid ((SP.out.below hb).alloc (.cells #[.slice (some ⟨w.heap.size + 1 + 1 + 1 + 1, 0, none⟩) n n] 26))
     replace Z := Lib.hid ((Z.out.below hb).alloc (.cells #[.slice (some ⟨w.heap.size + 1 + 1 + 1 + 1, 0, none⟩) n n] 26))
     replace BR := Lib.hid ((BR.out.below hb).alloc (.cells #[.slice (some ⟨w.heap.size + 1 + 1 + 1 + 1, 0, none⟩) n n] 26))
     replace BL := Lib.hid (((below_go BL.out hb (by rw [HS2.out]; omega))).alloc (by omega) (.cells #[.slice (some ⟨w.heap.size + 1 + 1 + 1 + 1, 0, none⟩) n n] 26))
     have SS := Lib.hid (At1.place w1 (.slice (some ⟨w.heap.size + 1 + 1 + 1 + 1, 0, none⟩) n n) 26 w1.heap.size rfl)
     clear hown hgrow hown1 hb HW1 HW2 HS1 HS2
     obtain ⟨q0, q1, q2, q3, q4⟩ := BR.out)
   | (
     refine ⟨trivial, ?_⟩
     gi_at_call 73
     refine (back_in _ _ trivial rfl _ _ _ _).mono ?_
     rintro e2 w' ⟨rfl, rfl⟩))
 have BX := Lib.hid (At1.place (w1.alloc (.cells #[.slice (some ⟨w.heap.size + 1 + 1 + 1 + 1, 0, none⟩) n n] 26)) (.slice a n cap) 35 (w1.heap.size + 1) (by simp))
 have HF := Lib.hid (show AtNof w (w1.heap.size + 1 + 1) m n w1.heap.size (foldB m n []) ((w1.alloc (.cells #[.slice (some ⟨w.heap.size + 1 + 1 + 1 + 1, 0, none⟩) n n] 26)).alloc (.cells #[.slice a n cap] 35)) from ⟨SN.out.alloc _, SP.out.alloc _, SS.out.alloc _, RW.out.alloc _, Z.out.alloc _, BL.out.alloc BL.out.size _, by simp⟩)
 obtain ⟨b, off, ha, hbl, hcl⟩ : ∃ b off, (n = 0 ∨ a = some ⟨b, off, none⟩) ∧ b ≤ w.heap.size ∧ ∀ k, k < n → (w1.alloc (.cells #[.slice (some ⟨w.heap.size + 1 + 1 + 1 + 1, 0, none⟩) n n] 26) |>.alloc (.cells #[.slice a n cap] 35)).cell? ⟨b, off + k, none⟩ = some (.int .i64 (xs.getD k 0)) := by
  rcases R.out.2 with h | ⟨b, off, ha, hc⟩
  ·exact ⟨0, 0, .inl h, Nat.zero_le _, fun k hk => by omega⟩
  ·rcases Nat.eq_zero_or_pos n with h0 | h0
   ·exact ⟨0, 0, .inl h0, Nat.zero_le _, fun k hk => by omega⟩
   ·have hbw : b < w.heap.size := World.block_lt_of_cell? _ _ (hc 0 h0)
    exact ⟨b, off, .inr ha, by omega, fun k hk => (HF.out.kb.cell (p := ⟨b, off + k, none⟩) hbw).trans (hc k hk)⟩
 obtain ⟨zs, hz, hzi, hzf⟩ : ∃ zs : List (Let m n), zs.length = n ∧ (∀ k (h : k < zs.length), zs[k].1.1 = n - 1 - k ∧ zs[k].1.2 = xs.getD (n - 1 - k) 0) ∧ foldB m n zs = (-(negs xs : Int), rawB m xs) := by
  have h := HN.out
  subst h
  exact ⟨backL xs HX.out, backL_len _ _, fun k h => backL_at xs HX.out k h, foldB_all xs HX.out⟩
 have hsz : ((w1.alloc (.cells #[.slice (some ⟨w.heap.size + 1 + 1 + 1 + 1, 0, none⟩) n n] 26)).alloc (.cells #[.slice a n cap] 35)).heap.size = w1.heap.size + 1 + 1 := by simp
 refine wpIn_rangeFunc_ownF rfl (by omega) (gf := 107) (lb := #[.pointer (some ⟨w1.heap.size + 1, 0, none⟩)]) rfl trivial (enters_of Try.func107 (by kernel_rfl) rfl)
  (back_stops (α := Let m n) (fun x => x.1.1) (fun x => x.1.2) Fence.wide _ trivial rfl (by omega) (w1.heap.size + 1) b off n cap a ha zs hz hn (fun k h => (hzi k h).1) _ (by rw [hsz]; omega) (.inr (by rw [hsz]; omega)) BX.out.2.1 (fun k h => by rw [(hzi k h).2]; exact hcl _ (by omega))) Keeps2.trans (keeps2_b (by rw [hsz]; omega) (by rw [hsz]; omega)) (Below.refl _ _) (fun _ => rfl)
  (fun pre W => AtNof w (w1.heap.size + 1 + 1) m n w1.heap.size (foldB m n pre) W)
  (fun _ _ _ => False)
  (fun s A B row hs hg hr => AtNof.kept hs hg (fun r e => by have h := (hr r e).1; rw [hsz] at h; exact h) (by omega) (by omega))
  (fun _ _ _ _ _ hs _ _ => hs)
  HF.out
  (fun x => { tmps := #[.agg #[.int .i64 m, .slice a n cap], .pointer (some ⟨w.heap.size, 0, none⟩), .pointer (some ⟨w.heap.size + 1, 0, none⟩), .pointer (some ⟨w.heap.size + 1 + 1, 0, none⟩), .pointer (some ⟨w.heap.size + 1 + 1 + 1, 0, none⟩), .pointer (some ⟨w1.heap.size, 0, none⟩), .int .i64 (x.1.1 : Int), .int .i64 x.1.2, undef, undef, undef, undef, undef, .pointer (some ⟨w.heap.size, 0, none⟩), .int .i64 m, .pointer (some ⟨w.heap.size, 1, none⟩), .slice a n cap, .int .i64 n, .slice (some ⟨w.heap.size + 1 + 1 + 1 + 1, 0, none⟩) n n, .pointer (some ⟨w.heap.size, 1, none⟩), .slice a n cap, .func (.func 107) #[] #[.pointer (some ⟨w1.heap.size + 1, 0, none⟩)], .int .i64 (x.1.1 : Int), .int .i64 x.1.2, undef, undef, undef, undef, undef, undef, undef, undef, undef, undef, undef, undef, undef, undef, undef, undef, undef, undef, undef, undef, undef, undef, undef, undef, undef, undef, undef, undef, undef, undef, undef, undef, undef, undef, undef], defers := [] }) ?assign ?body ?done ?stop
 case assign =>
  intro l x W K hK
  gi_wp2
  exact hK
 case body =>
  rintro l pre ⟨⟨i, v⟩, hil, hv0, hv1, hv2⟩ W0 hI hlt
  dsimp only at hil hv0 hv1 hv2
  obtain ⟨p0, p1, p2⟩ := hI.sp
  obtain ⟨n0, n1, n2⟩ := hI.sn
  obtain ⟨s0, s1, s2⟩ := hI.ss
  have G := Lib.hid hI
  have hbd := foldB_bd pre
  have hpl : pre.length ≤ 1000 := by omega
  obtain ⟨st, hst⟩ : ∃ st, st = foldB m n pre := ⟨_, rfl⟩
  rw [← hst] at hbd
  obtain ⟨hbd1, hbd2⟩ := hbd
  have hbd3 : -1000 ≤ st.1 := by omega
  clear hbd1 hpl
  rw [← hst] at p1 G
  have HST := Lib.hid hst
  clear hst
  have SP := Lib.hid (fun (X : World) (h : Below W0.heap.size W0 X) => (G.out.sp.below h).2.1)
  have SS := Lib.hid (fun (X : World) (h : Below W0.heap.size W0 X) => (G.out.ss.below h).2.1)
  have hgs : w.heap.size + 1 + 1 + 1 + 1 < w1.heap.size := by omega
  have HBX : Hid (b ≤ w.heap.size) := Lib.hid hbl
  have HSQ : Hid (w1.heap.size + 1 + 1 ≤ W0.heap.size) := Lib.hid G.out.hi
  have hil2 : (i : Int) < (n : Int) := by omega
  have hmx : Try.prog.follows .mixedOrders = true := by kernel_rfl
  by_cases hpos : 0 < v
  ·obtain ⟨k, rfl⟩ : ∃ k : Nat, v = (k : Int) + 1 := ⟨(v - 1).toNat, by omega⟩
   have hk : k + 1 < m := by omega
   gi_wp2
   have KB : Hid (Below W0.heap.size W0 W0.drew) := Lib.hid (Below.refl W0.heap.size W0).drew
   have SH : Hid (∀ X, Below W0.heap.size W0 X → X.cell? ⟨w.heap.size + 1 + 1, 0, none⟩ = some (.int .i64 m)) := Lib.hid fun X h => (G.out.sn.below h).2.1
   clear p0 p1 p2 n0 n1 n2 s0 s1 s2
   refine round_region_held (S := (fun w' => w'.cell? ⟨w.heap.size + 1 + 1, 0, none⟩ = some (.int .i64 m))) (by kernel_rfl) (by kernel_rfl) (by rintro ⟨_, _, h⟩; exact h) ?_ (fun hHeld => ?_)
   ·with_reducible exact SH.out _ KB.out
   refine wpAnyH_take (i := 0) (oi := { dst := some 25, op := Op.move (Operand.tmp 8), type := 100, pos := "l03_normal.go:137", after := #[], guard := none }) (v := ?_) rfl (by kernel_rfl) (by kernel_rfl) (by kernel_rfl) (fun _ _ _ h => h) (Or.inl ⟨by rfl, ?_⟩) (by assumption) ?_
   rotate_left
   ·intro w hSw
    (try dsimp only at hSw)
    go_simp
    try with_reducible rfl
   try simp only [Act.put, List.setIfInBounds_toArray, List.set_cons_zero, List.set_cons_succ]
   refine wpAnyH_take (i := 2) (oi := { dst := some 27, op := Op.load 2 (Operand.tmp 3), type := 2, pos := "l03_normal.go:137", after := #[], guard := none }) (v := ?_) rfl (by kernel_rfl) (by kernel_rfl) (by kernel_rfl) (fun _ _ _ h => h) (Or.inl ⟨by rfl, ?_⟩) (by assumption) ?_
   rotate_left
   ·intro w hSw
    (try dsimp only at hSw)
    go_simp
    try with_reducible rfl
   try simp only [Act.put, List.setIfInBounds_toArray, List.set_cons_zero, List.set_cons_succ]
   refine wpAnyH_ready (rs := [1, 4]) (by kernel_rfl) (by simp) ?_
   refine AllReadyH.cons (o := { dst := some 26, op := Op.call { callee := Callee.value (Operand.func 75), args := #[Operand.tmp 25], argTypes := #[100] }, type := 2, pos := "l03_normal.go:137", after := #[{ on := 0, ground := Ground.data }], guard := none }) rfl (fun K hK => ?_) ?_
   ·go_simp
    refine (index_pos k _ (by omega)).mono ?_
    rintro e3 w3 ⟨rfl, rfl⟩
    go_wp2_with fail
    refine hK.out _ _ ?_ (fun hHeld => ?_)
    ·with_reducible exact SH.out _ KB.out
    clear hK K
    try simp only [Act.put, List.setIfInBounds_toArray, List.set_cons_zero, List.set_cons_succ]
    refine wpAnyH_ready (rs := [3, 4]) (by kernel_rfl) (by simp) ?_
    refine AllReadyH.cons (o := { dst := some 28, op := Op.call { callee := Callee.value (Operand.func 74), args := #[Operand.tmp 26, Operand.tmp 27], argTypes := #[2, 2] }, type := 77, pos := "l03_normal.go:137", after := #[{ on := 1, ground := Ground.data }, { on := 2, ground := Ground.data }, { on := 1, ground := Ground.chain }], guard := none }) rfl (fun K hK => ?_) ?_
    ·go_simp
     refine (exchange_any m k m8 hk _).mono ?_
     rintro e4 w4 ⟨rfl, gg⟩
     replace KB := Lib.hid (below_go KB.out gg KB.out.size)
     clear gg
     go_wp2_with fail
     refine hK.out _ _ ?_ (fun hHeld => ?_)
     ·with_reducible exact SH.out _ KB.out
     clear hK K
     try simp only [Act.put, List.setIfInBounds_toArray, List.set_cons_zero, List.set_cons_succ]
     refine wpAnyH_ready (rs := [4]) (by kernel_rfl) (by simp) ?_
     refine AllReadyH.cons (o := { dst := some 9, op := Op.alloc 77, type := 0, pos := "l03_normal.go:137", after := #[], guard := none }) rfl (fun K hK => ?_) ?_
     ·go_simp
      have KP := Lib.hid KB.out
      have SB : Hid (Row8 (w4.alloc (.cells #[.int .u8 0, .int .u8 0, .int .u8 0, .int .u8 0, .int .u8 0, .int .u8 0, .int .u8 0, .int .u8 0] 77)) (w4.heap.size) .u8 [0, 0, 0, 0, 0, 0, 0, 0]) := Lib.hid ((Row8.zeros w4 .u8 77 (w4.heap.size) (by simp)))
      have zG : Hid (W0.heap.size ≤ w4.heap.size) := Lib.hid (KB.out.size)
      replace KB : Hid (Below W0.heap.size W0 (w4.alloc (.cells #[.int .u8 0, .int .u8 0, .int .u8 0, .int .u8 0, .int .u8 0, .int .u8 0, .int .u8 0, .int .u8 0] 77))) := Lib.hid (KB.out.alloc KB.out.size (.cells #[.int .u8 0, .int .u8 0, .int .u8 0, .int .u8 0, .int .u8 0, .int .u8 0, .int .u8 0, .int .u8 0] 77))
      refine hK.out _ _ ?_ (fun hHeld => ?_)
      ·with_reducible exact SH.out _ KB.out
      clear hK K
      try simp only [Act.put, List.setIfInBounds_toArray, List.set_cons_zero, List.set_cons_succ]
      refine wpAnyH_ready (rs := [5]) (by kernel_rfl) (by simp) ?_
      refine AllReadyH.cons (o := { dst := none, op := Op.store 77 (Operand.tmp 9) (Operand.tmp 28), type := 0, pos := "l03_normal.go:137", after := #[{ on := 4, ground := Ground.data }, { on := 3, ground := Ground.data }, { on := 3, ground := Ground.chain }, { on := 0, ground := Ground.phase }, { on := 1, ground := Ground.phase }, { on := 2, ground := Ground.phase }, { on := 3, ground := Ground.phase }, { on := 4, ground := Ground.phase }], guard := none }) rfl (fun K hK => ?_) ?_
      ·obtain ⟨⟨d0, d1, d2, d3⟩, d4, d5, d6, d7⟩ := SB.out.all
       obtain ⟨⟨f0, f1, f2, f3⟩, f4, f5, f6, f7⟩ := SB.out.frees
       go_simp
       replace SB : Hid (Row8 (w4.alloc (.cells #[.int .u8 (at8 (exR m k) 0), .int .u8 (at8 (exR m k) 1), .int .u8 (at8 (exR m k) 2), .int .u8 (at8 (exR m k) 3), .int .u8 (at8 (exR m k) 4), .int .u8 (at8 (exR m k) 5), .int .u8 (at8 (exR m k) 6), .int .u8 (at8 (exR m k) 7)] 77)) (w4.heap.size) .u8 (exR m k)) := Lib.hid (Row8.place w4 .u8 (exR m k) 77 (w4.heap.size) rfl (exR_sim m k m8 hk).len)
       replace KB : Hid (Below W0.heap.size W0 (w4.alloc (.cells #[.int .u8 (at8 (exR m k) 0), .int .u8 (at8 (exR m k) 1), .int .u8 (at8 (exR m k) 2), .int .u8 (at8 (exR m k) 3), .int .u8 (at8 (exR m k) 4), .int .u8 (at8 (exR m k) 5), .int .u8 (at8 (exR m k) 6), .int .u8 (at8 (exR m k) 7)] 77))) := Lib.hid (KP.out.alloc KP.out.size (.cells #[.int .u8 (at8 (exR m k) 0), .int .u8 (at8 (exR m k) 1), .int .u8 (at8 (exR m k) 2), .int .u8 (at8 (exR m k) 3), .int .u8 (at8 (exR m k) 4), .int .u8 (at8 (exR m k) 5), .int .u8 (at8 (exR m k) 6), .int .u8 (at8 (exR m k) 7)] 77))
       clear d0 d1 d2 d3 d4 d5 d6 d7 f0 f1 f2 f3 f4 f5 f6 f7
       clear KP
       obtain ⟨V9, hV9⟩ : ∃ V, V = (w4.alloc (.cells #[.int .u8 (at8 (exR m k) 0), .int .u8 (at8 (exR m k) 1), .int .u8 (at8 (exR m k) 2), .int .u8 (at8 (exR m k) 3), .int .u8 (at8 (exR m k) 4), .int .u8 (at8 (exR m k) 5), .int .u8 (at8 (exR m k) 6), .int .u8 (at8 (exR m k) 7)] 77)) := ⟨_, rfl⟩
       rw [← hV9] at SB KB ⊢
       clear hV9
       refine hK.out _ _ ?_ (fun hHeld => ?_)
       ·with_reducible exact SH.out _ KB.out
       clear hK K
       try simp only [Act.put, List.setIfInBounds_toArray, List.set_cons_zero, List.set_cons_succ]
       refine wpAnyH_done (by kernel_rfl) ?_ _
       gi_wp2
       replace KB := Lib.hid KB.out.drew
       replace SB := Lib.hid SB.out.drew
       refine round_region_held (S := (fun w' => w'.cell? ⟨w.heap.size + 1 + 1, 0, none⟩ = some (.int .i64 m) ∧ w'.cell? ⟨w.heap.size + 1 + 1 + 1, 0, none⟩ = some (.int .i64 st.1) ∧ w'.cell? ⟨w1.heap.size, 0, none⟩ = some (.slice (some ⟨w.heap.size + 1 + 1 + 1 + 1, 0, none⟩) n n) ∧ (w'.cell? ⟨w4.heap.size, 0, none⟩ = some (.int .u8 (at8 (exR m k) 0)) ∧ w'.cell? ⟨w4.heap.size, 1, none⟩ = some (.int .u8 (at8 (exR m k) 1)) ∧ w'.cell? ⟨w4.heap.size, 2, none⟩ = some (.int .u8 (at8 (exR m k) 2)) ∧ w'.cell? ⟨w4.heap.size, 3, none⟩ = some (.int .u8 (at8 (exR m k) 3)) ∧ w'.cell? ⟨w4.heap.size, 4, none⟩ = some (.int .u8 (at8 (exR m k) 4)) ∧ w'.cell? ⟨w4.heap.size, 5, none⟩ = some (.int .u8 (at8 (exR m k) 5)) ∧ w'.cell? ⟨w4.heap.size, 6, none⟩ = some (.int .u8 (at8 (exR m k) 6)) ∧ w'.cell? ⟨w4.heap.size, 7, none⟩ = some (.int .u8 (at8 (exR m k) 7))))) (by kernel_rfl) (by kernel_rfl) (by rintro ⟨_, _, h⟩; exact h) ?_ (fun hHeld => ?_)
       ·first | with_reducible exact ⟨SH.out _ KB.out, SP.out _ KB.out, SS.out _ KB.out, SB.out.flat⟩ | exact ⟨G3.out.sn.2.1, G3.out.sp.2.1, G3.out.ss.2.1, SB.out.flat⟩
       refine wpAnyH_take (i := 0) (oi := { dst := some 34, op := Op.load 26 (Operand.tmp 5), type := 26, pos := "l03_normal.go:141", after := #[], guard := none }) (v := ?_) rfl (by kernel_rfl) (by kernel_rfl) (by kernel_rfl) (fun _ _ _ h => h) (Or.inl ⟨by rfl, ?_⟩) (by assumption) ?_
       rotate_left
       ·intro w hSw
        (try dsimp only at hSw)
        go_simp
        try with_reducible rfl
       try simp only [Act.put, List.setIfInBounds_toArray, List.set_cons_zero, List.set_cons_succ]
       refine wpAnyH_take (i := 1) (oi := { dst := some 35, op := Op.move (Operand.tmp 6), type := 3, pos := "l03_normal.go:141", after := #[], guard := none }) (v := ?_) rfl (by kernel_rfl) (by kernel_rfl) (by kernel_rfl) (fun _ _ _ h => h) (Or.inl ⟨by rfl, ?_⟩) (by assumption) ?_
       rotate_left
       ·intro w hSw
        (try dsimp only at hSw)
        go_simp
        try with_reducible rfl
       try simp only [Act.put, List.setIfInBounds_toArray, List.set_cons_zero, List.set_cons_succ]
       refine wpAnyH_take (i := 2) (oi := { dst := some 36, op := Op.load 77 (Operand.tmp 9), type := 77, pos := "l03_normal.go:141", after := #[], guard := none }) (v := ?_) rfl (by kernel_rfl) (by kernel_rfl) (by kernel_rfl) (fun _ _ _ h => h) (Or.inl ⟨by rfl, ?_⟩) (by assumption) ?_
       rotate_left
       ·intro w hSw
        (try dsimp only at hSw)
        go_simp
        try with_reducible rfl
       try simp only [Act.put, List.setIfInBounds_toArray, List.set_cons_zero, List.set_cons_succ]
       refine wpAnyH_take (i := 3) (oi := { dst := some 37, op := Op.load 2 (Operand.tmp 4), type := 2, pos := "l03_normal.go:141", after := #[], guard := none }) (v := ?_) rfl (by kernel_rfl) (by kernel_rfl) (by kernel_rfl) (fun _ _ _ h => h) (Or.inl ⟨by rfl, ?_⟩) (by assumption) ?_
       rotate_left
       ·intro w hSw
        (try dsimp only at hSw)
        go_simp
        try with_reducible rfl
       try simp only [Act.put, List.setIfInBounds_toArray, List.set_cons_zero, List.set_cons_succ]
       refine wpAnyH_take (i := 4) (oi := { dst := some 38, op := Op.load 2 (Operand.tmp 3), type := 2, pos := "l03_normal.go:141", after := #[], guard := none }) (v := ?_) rfl (by kernel_rfl) (by kernel_rfl) (by kernel_rfl) (fun _ _ _ h => h) (Or.inl ⟨by rfl, ?_⟩) (by assumption) ?_
       rotate_left
       ·intro w hSw
        (try dsimp only at hSw)
        go_simp
        try with_reducible rfl
       try simp only [Act.put, List.setIfInBounds_toArray, List.set_cons_zero, List.set_cons_succ]
       refine wpAnyH_ready (rs := [5]) (by kernel_rfl) (by simp) ?_
       refine AllReadyH.cons (o := { dst := some 39, op := Op.call { callee := Callee.value (Operand.func 66), args := #[Operand.tmp 36, Operand.tmp 37, Operand.tmp 38], argTypes := #[77, 2, 2] }, type := 77, pos := "l03_normal.go:141", after := #[{ on := 2, ground := Ground.data }, { on := 3, ground := Ground.data }, { on := 4, ground := Ground.data }], guard := none }) rfl (fun K hK => ?_) ?_
       ·go_simp
        refine (turned_any m st.1 (exR m k) (exR_sim m k m8 hk) _).mono ?_
        rintro e6 w6 ⟨rfl, gg⟩
        replace SB := Lib.hid (SB.out.below gg)
        replace KB := Lib.hid (below_go KB.out gg KB.out.size)
        clear gg
        go_wp2_with fail
        refine hK.out _ _ ?_ (fun hHeld => ?_)
        ·first | with_reducible exact ⟨SH.out _ KB.out, SP.out _ KB.out, SS.out _ KB.out, SB.out.flat⟩ | exact ⟨G3.out.sn.2.1, G3.out.sp.2.1, G3.out.ss.2.1, SB.out.flat⟩
        clear hK K
        try simp only [Act.put, List.setIfInBounds_toArray, List.set_cons_zero, List.set_cons_succ]
        refine wpAnyH_ready (rs := [6]) (by kernel_rfl) (by simp) ?_
        refine AllReadyH.cons (o := { dst := some 40, op := Op.indexAddr 26 (Operand.tmp 34) (Operand.tmp 35), type := 0, pos := "l03_normal.go:141", after := #[{ on := 0, ground := Ground.data }, { on := 1, ground := Ground.data }, { on := 0, ground := Ground.phase }, { on := 1, ground := Ground.phase }, { on := 2, ground := Ground.phase }, { on := 3, ground := Ground.phase }, { on := 4, ground := Ground.phase }, { on := 5, ground := Ground.phase }], guard := none }) rfl (fun K hK => ?_) ?_
        ·go_simp
         refine hK.out _ _ ?_ (fun hHeld => ?_)
         ·first | with_reducible exact ⟨SH.out _ KB.out, SP.out _ KB.out, SS.out _ KB.out, SB.out.flat⟩ | exact ⟨G3.out.sn.2.1, G3.out.sp.2.1, G3.out.ss.2.1, SB.out.flat⟩
         clear hK K
         try simp only [Act.put, List.setIfInBounds_toArray, List.set_cons_zero, List.set_cons_succ]
         refine wpAnyH_ready (rs := [7]) (by kernel_rfl) (by simp) ?_
         refine AllReadyH.cons (o := { dst := none, op := Op.store 77 (Operand.tmp 40) (Operand.tmp 39), type := 0, pos := "l03_normal.go:141", after := #[{ on := 6, ground := Ground.data }, { on := 5, ground := Ground.data }, { on := 5, ground := Ground.chain }, { on := 0, ground := Ground.phase }, { on := 1, ground := Ground.phase }, { on := 2, ground := Ground.phase }, { on := 3, ground := Ground.phase }, { on := 4, ground := Ground.phase }, { on := 5, ground := Ground.phase }], guard := none }) rfl (fun K hK => ?_) ?_
         ·have G2 := Lib.hid (G.out.below KB.out)
          obtain ⟨d0, d1, d2, d3, d4, d5, d6, d7⟩ := (G2.out.rw'.cellAt i hil).flat
          have f0 := G2.out.rw'.frozenAt (i * 8)
          have f1 := G2.out.rw'.frozenAt (i * 8 + 1)
          have f2 := G2.out.rw'.frozenAt (i * 8 + 2)
          have f3 := G2.out.rw'.frozenAt (i * 8 + 3)
          have f4 := G2.out.rw'.frozenAt (i * 8 + 4)
          have f5 := G2.out.rw'.frozenAt (i * 8 + 5)
          have f6 := G2.out.rw'.frozenAt (i * 8 + 6)
          have f7 := G2.out.rw'.frozenAt (i * 8 + 7)
          go_simp
          have G3 := Lib.hid (G2.out.row hgs i hil (turnK m st.1 (exR m k)) ((turnK_sim st.1 (exR_sim m k m8 hk)).len))
          replace SB := Lib.hid (SB.out.pastAt (w.heap.size + 1 + 1 + 1 + 1) (i * 8) (by have := zG.out; have := HSQ.out; omega) (.int .u8 (at8 (turnK m st.1 (exR m k)) 0)) (.int .u8 (at8 (turnK m st.1 (exR m k)) 1)) (.int .u8 (at8 (turnK m st.1 (exR m k)) 2)) (.int .u8 (at8 (turnK m st.1 (exR m k)) 3)) (.int .u8 (at8 (turnK m st.1 (exR m k)) 4)) (.int .u8 (at8 (turnK m st.1 (exR m k)) 5)) (.int .u8 (at8 (turnK m st.1 (exR m k)) 6)) (.int .u8 (at8 (turnK m st.1 (exR m k)) 7)))
          clear d0 d1 d2 d3 d4 d5 d6 d7 f0 f1 f2 f3 f4 f5 f6 f7
          refine hK.out _ _ ?_ (fun hHeld => ?_)
          ·first | with_reducible exact ⟨SH.out _ KB.out, SP.out _ KB.out, SS.out _ KB.out, SB.out.flat⟩ | exact ⟨G3.out.sn.2.1, G3.out.sp.2.1, G3.out.ss.2.1, SB.out.flat⟩
          clear hK K
          try simp only [Act.put, List.setIfInBounds_toArray, List.set_cons_zero, List.set_cons_succ]
          refine wpAnyH_done (by kernel_rfl) ?_ _
          gi_wp2
          have hb9 := HBX.out
          have hsq := HSQ.out
          refine And.intro ?_ (And.intro ?_ ?_)
          ·exact (keepsOthers_set8 (keepsOthers_of KB.out) (w.heap.size + 1 + 1 + 1 + 1) (i * 8) (turnK m st.1 (exR m k)))
          ·exact ((Keeps2.of KB.out (by omega) (by omega)).set8 (w.heap.size + 1 + 1 + 1 + 1) (i * 8) (by omega) (by omega) (turnK m st.1 (exR m k)))
          show AtNof _ _ _ _ _ (foldB m n (pre ++ [_])) _
          rw [foldB_snoc, ← HST.out]
          have e9 : stepB m st i ((k : Int) + 1) = (st.1, st.2.set i (turnK m st.1 (exR m k))) := by unfold stepB baseR; rw [if_neg (by omega), if_pos (by omega), show ((k : Int) + 1 - 1).toNat = k by omega]
          dsimp only
          rw [e9]
          exact G3.out
         exact AllReadyH.nil
        exact AllReadyH.nil
       exact AllReadyH.nil
      exact AllReadyH.nil
     exact AllReadyH.nil
    refine AllReadyH.cons (o := { dst := some 9, op := Op.alloc 77, type := 0, pos := "l03_normal.go:137", after := #[], guard := none }) rfl (fun K hK => ?_) ?_
    ·go_simp
     have KP := Lib.hid KB.out
     have SB : Hid (Row8 (W0.alloc (.cells #[.int .u8 0, .int .u8 0, .int .u8 0, .int .u8 0, .int .u8 0, .int .u8 0, .int .u8 0, .int .u8 0] 77)).drew (W0.heap.size) .u8 [0, 0, 0, 0, 0, 0, 0, 0]) := Lib.hid ((Row8.zeros W0 .u8 77 (W0.heap.size) (by simp)).drew)
     have zG : Hid (W0.heap.size ≤ W0.heap.size) := Lib.hid (KB.out.size)
     replace KB : Hid (Below W0.heap.size W0 (W0.alloc (.cells #[.int .u8 0, .int .u8 0, .int .u8 0, .int .u8 0, .int .u8 0, .int .u8 0, .int .u8 0, .int .u8 0] 77)).drew) := Lib.hid (KB.out.alloc KB.out.size (.cells #[.int .u8 0, .int .u8 0, .int .u8 0, .int .u8 0, .int .u8 0, .int .u8 0, .int .u8 0, .int .u8 0] 77))
     refine hK.out _ _ ?_ (fun hHeld => ?_)
     ·with_reducible exact SH.out _ KB.out
     clear hK K
     try simp only [Act.put, List.setIfInBounds_toArray, List.set_cons_zero, List.set_cons_succ]
     refine wpAnyH_ready (rs := [3]) (by kernel_rfl) (by simp) ?_
     refine AllReadyH.cons (o := { dst := some 28, op := Op.call { callee := Callee.value (Operand.func 74), args := #[Operand.tmp 26, Operand.tmp 27], argTypes := #[2, 2] }, type := 77, pos := "l03_normal.go:137", after := #[{ on := 1, ground := Ground.data }, { on := 2, ground := Ground.data }, { on := 1, ground := Ground.chain }], guard := none }) rfl (fun K hK => ?_) ?_
     ·go_simp
      refine (exchange_any m k m8 hk _).mono ?_
      rintro e4 w4 ⟨rfl, gg⟩
      replace SB := Lib.hid (SB.out.below gg)
      replace KB := Lib.hid (below_go KB.out gg KB.out.size)
      clear gg
      go_wp2_with fail
      refine hK.out _ _ ?_ (fun hHeld => ?_)
      ·with_reducible exact SH.out _ KB.out
      clear hK K
      try simp only [Act.put, List.setIfInBounds_toArray, List.set_cons_zero, List.set_cons_succ]
      refine wpAnyH_ready (rs := [5]) (by kernel_rfl) (by simp) ?_
      refine AllReadyH.cons (o := { dst := none, op := Op.store 77 (Operand.tmp 9) (Operand.tmp 28), type := 0, pos := "l03_normal.go:137", after := #[{ on := 4, ground := Ground.data }, { on := 3, ground := Ground.data }, { on := 3, ground := Ground.chain }, { on := 0, ground := Ground.phase }, { on := 1, ground := Ground.phase }, { on := 2, ground := Ground.phase }, { on := 3, ground := Ground.phase }, { on := 4, ground := Ground.phase }], guard := none }) rfl (fun K hK => ?_) ?_
      ·obtain ⟨⟨d0, d1, d2, d3⟩, d4, d5, d6, d7⟩ := SB.out.all
       obtain ⟨⟨f0, f1, f2, f3⟩, f4, f5, f6, f7⟩ := SB.out.frees
       go_simp
       replace SB := Lib.hid (SB.out.fill (exR m k) ((exR_sim m k m8 hk).len))
       replace KB := Lib.hid (below_fill8 KB.out _ zG.out (.int .u8 (at8 (exR m k) 0)) (.int .u8 (at8 (exR m k) 1)) (.int .u8 (at8 (exR m k) 2)) (.int .u8 (at8 (exR m k) 3)) (.int .u8 (at8 (exR m k) 4)) (.int .u8 (at8 (exR m k) 5)) (.int .u8 (at8 (exR m k) 6)) (.int .u8 (at8 (exR m k) 7)))
       clear d0 d1 d2 d3 d4 d5 d6 d7 f0 f1 f2 f3 f4 f5 f6 f7
       clear KP
       obtain ⟨V9, hV9⟩ : ∃ V, V = ((((((((w4.setCell ⟨W0.heap.size, 0, none⟩ (.int .u8 (at8 (exR m k) 0))).setCell ⟨W0.heap.size, 1, none⟩ (.int .u8 (at8 (exR m k) 1))).setCell ⟨W0.heap.size, 2, none⟩ (.int .u8 (at8 (exR m k) 2))).setCell ⟨W0.heap.size, 3, none⟩ (.int .u8 (at8 (exR m k) 3))).setCell ⟨W0.heap.size, 4, none⟩ (.int .u8 (at8 (exR m k) 4))).setCell ⟨W0.heap.size, 5, none⟩ (.int .u8 (at8 (exR m k) 5))).setCell ⟨W0.heap.size, 6, none⟩ (.int .u8 (at8 (exR m k) 6))).setCell ⟨W0.heap.size, 7, none⟩ (.int .u8 (at8 (exR m k) 7))) := ⟨_, rfl⟩
       rw [← hV9] at SB KB ⊢
       clear hV9
       refine hK.out _ _ ?_ (fun hHeld => ?_)
       ·with_reducible exact SH.out _ KB.out
       clear hK K
       try simp only [Act.put, List.setIfInBounds_toArray, List.set_cons_zero, List.set_cons_succ]
       refine wpAnyH_done (by kernel_rfl) ?_ _
       gi_wp2
       replace KB := Lib.hid KB.out.drew
       replace SB := Lib.hid SB.out.drew
       refine round_region_held (S := (fun w' => w'.cell? ⟨w.heap.size + 1 + 1, 0, none⟩ = some (.int .i64 m) ∧ w'.cell? ⟨w.heap.size + 1 + 1 + 1, 0, none⟩ = some (.int .i64 st.1) ∧ w'.cell? ⟨w1.heap.size, 0, none⟩ = some (.slice (some ⟨w.heap.size + 1 + 1 + 1 + 1, 0, none⟩) n n) ∧ (w'.cell? ⟨W0.heap.size, 0, none⟩ = some (.int .u8 (at8 (exR m k) 0)) ∧ w'.cell? ⟨W0.heap.size, 1, none⟩ = some (.int .u8 (at8 (exR m k) 1)) ∧ w'.cell? ⟨W0.heap.size, 2, none⟩ = some (.int .u8 (at8 (exR m k) 2)) ∧ w'.cell? ⟨W0.heap.size, 3, none⟩ = some (.int .u8 (at8 (exR m k) 3)) ∧ w'.cell? ⟨W0.heap.size, 4, none⟩ = some (.int .u8 (at8 (exR m k) 4)) ∧ w'.cell? ⟨W0.heap.size, 5, none⟩ = some (.int .u8 (at8 (exR m k) 5)) ∧ w'.cell? ⟨W0.heap.size, 6, none⟩ = some (.int .u8 (at8 (exR m k) 6)) ∧ w'.cell? ⟨W0.heap.size, 7, none⟩ = some (.int .u8 (at8 (exR m k) 7))))) (by kernel_rfl) (by kernel_rfl) (by rintro ⟨_, _, h⟩; exact h) ?_ (fun hHeld => ?_)
       ·first | with_reducible exact ⟨SH.out _ KB.out, SP.out _ KB.out, SS.out _ KB.out, SB.out.flat⟩ | exact ⟨G3.out.sn.2.1, G3.out.sp.2.1, G3.out.ss.2.1, SB.out.flat⟩
       refine wpAnyH_take (i := 0) (oi := { dst := some 34, op := Op.load 26 (Operand.tmp 5), type := 26, pos := "l03_normal.go:141", after := #[], guard := none }) (v := ?_) rfl (by kernel_rfl) (by kernel_rfl) (by kernel_rfl) (fun _ _ _ h => h) (Or.inl ⟨by rfl, ?_⟩) (by assumption) ?_
       rotate_left
       ·intro w hSw
        (try dsimp only at hSw)
        go_simp
        try with_reducible rfl
       try simp only [Act.put, List.setIfInBounds_toArray, List.set_cons_zero, List.set_cons_succ]
       refine wpAnyH_take (i := 1) (oi := { dst := some 35, op := Op.move (Operand.tmp 6), type := 3, pos := "l03_normal.go:141", after := #[], guard := none }) (v := ?_) rfl (by kernel_rfl) (by kernel_rfl) (by kernel_rfl) (fun _ _ _ h => h) (Or.inl ⟨by rfl, ?_⟩) (by assumption) ?_
       rotate_left
       ·intro w hSw
        (try dsimp only at hSw)
        go_simp
        try with_reducible rfl
       try simp only [Act.put, List.setIfInBounds_toArray, List.set_cons_zero, List.set_cons_succ]
       refine wpAnyH_take (i := 2) (oi := { dst := some 36, op := Op.load 77 (Operand.tmp 9), type := 77, pos := "l03_normal.go:141", after := #[], guard := none }) (v := ?_) rfl (by kernel_rfl) (by kernel_rfl) (by kernel_rfl) (fun _ _ _ h => h) (Or.inl ⟨by rfl, ?_⟩) (by assumption) ?_
       rotate_left
       ·intro w hSw
        (try dsimp only at hSw)
        go_simp
        try with_reducible rfl
       try simp only [Act.put, List.setIfInBounds_toArray, List.set_cons_zero, List.set_cons_succ]
       refine wpAnyH_take (i := 3) (oi := { dst := some 37, op := Op.load 2 (Operand.tmp 4), type := 2, pos := "l03_normal.go:141", after := #[], guard := none }) (v := ?_) rfl (by kernel_rfl) (by kernel_rfl) (by kernel_rfl) (fun _ _ _ h => h) (Or.inl ⟨by rfl, ?_⟩) (by assumption) ?_
       rotate_left
       ·intro w hSw
        (try dsimp only at hSw)
        go_simp
        try with_reducible rfl
       try simp only [Act.put, List.setIfInBounds_toArray, List.set_cons_zero, List.set_cons_succ]
       refine wpAnyH_take (i := 4) (oi := { dst := some 38, op := Op.load 2 (Operand.tmp 3), type := 2, pos := "l03_normal.go:141", after := #[], guard := none }) (v := ?_) rfl (by kernel_rfl) (by kernel_rfl) (by kernel_rfl) (fun _ _ _ h => h) (Or.inl ⟨by rfl, ?_⟩) (by assumption) ?_
       rotate_left
       ·intro w hSw
        (try dsimp only at hSw)
        go_simp
        try with_reducible rfl
       try simp only [Act.put, List.setIfInBounds_toArray, List.set_cons_zero, List.set_cons_succ]
       refine wpAnyH_ready (rs := [5]) (by kernel_rfl) (by simp) ?_
       refine AllReadyH.cons (o := { dst := some 39, op := Op.call { callee := Callee.value (Operand.func 66), args := #[Operand.tmp 36, Operand.tmp 37, Operand.tmp 38], argTypes := #[77, 2, 2] }, type := 77, pos := "l03_normal.go:141", after := #[{ on := 2, ground := Ground.data }, { on := 3, ground := Ground.data }, { on := 4, ground := Ground.data }], guard := none }) rfl (fun K hK => ?_) ?_
       ·go_simp
        refine (turned_any m st.1 (exR m k) (exR_sim m k m8 hk) _).mono ?_
        rintro e6 w6 ⟨rfl, gg⟩
        replace SB := Lib.hid (SB.out.below gg)
        replace KB := Lib.hid (below_go KB.out gg KB.out.size)
        clear gg
        go_wp2_with fail
        refine hK.out _ _ ?_ (fun hHeld => ?_)
        ·first | with_reducible exact ⟨SH.out _ KB.out, SP.out _ KB.out, SS.out _ KB.out, SB.out.flat⟩ | exact ⟨G3.out.sn.2.1, G3.out.sp.2.1, G3.out.ss.2.1, SB.out.flat⟩
        clear hK K
        try simp only [Act.put, List.setIfInBounds_toArray, List.set_cons_zero, List.set_cons_succ]
        refine wpAnyH_ready (rs := [6]) (by kernel_rfl) (by simp) ?_
        refine AllReadyH.cons (o := { dst := some 40, op := Op.indexAddr 26 (Operand.tmp 34) (Operand.tmp 35), type := 0, pos := "l03_normal.go:141", after := #[{ on := 0, ground := Ground.data }, { on := 1, ground := Ground.data }, { on := 0, ground := Ground.phase }, { on := 1, ground := Ground.phase }, { on := 2, ground := Ground.phase }, { on := 3, ground := Ground.phase }, { on := 4, ground := Ground.phase }, { on := 5, ground := Ground.phase }], guard := none }) rfl (fun K hK => ?_) ?_
        ·go_simp
         refine hK.out _ _ ?_ (fun hHeld => ?_)
         ·first | with_reducible exact ⟨SH.out _ KB.out, SP.out _ KB.out, SS.out _ KB.out, SB.out.flat⟩ | exact ⟨G3.out.sn.2.1, G3.out.sp.2.1, G3.out.ss.2.1, SB.out.flat⟩
         clear hK K
         try simp only [Act.put, List.setIfInBounds_toArray, List.set_cons_zero, List.set_cons_succ]
         refine wpAnyH_ready (rs := [7]) (by kernel_rfl) (by simp) ?_
         refine AllReadyH.cons (o := { dst := none, op := Op.store 77 (Operand.tmp 40) (Operand.tmp 39), type := 0, pos := "l03_normal.go:141", after := #[{ on := 6, ground := Ground.data }, { on := 5, ground := Ground.data }, { on := 5, ground := Ground.chain }, { on := 0, ground := Ground.phase }, { on := 1, ground := Ground.phase }, { on := 2, ground := Ground.phase }, { on := 3, ground := Ground.phase }, { on := 4, ground := Ground.phase }, { on := 5, ground := Ground.phase }], guard := none }) rfl (fun K hK => ?_) ?_
         ·have G2 := Lib.hid (G.out.below KB.out)
          obtain ⟨d0, d1, d2, d3, d4, d5, d6, d7⟩ := (G2.out.rw'.cellAt i hil).flat
          have f0 := G2.out.rw'.frozenAt (i * 8)
          have f1 := G2.out.rw'.frozenAt (i * 8 + 1)
          have f2 := G2.out.rw'.frozenAt (i * 8 + 2)
          have f3 := G2.out.rw'.frozenAt (i * 8 + 3)
          have f4 := G2.out.rw'.frozenAt (i * 8 + 4)
          have f5 := G2.out.rw'.frozenAt (i * 8 + 5)
          have f6 := G2.out.rw'.frozenAt (i * 8 + 6)
          have f7 := G2.out.rw'.frozenAt (i * 8 + 7)
          go_simp
          have G3 := Lib.hid (G2.out.row hgs i hil (turnK m st.1 (exR m k)) ((turnK_sim st.1 (exR_sim m k m8 hk)).len))
          replace SB := Lib.hid (SB.out.pastAt (w.heap.size + 1 + 1 + 1 + 1) (i * 8) (by have := zG.out; have := HSQ.out; omega) (.int .u8 (at8 (turnK m st.1 (exR m k)) 0)) (.int .u8 (at8 (turnK m st.1 (exR m k)) 1)) (.int .u8 (at8 (turnK m st.1 (exR m k)) 2)) (.int .u8 (at8 (turnK m st.1 (exR m k)) 3)) (.int .u8 (at8 (turnK m st.1 (exR m k)) 4)) (.int .u8 (at8 (turnK m st.1 (exR m k)) 5)) (.int .u8 (at8 (turnK m st.1 (exR m k)) 6)) (.int .u8 (at8 (turnK m st.1 (exR m k)) 7)))
          clear d0 d1 d2 d3 d4 d5 d6 d7 f0 f1 f2 f3 f4 f5 f6 f7
          refine hK.out _ _ ?_ (fun hHeld => ?_)
          ·first | with_reducible exact ⟨SH.out _ KB.out, SP.out _ KB.out, SS.out _ KB.out, SB.out.flat⟩ | exact ⟨G3.out.sn.2.1, G3.out.sp.2.1, G3.out.ss.2.1, SB.out.flat⟩
          clear hK K
          try simp only [Act.put, List.setIfInBounds_toArray, List.set_cons_zero, List.set_cons_succ]
          refine wpAnyH_done (by kernel_rfl) ?_ _
          gi_wp2
          have hb9 := HBX.out
          have hsq := HSQ.out
          refine And.intro ?_ (And.intro ?_ ?_)
          ·exact (keepsOthers_set8 (keepsOthers_of KB.out) (w.heap.size + 1 + 1 + 1 + 1) (i * 8) (turnK m st.1 (exR m k)))
          ·exact ((Keeps2.of KB.out (by omega) (by omega)).set8 (w.heap.size + 1 + 1 + 1 + 1) (i * 8) (by omega) (by omega) (turnK m st.1 (exR m k)))
          show AtNof _ _ _ _ _ (foldB m n (pre ++ [_])) _
          rw [foldB_snoc, ← HST.out]
          have e9 : stepB m st i ((k : Int) + 1) = (st.1, st.2.set i (turnK m st.1 (exR m k))) := by unfold stepB baseR; rw [if_neg (by omega), if_pos (by omega), show ((k : Int) + 1 - 1).toNat = k by omega]
          dsimp only
          rw [e9]
          exact G3.out
         exact AllReadyH.nil
        exact AllReadyH.nil
       exact AllReadyH.nil
      exact AllReadyH.nil
     exact AllReadyH.nil
    exact AllReadyH.nil
   refine AllReadyH.cons (o := { dst := some 9, op := Op.alloc 77, type := 0, pos := "l03_normal.go:137", after := #[], guard := none }) rfl (fun K hK => ?_) ?_
   ·go_simp
    have KP := Lib.hid KB.out
    have SB : Hid (Row8 (W0.alloc (.cells #[.int .u8 0, .int .u8 0, .int .u8 0, .int .u8 0, .int .u8 0, .int .u8 0, .int .u8 0, .int .u8 0] 77)).drew (W0.heap.size) .u8 [0, 0, 0, 0, 0, 0, 0, 0]) := Lib.hid ((Row8.zeros W0 .u8 77 (W0.heap.size) (by simp)).drew)
    have zG : Hid (W0.heap.size ≤ W0.heap.size) := Lib.hid (KB.out.size)
    replace KB : Hid (Below W0.heap.size W0 (W0.alloc (.cells #[.int .u8 0, .int .u8 0, .int .u8 0, .int .u8 0, .int .u8 0, .int .u8 0, .int .u8 0, .int .u8 0] 77)).drew) := Lib.hid (KB.out.alloc KB.out.size (.cells #[.int .u8 0, .int .u8 0, .int .u8 0, .int .u8 0, .int .u8 0, .int .u8 0, .int .u8 0, .int .u8 0] 77))
    refine hK.out _ _ ?_ (fun hHeld => ?_)
    ·with_reducible exact SH.out _ KB.out
    clear hK K
    try simp only [Act.put, List.setIfInBounds_toArray, List.set_cons_zero, List.set_cons_succ]
    refine wpAnyH_ready (rs := [1]) (by kernel_rfl) (by simp) ?_
    refine AllReadyH.cons (o := { dst := some 26, op := Op.call { callee := Callee.value (Operand.func 75), args := #[Operand.tmp 25], argTypes := #[100] }, type := 2, pos := "l03_normal.go:137", after := #[{ on := 0, ground := Ground.data }], guard := none }) rfl (fun K hK => ?_) ?_
    ·go_simp
     refine (index_pos k _ (by omega)).mono ?_
     rintro e3 w3 ⟨rfl, rfl⟩
     go_wp2_with fail
     refine hK.out _ _ ?_ (fun hHeld => ?_)
     ·with_reducible exact SH.out _ KB.out
     clear hK K
     try simp only [Act.put, List.setIfInBounds_toArray, List.set_cons_zero, List.set_cons_succ]
     refine wpAnyH_ready (rs := [3]) (by kernel_rfl) (by simp) ?_
     refine AllReadyH.cons (o := { dst := some 28, op := Op.call { callee := Callee.value (Operand.func 74), args := #[Operand.tmp 26, Operand.tmp 27], argTypes := #[2, 2] }, type := 77, pos := "l03_normal.go:137", after := #[{ on := 1, ground := Ground.data }, { on := 2, ground := Ground.data }, { on := 1, ground := Ground.chain }], guard := none }) rfl (fun K hK => ?_) ?_
     ·go_simp
      refine (exchange_any m k m8 hk _).mono ?_
      rintro e4 w4 ⟨rfl, gg⟩
      replace SB := Lib.hid (SB.out.below gg)
      replace KB := Lib.hid (below_go KB.out gg KB.out.size)
      clear gg
      go_wp2_with fail
      refine hK.out _ _ ?_ (fun hHeld => ?_)
      ·with_reducible exact SH.out _ KB.out
      clear hK K
      try simp only [Act.put, List.setIfInBounds_toArray, List.set_cons_zero, List.set_cons_succ]
      refine wpAnyH_ready (rs := [5]) (by kernel_rfl) (by simp) ?_
      refine AllReadyH.cons (o := { dst := none, op := Op.store 77 (Operand.tmp 9) (Operand.tmp 28), type := 0, pos := "l03_normal.go:137", after := #[{ on := 4, ground := Ground.data }, { on := 3, ground := Ground.data }, { on := 3, ground := Ground.chain }, { on := 0, ground := Ground.phase }, { on := 1, ground := Ground.phase }, { on := 2, ground := Ground.phase }, { on := 3, ground := Ground.phase }, { on := 4, ground := Ground.phase }], guard := none }) rfl (fun K hK => ?_) ?_
      ·obtain ⟨⟨d0, d1, d2, d3⟩, d4, d5, d6, d7⟩ := SB.out.all
       obtain ⟨⟨f0, f1, f2, f3⟩, f4, f5, f6, f7⟩ := SB.out.frees
       go_simp
       replace SB := Lib.hid (SB.out.fill (exR m k) ((exR_sim m k m8 hk).len))
       replace KB := Lib.hid (below_fill8 KB.out _ zG.out (.int .u8 (at8 (exR m k) 0)) (.int .u8 (at8 (exR m k) 1)) (.int .u8 (at8 (exR m k) 2)) (.int .u8 (at8 (exR m k) 3)) (.int .u8 (at8 (exR m k) 4)) (.int .u8 (at8 (exR m k) 5)) (.int .u8 (at8 (exR m k) 6)) (.int .u8 (at8 (exR m k) 7)))
       clear d0 d1 d2 d3 d4 d5 d6 d7 f0 f1 f2 f3 f4 f5 f6 f7
       clear KP
       obtain ⟨V9, hV9⟩ : ∃ V, V = ((((((((w4.setCell ⟨W0.heap.size, 0, none⟩ (.int .u8 (at8 (exR m k) 0))).setCell ⟨W0.heap.size, 1, none⟩ (.int .u8 (at8 (exR m k) 1))).setCell ⟨W0.heap.size, 2, none⟩ (.int .u8 (at8 (exR m k) 2))).setCell ⟨W0.heap.size, 3, none⟩ (.int .u8 (at8 (exR m k) 3))).setCell ⟨W0.heap.size, 4, none⟩ (.int .u8 (at8 (exR m k) 4))).setCell ⟨W0.heap.size, 5, none⟩ (.int .u8 (at8 (exR m k) 5))).setCell ⟨W0.heap.size, 6, none⟩ (.int .u8 (at8 (exR m k) 6))).setCell ⟨W0.heap.size, 7, none⟩ (.int .u8 (at8 (exR m k) 7))) := ⟨_, rfl⟩
       rw [← hV9] at SB KB ⊢
       clear hV9
       refine hK.out _ _ ?_ (fun hHeld => ?_)
       ·with_reducible exact SH.out _ KB.out
       clear hK K
       try simp only [Act.put, List.setIfInBounds_toArray, List.set_cons_zero, List.set_cons_succ]
       refine wpAnyH_done (by kernel_rfl) ?_ _
       gi_wp2
       replace KB := Lib.hid KB.out.drew
       replace SB := Lib.hid SB.out.drew
       refine round_region_held (S := (fun w' => w'.cell? ⟨w.heap.size + 1 + 1, 0, none⟩ = some (.int .i64 m) ∧ w'.cell? ⟨w.heap.size + 1 + 1 + 1, 0, none⟩ = some (.int .i64 st.1) ∧ w'.cell? ⟨w1.heap.size, 0, none⟩ = some (.slice (some ⟨w.heap.size + 1 + 1 + 1 + 1, 0, none⟩) n n) ∧ (w'.cell? ⟨W0.heap.size, 0, none⟩ = some (.int .u8 (at8 (exR m k) 0)) ∧ w'.cell? ⟨W0.heap.size, 1, none⟩ = some (.int .u8 (at8 (exR m k) 1)) ∧ w'.cell? ⟨W0.heap.size, 2, none⟩ = some (.int .u8 (at8 (exR m k) 2)) ∧ w'.cell? ⟨W0.heap.size, 3, none⟩ = some (.int .u8 (at8 (exR m k) 3)) ∧ w'.cell? ⟨W0.heap.size, 4, none⟩ = some (.int .u8 (at8 (exR m k) 4)) ∧ w'.cell? ⟨W0.heap.size, 5, none⟩ = some (.int .u8 (at8 (exR m k) 5)) ∧ w'.cell? ⟨W0.heap.size, 6, none⟩ = some (.int .u8 (at8 (exR m k) 6)) ∧ w'.cell? ⟨W0.heap.size, 7, none⟩ = some (.int .u8 (at8 (exR m k) 7))))) (by kernel_rfl) (by kernel_rfl) (by rintro ⟨_, _, h⟩; exact h) ?_ (fun hHeld => ?_)
       ·first | with_reducible exact ⟨SH.out _ KB.out, SP.out _ KB.out, SS.out _ KB.out, SB.out.flat⟩ | exact ⟨G3.out.sn.2.1, G3.out.sp.2.1, G3.out.ss.2.1, SB.out.flat⟩
       refine wpAnyH_take (i := 0) (oi := { dst := some 34, op := Op.load 26 (Operand.tmp 5), type := 26, pos := "l03_normal.go:141", after := #[], guard := none }) (v := ?_) rfl (by kernel_rfl) (by kernel_rfl) (by kernel_rfl) (fun _ _ _ h => h) (Or.inl ⟨by rfl, ?_⟩) (by assumption) ?_
       rotate_left
       ·intro w hSw
        (try dsimp only at hSw)
        go_simp
        try with_reducible rfl
       try simp only [Act.put, List.setIfInBounds_toArray, List.set_cons_zero, List.set_cons_succ]
       refine wpAnyH_take (i := 1) (oi := { dst := some 35, op := Op.move (Operand.tmp 6), type := 3, pos := "l03_normal.go:141", after := #[], guard := none }) (v := ?_) rfl (by kernel_rfl) (by kernel_rfl) (by kernel_rfl) (fun _ _ _ h => h) (Or.inl ⟨by rfl, ?_⟩) (by assumption) ?_
       rotate_left
       ·intro w hSw
        (try dsimp only at hSw)
        go_simp
        try with_reducible rfl
       try simp only [Act.put, List.setIfInBounds_toArray, List.set_cons_zero, List.set_cons_succ]
       refine wpAnyH_take (i := 2) (oi := { dst := some 36, op := Op.load 77 (Operand.tmp 9), type := 77, pos := "l03_normal.go:141", after := #[], guard := none }) (v := ?_) rfl (by kernel_rfl) (by kernel_rfl) (by kernel_rfl) (fun _ _ _ h => h) (Or.inl ⟨by rfl, ?_⟩) (by assumption) ?_
       rotate_left
       ·intro w hSw
        (try dsimp only at hSw)
        go_simp
        try with_reducible rfl
       try simp only [Act.put, List.setIfInBounds_toArray, List.set_cons_zero, List.set_cons_succ]
       refine wpAnyH_take (i := 3) (oi := { dst := some 37, op := Op.load 2 (Operand.tmp 4), type := 2, pos := "l03_normal.go:141", after := #[], guard := none }) (v := ?_) rfl (by kernel_rfl) (by kernel_rfl) (by kernel_rfl) (fun _ _ _ h => h) (Or.inl ⟨by rfl, ?_⟩) (by assumption) ?_
       rotate_left
       ·intro w hSw
        (try dsimp only at hSw)
        go_simp
        try with_reducible rfl
       try simp only [Act.put, List.setIfInBounds_toArray, List.set_cons_zero, List.set_cons_succ]
       refine wpAnyH_take (i := 4) (oi := { dst := some 38, op := Op.load 2 (Operand.tmp 3), type := 2, pos := "l03_normal.go:141", after := #[], guard := none }) (v := ?_) rfl (by kernel_rfl) (by kernel_rfl) (by kernel_rfl) (fun _ _ _ h => h) (Or.inl ⟨by rfl, ?_⟩) (by assumption) ?_
       rotate_left
       ·intro w hSw
        (try dsimp only at hSw)
        go_simp
        try with_reducible rfl
       try simp only [Act.put, List.setIfInBounds_toArray, List.set_cons_zero, List.set_cons_succ]
       refine wpAnyH_ready (rs := [5]) (by kernel_rfl) (by simp) ?_
       refine AllReadyH.cons (o := { dst := some 39, op := Op.call { callee := Callee.value (Operand.func 66), args := #[Operand.tmp 36, Operand.tmp 37, Operand.tmp 38], argTypes := #[77, 2, 2] }, type := 77, pos := "l03_normal.go:141", after := #[{ on := 2, ground := Ground.data }, { on := 3, ground := Ground.data }, { on := 4, ground := Ground.data }], guard := none }) rfl (fun K hK => ?_) ?_
       ·go_simp
        refine (turned_any m st.1 (exR m k) (exR_sim m k m8 hk) _).mono ?_
        rintro e6 w6 ⟨rfl, gg⟩
        replace SB := Lib.hid (SB.out.below gg)
        replace KB := Lib.hid (below_go KB.out gg KB.out.size)
        clear gg
        go_wp2_with fail
        refine hK.out _ _ ?_ (fun hHeld => ?_)
        ·first | with_reducible exact ⟨SH.out _ KB.out, SP.out _ KB.out, SS.out _ KB.out, SB.out.flat⟩ | exact ⟨G3.out.sn.2.1, G3.out.sp.2.1, G3.out.ss.2.1, SB.out.flat⟩
        clear hK K
        try simp only [Act.put, List.setIfInBounds_toArray, List.set_cons_zero, List.set_cons_succ]
        refine wpAnyH_ready (rs := [6]) (by kernel_rfl) (by simp) ?_
        refine AllReadyH.cons (o := { dst := some 40, op := Op.indexAddr 26 (Operand.tmp 34) (Operand.tmp 35), type := 0, pos := "l03_normal.go:141", after := #[{ on := 0, ground := Ground.data }, { on := 1, ground := Ground.data }, { on := 0, ground := Ground.phase }, { on := 1, ground := Ground.phase }, { on := 2, ground := Ground.phase }, { on := 3, ground := Ground.phase }, { on := 4, ground := Ground.phase }, { on := 5, ground := Ground.phase }], guard := none }) rfl (fun K hK => ?_) ?_
        ·go_simp
         refine hK.out _ _ ?_ (fun hHeld => ?_)
         ·first | with_reducible exact ⟨SH.out _ KB.out, SP.out _ KB.out, SS.out _ KB.out, SB.out.flat⟩ | exact ⟨G3.out.sn.2.1, G3.out.sp.2.1, G3.out.ss.2.1, SB.out.flat⟩
         clear hK K
         try simp only [Act.put, List.setIfInBounds_toArray, List.set_cons_zero, List.set_cons_succ]
         refine wpAnyH_ready (rs := [7]) (by kernel_rfl) (by simp) ?_
         refine AllReadyH.cons (o := { dst := none, op := Op.store 77 (Operand.tmp 40) (Operand.tmp 39), type := 0, pos := "l03_normal.go:141", after := #[{ on := 6, ground := Ground.data }, { on := 5, ground := Ground.data }, { on := 5, ground := Ground.chain }, { on := 0, ground := Ground.phase }, { on := 1, ground := Ground.phase }, { on := 2, ground := Ground.phase }, { on := 3, ground := Ground.phase }, { on := 4, ground := Ground.phase }, { on := 5, ground := Ground.phase }], guard := none }) rfl (fun K hK => ?_) ?_
         ·have G2 := Lib.hid (G.out.below KB.out)
          obtain ⟨d0, d1, d2, d3, d4, d5, d6, d7⟩ := (G2.out.rw'.cellAt i hil).flat
          have f0 := G2.out.rw'.frozenAt (i * 8)
          have f1 := G2.out.rw'.frozenAt (i * 8 + 1)
          have f2 := G2.out.rw'.frozenAt (i * 8 + 2)
          have f3 := G2.out.rw'.frozenAt (i * 8 + 3)
          have f4 := G2.out.rw'.frozenAt (i * 8 + 4)
          have f5 := G2.out.rw'.frozenAt (i * 8 + 5)
          have f6 := G2.out.rw'.frozenAt (i * 8 + 6)
          have f7 := G2.out.rw'.frozenAt (i * 8 + 7)
          go_simp
          have G3 := Lib.hid (G2.out.row hgs i hil (turnK m st.1 (exR m k)) ((turnK_sim st.1 (exR_sim m k m8 hk)).len))
          replace SB := Lib.hid (SB.out.pastAt (w.heap.size + 1 + 1 + 1 + 1) (i * 8) (by have := zG.out; have := HSQ.out; omega) (.int .u8 (at8 (turnK m st.1 (exR m k)) 0)) (.int .u8 (at8 (turnK m st.1 (exR m k)) 1)) (.int .u8 (at8 (turnK m st.1 (exR m k)) 2)) (.int .u8 (at8 (turnK m st.1 (exR m k)) 3)) (.int .u8 (at8 (turnK m st.1 (exR m k)) 4)) (.int .u8 (at8 (turnK m st.1 (exR m k)) 5)) (.int .u8 (at8 (turnK m st.1 (exR m k)) 6)) (.int .u8 (at8 (turnK m st.1 (exR m k)) 7)))
          clear d0 d1 d2 d3 d4 d5 d6 d7 f0 f1 f2 f3 f4 f5 f6 f7
          refine hK.out _ _ ?_ (fun hHeld => ?_)
          ·first | with_reducible exact ⟨SH.out _ KB.out, SP.out _ KB.out, SS.out _ KB.out, SB.out.flat⟩ | exact ⟨G3.out.sn.2.1, G3.out.sp.2.1, G3.out.ss.2.1, SB.out.flat⟩
          clear hK K
          try simp only [Act.put, List.setIfInBounds_toArray, List.set_cons_zero, List.set_cons_succ]
          refine wpAnyH_done (by kernel_rfl) ?_ _
          gi_wp2
          have hb9 := HBX.out
          have hsq := HSQ.out
          refine And.intro ?_ (And.intro ?_ ?_)
          ·exact (keepsOthers_set8 (keepsOthers_of KB.out) (w.heap.size + 1 + 1 + 1 + 1) (i * 8) (turnK m st.1 (exR m k)))
          ·exact ((Keeps2.of KB.out (by omega) (by omega)).set8 (w.heap.size + 1 + 1 + 1 + 1) (i * 8) (by omega) (by omega) (turnK m st.1 (exR m k)))
          show AtNof _ _ _ _ _ (foldB m n (pre ++ [_])) _
          rw [foldB_snoc, ← HST.out]
          have e9 : stepB m st i ((k : Int) + 1) = (st.1, st.2.set i (turnK m st.1 (exR m k))) := by unfold stepB baseR; rw [if_neg (by omega), if_pos (by omega), show ((k : Int) + 1 - 1).toNat = k by omega]
          dsimp only
          rw [e9]
          exact G3.out
         exact AllReadyH.nil
        exact AllReadyH.nil
       exact AllReadyH.nil
      exact AllReadyH.nil
     exact AllReadyH.nil
    exact AllReadyH.nil
   exact AllReadyH.nil
  ·obtain ⟨k, rfl⟩ : ∃ k : Nat, v = -(k : Int) - 1 := ⟨(-v - 1).toNat, by omega⟩
   have hk : k + 1 < m := by omega
   gi_wp2
   have KB : Hid (Below W0.heap.size W0 W0.drew) := Lib.hid (Below.refl W0.heap.size W0).drew
   have SH : Hid (∀ X, Below W0.heap.size W0 X → X.cell? ⟨w.heap.size + 1 + 1, 0, none⟩ = some (.int .i64 m)) := Lib.hid fun X h => (G.out.sn.below h).2.1
   clear p0 p1 p2 n0 n1 n2 s0 s1 s2
   refine round_region_held (S := (fun w' => w'.cell? ⟨w.heap.size + 1 + 1, 0, none⟩ = some (.int .i64 m))) (by kernel_rfl) (by kernel_rfl) (by rintro ⟨_, _, h⟩; exact h) ?_ (fun hHeld => ?_)
   ·with_reducible exact SH.out _ KB.out
   refine wpAnyH_take (i := 0) (oi := { dst := some 25, op := Op.move (Operand.tmp 8), type := 100, pos := "l03_normal.go:137", after := #[], guard := none }) (v := ?_) rfl (by kernel_rfl) (by kernel_rfl) (by kernel_rfl) (fun _ _ _ h => h) (Or.inl ⟨by rfl, ?_⟩) (by assumption) ?_
   rotate_left
   ·intro w hSw
    (try dsimp only at hSw)
    go_simp
    try with_reducible rfl
   try simp only [Act.put, List.setIfInBounds_toArray, List.set_cons_zero, List.set_cons_succ]
   refine wpAnyH_take (i := 2) (oi := { dst := some 27, op := Op.load 2 (Operand.tmp 3), type := 2, pos := "l03_normal.go:137", after := #[], guard := none }) (v := ?_) rfl (by kernel_rfl) (by kernel_rfl) (by kernel_rfl) (fun _ _ _ h => h) (Or.inl ⟨by rfl, ?_⟩) (by assumption) ?_
   rotate_left
   ·intro w hSw
    (try dsimp only at hSw)
    go_simp
    try with_reducible rfl
   try simp only [Act.put, List.setIfInBounds_toArray, List.set_cons_zero, List.set_cons_succ]
   refine wpAnyH_ready (rs := [1, 4]) (by kernel_rfl) (by simp) ?_
   refine AllReadyH.cons (o := { dst := some 26, op := Op.call { callee := Callee.value (Operand.func 75), args := #[Operand.tmp 25], argTypes := #[100] }, type := 2, pos := "l03_normal.go:137", after := #[{ on := 0, ground := Ground.data }], guard := none }) rfl (fun K hK => ?_) ?_
   ·go_simp
    refine (index_neg k _ (by omega)).mono ?_
    rintro e3 w3 ⟨rfl, rfl⟩
    go_wp2_with fail
    refine hK.out _ _ ?_ (fun hHeld => ?_)
    ·with_reducible exact SH.out _ KB.out
    clear hK K
    try simp only [Act.put, List.setIfInBounds_toArray, List.set_cons_zero, List.set_cons_succ]
    refine wpAnyH_ready (rs := [3, 4]) (by kernel_rfl) (by simp) ?_
    refine AllReadyH.cons (o := { dst := some 28, op := Op.call { callee := Callee.value (Operand.func 74), args := #[Operand.tmp 26, Operand.tmp 27], argTypes := #[2, 2] }, type := 77, pos := "l03_normal.go:137", after := #[{ on := 1, ground := Ground.data }, { on := 2, ground := Ground.data }, { on := 1, ground := Ground.chain }], guard := none }) rfl (fun K hK => ?_) ?_
    ·go_simp
     refine (exchange_any m k m8 hk _).mono ?_
     rintro e4 w4 ⟨rfl, gg⟩
     replace KB := Lib.hid (below_go KB.out gg KB.out.size)
     clear gg
     go_wp2_with fail
     refine hK.out _ _ ?_ (fun hHeld => ?_)
     ·with_reducible exact SH.out _ KB.out
     clear hK K
     try simp only [Act.put, List.setIfInBounds_toArray, List.set_cons_zero, List.set_cons_succ]
     refine wpAnyH_ready (rs := [4]) (by kernel_rfl) (by simp) ?_
     refine AllReadyH.cons (o := { dst := some 9, op := Op.alloc 77, type := 0, pos := "l03_normal.go:137", after := #[], guard := none }) rfl (fun K hK => ?_) ?_
     ·go_simp
      have KP := Lib.hid KB.out
      have SB : Hid (Row8 (w4.alloc (.cells #[.int .u8 0, .int .u8 0, .int .u8 0, .int .u8 0, .int .u8 0, .int .u8 0, .int .u8 0, .int .u8 0] 77)) (w4.heap.size) .u8 [0, 0, 0, 0, 0, 0, 0, 0]) := Lib.hid ((Row8.zeros w4 .u8 77 (w4.heap.size) (by simp)))
      have zG : Hid (W0.heap.size ≤ w4.heap.size) := Lib.hid (KB.out.size)
      replace KB : Hid (Below W0.heap.size W0 (w4.alloc (.cells #[.int .u8 0, .int .u8 0, .int .u8 0, .int .u8 0, .int .u8 0, .int .u8 0, .int .u8 0, .int .u8 0] 77))) := Lib.hid (KB.out.alloc KB.out.size (.cells #[.int .u8 0, .int .u8 0, .int .u8 0, .int .u8 0, .int .u8 0, .int .u8 0, .int .u8 0, .int .u8 0] 77))
      refine hK.out _ _ ?_ (fun hHeld => ?_)
      ·with_reducible exact SH.out _ KB.out
      clear hK K
      try simp only [Act.put, List.setIfInBounds_toArray, List.set_cons_zero, List.set_cons_succ]
      refine wpAnyH_ready (rs := [5]) (by kernel_rfl) (by simp) ?_
      refine AllReadyH.cons (o := { dst := none, op := Op.store 77 (Operand.tmp 9) (Operand.tmp 28), type := 0, pos := "l03_normal.go:137", after := #[{ on := 4, ground := Ground.data }, { on := 3, ground := Ground.data }, { on := 3, ground := Ground.chain }, { on := 0, ground := Ground.phase }, { on := 1, ground := Ground.phase }, { on := 2, ground := Ground.phase }, { on := 3, ground := Ground.phase }, { on := 4, ground := Ground.phase }], guard := none }) rfl (fun K hK => ?_) ?_
      ·obtain ⟨⟨d0, d1, d2, d3⟩, d4, d5, d6, d7⟩ := SB.out.all
       obtain ⟨⟨f0, f1, f2, f3⟩, f4, f5, f6, f7⟩ := SB.out.frees
       go_simp
       replace SB : Hid (Row8 (w4.alloc (.cells #[.int .u8 (at8 (exR m k) 0), .int .u8 (at8 (exR m k) 1), .int .u8 (at8 (exR m k) 2), .int .u8 (at8 (exR m k) 3), .int .u8 (at8 (exR m k) 4), .int .u8 (at8 (exR m k) 5), .int .u8 (at8 (exR m k) 6), .int .u8 (at8 (exR m k) 7)] 77)) (w4.heap.size) .u8 (exR m k)) := Lib.hid (Row8.place w4 .u8 (exR m k) 77 (w4.heap.size) rfl (exR_sim m k m8 hk).len)
       replace KB : Hid (Below W0.heap.size W0 (w4.alloc (.cells #[.int .u8 (at8 (exR m k) 0), .int .u8 (at8 (exR m k) 1), .int .u8 (at8 (exR m k) 2), .int .u8 (at8 (exR m k) 3), .int .u8 (at8 (exR m k) 4), .int .u8 (at8 (exR m k) 5), .int .u8 (at8 (exR m k) 6), .int .u8 (at8 (exR m k) 7)] 77))) := Lib.hid (KP.out.alloc KP.out.size (.cells #[.int .u8 (at8 (exR m k) 0), .int .u8 (at8 (exR m k) 1), .int .u8 (at8 (exR m k) 2), .int .u8 (at8 (exR m k) 3), .int .u8 (at8 (exR m k) 4), .int .u8 (at8 (exR m k) 5), .int .u8 (at8 (exR m k) 6), .int .u8 (at8 (exR m k) 7)] 77))
       clear d0 d1 d2 d3 d4 d5 d6 d7 f0 f1 f2 f3 f4 f5 f6 f7
       clear KP
       obtain ⟨V9, hV9⟩ : ∃ V, V = (w4.alloc (.cells #[.int .u8 (at8 (exR m k) 0), .int .u8 (at8 (exR m k) 1), .int .u8 (at8 (exR m k) 2), .int .u8 (at8 (exR m k) 3), .int .u8 (at8 (exR m k) 4), .int .u8 (at8 (exR m k) 5), .int .u8 (at8 (exR m k) 6), .int .u8 (at8 (exR m k) 7)] 77)) := ⟨_, rfl⟩
       rw [← hV9] at SB KB ⊢
       clear hV9
       refine hK.out _ _ ?_ (fun hHeld => ?_)
       ·with_reducible exact SH.out _ KB.out
       clear hK K
       try simp only [Act.put, List.setIfInBounds_toArray, List.set_cons_zero, List.set_cons_succ]
       refine wpAnyH_done (by kernel_rfl) ?_ _
       obtain ⟨⟨d0, d1, d2, d3⟩, d4, d5, d6, d7⟩ := SB.out.all
       obtain ⟨⟨f0, f1, f2, f3⟩, f4, f5, f6, f7⟩ := SB.out.frees
       have n1 := SH.out _ KB.out
       gi_wp2_with fail
       refine ⟨trivial, ?_⟩
       gi_at_call 76
       refine (CallsIn.inRound l (callsIn_wide.2 (leftR_any m (exR m k) (exR_sim m k m8 hk) _))).mono ?_
       rintro e5 w5 ⟨rfl, gg⟩
       replace SB := Lib.hid (SB.out.below gg)
       replace KB := Lib.hid (below_go KB.out gg KB.out.size)
       clear d0 d1 d2 d3 d4 d5 d6 d7 f0 f1 f2 f3 f4 f5 f6 f7 gg
       obtain ⟨⟨d0, d1, d2, d3⟩, d4, d5, d6, d7⟩ := SB.out.all
       obtain ⟨⟨f0, f1, f2, f3⟩, f4, f5, f6, f7⟩ := SB.out.frees
       gi_wp2
       replace SB := Lib.hid (SB.out.fill (leftR m (exR m k)) ((leftR_sim (exR_sim m k m8 hk)).len))
       replace KB := Lib.hid (below_fill8 KB.out _ zG.out (.int .u8 (at8 (leftR m (exR m k)) 0)) (.int .u8 (at8 (leftR m (exR m k)) 1)) (.int .u8 (at8 (leftR m (exR m k)) 2)) (.int .u8 (at8 (leftR m (exR m k)) 3)) (.int .u8 (at8 (leftR m (exR m k)) 4)) (.int .u8 (at8 (leftR m (exR m k)) 5)) (.int .u8 (at8 (leftR m (exR m k)) 6)) (.int .u8 (at8 (leftR m (exR m k)) 7)))
       clear d0 d1 d2 d3 d4 d5 d6 d7 f0 f1 f2 f3 f4 f5 f6 f7 n1
       obtain ⟨V10, hV10⟩ : ∃ V, V = ((((((((w5.setCell ⟨w4.heap.size, 0, none⟩ (.int .u8 (at8 (leftR m (exR m k)) 0))).setCell ⟨w4.heap.size, 1, none⟩ (.int .u8 (at8 (leftR m (exR m k)) 1))).setCell ⟨w4.heap.size, 2, none⟩ (.int .u8 (at8 (leftR m (exR m k)) 2))).setCell ⟨w4.heap.size, 3, none⟩ (.int .u8 (at8 (leftR m (exR m k)) 3))).setCell ⟨w4.heap.size, 4, none⟩ (.int .u8 (at8 (leftR m (exR m k)) 4))).setCell ⟨w4.heap.size, 5, none⟩ (.int .u8 (at8 (leftR m (exR m k)) 5))).setCell ⟨w4.heap.size, 6, none⟩ (.int .u8 (at8 (leftR m (exR m k)) 6))).setCell ⟨w4.heap.size, 7, none⟩ (.int .u8 (at8 (leftR m (exR m k)) 7))) := ⟨_, rfl⟩
       rw [← hV10] at SB KB ⊢
       clear hV10
       replace KB := Lib.hid KB.out.drew
       replace SB := Lib.hid SB.out.drew
       refine round_region_held (S := (fun w' => w'.cell? ⟨w.heap.size + 1 + 1, 0, none⟩ = some (.int .i64 m) ∧ w'.cell? ⟨w.heap.size + 1 + 1 + 1, 0, none⟩ = some (.int .i64 st.1) ∧ w'.cell? ⟨w1.heap.size, 0, none⟩ = some (.slice (some ⟨w.heap.size + 1 + 1 + 1 + 1, 0, none⟩) n n) ∧ (w'.cell? ⟨w4.heap.size, 0, none⟩ = some (.int .u8 (at8 (leftR m (exR m k)) 0)) ∧ w'.cell? ⟨w4.heap.size, 1, none⟩ = some (.int .u8 (at8 (leftR m (exR m k)) 1)) ∧ w'.cell? ⟨w4.heap.size, 2, none⟩ = some (.int .u8 (at8 (leftR m (exR m k)) 2)) ∧ w'.cell? ⟨w4.heap.size, 3, none⟩ = some (.int .u8 (at8 (leftR m (exR m k)) 3)) ∧ w'.cell? ⟨w4.heap.size, 4, none⟩ = some (.int .u8 (at8 (leftR m (exR m k)) 4)) ∧ w'.cell? ⟨w4.heap.size, 5, none⟩ = some (.int .u8 (at8 (leftR m (exR m k)) 5)) ∧ w'.cell? ⟨w4.heap.size, 6, none⟩ = some (.int .u8 (at8 (leftR m (exR m k)) 6)) ∧ w'.cell? ⟨w4.heap.size, 7, none⟩ = some (.int .u8 (at8 (leftR m (exR m k)) 7))))) (by kernel_rfl) (by kernel_rfl) (by rintro ⟨_, _, h⟩; exact h) ?_ (fun hHeld => ?_)
       ·first | with_reducible exact ⟨SH.out _ KB.out, SP.out _ KB.out, SS.out _ KB.out, SB.out.flat⟩ | exact ⟨G3.out.sn.2.1, G3.out.sp.2.1, G3.out.ss.2.1, SB.out.flat⟩
       refine wpAnyH_take (i := 0) (oi := { dst := some 34, op := Op.load 26 (Operand.tmp 5), type := 26, pos := "l03_normal.go:141", after := #[], guard := none }) (v := ?_) rfl (by kernel_rfl) (by kernel_rfl) (by kernel_rfl) (fun _ _ _ h => h) (Or.inl ⟨by rfl, ?_⟩) (by assumption) ?_
       rotate_left
       ·intro w hSw
        (try dsimp only at hSw)
        go_simp
        try with_reducible rfl
       try simp only [Act.put, List.setIfInBounds_toArray, List.set_cons_zero, List.set_cons_succ]
       refine wpAnyH_take (i := 1) (oi := { dst := some 35, op := Op.move (Operand.tmp 6), type := 3, pos := "l03_normal.go:141", after := #[], guard := none }) (v := ?_) rfl (by kernel_rfl) (by kernel_rfl) (by kernel_rfl) (fun _ _ _ h => h) (Or.inl ⟨by rfl, ?_⟩) (by assumption) ?_
       rotate_left
       ·intro w hSw
        (try dsimp only at hSw)
        go_simp
        try with_reducible rfl
       try simp only [Act.put, List.setIfInBounds_toArray, List.set_cons_zero, List.set_cons_succ]
       refine wpAnyH_take (i := 2) (oi := { dst := some 36, op := Op.load 77 (Operand.tmp 9), type := 77, pos := "l03_normal.go:141", after := #[], guard := none }) (v := ?_) rfl (by kernel_rfl) (by kernel_rfl) (by kernel_rfl) (fun _ _ _ h => h) (Or.inl ⟨by rfl, ?_⟩) (by assumption) ?_
       rotate_left
       ·intro w hSw
        (try dsimp only at hSw)
        go_simp
        try with_reducible rfl
       try simp only [Act.put, List.setIfInBounds_toArray, List.set_cons_zero, List.set_cons_succ]
       refine wpAnyH_take (i := 3) (oi := { dst := some 37, op := Op.load 2 (Operand.tmp 4), type := 2, pos := "l03_normal.go:141", after := #[], guard := none }) (v := ?_) rfl (by kernel_rfl) (by kernel_rfl) (by kernel_rfl) (fun _ _ _ h => h) (Or.inl ⟨by rfl, ?_⟩) (by assumption) ?_
       rotate_left
       ·intro w hSw
        (try dsimp only at hSw)
        go_simp
        try with_reducible rfl
       try simp only [Act.put, List.setIfInBounds_toArray, List.set_cons_zero, List.set_cons_succ]
       refine wpAnyH_take (i := 4) (oi := { dst := some 38, op := Op.load 2 (Operand.tmp 3), type := 2, pos := "l03_normal.go:141", after := #[], guard := none }) (v := ?_) rfl (by kernel_rfl) (by kernel_rfl) (by kernel_rfl) (fun _ _ _ h => h) (Or.inl ⟨by rfl, ?_⟩) (by assumption) ?_
       rotate_left
       ·intro w hSw
        (try dsimp only at hSw)
        go_simp
        try with_reducible rfl
       try simp only [Act.put, List.setIfInBounds_toArray, List.set_cons_zero, List.set_cons_succ]
       refine wpAnyH_ready (rs := [5]) (by kernel_rfl) (by simp) ?_
       refine AllReadyH.cons (o := { dst := some 39, op := Op.call { callee := Callee.value (Operand.func 66), args := #[Operand.tmp 36, Operand.tmp 37, Operand.tmp 38], argTypes := #[77, 2, 2] }, type := 77, pos := "l03_normal.go:141", after := #[{ on := 2, ground := Ground.data }, { on := 3, ground := Ground.data }, { on := 4, ground := Ground.data }], guard := none }) rfl (fun K hK => ?_) ?_
       ·go_simp
        refine (turned_any m st.1 (leftR m (exR m k)) (leftR_sim (exR_sim m k m8 hk)) _).mono ?_
        rintro e6 w6 ⟨rfl, gg⟩
        replace SB := Lib.hid (SB.out.below gg)
        replace KB := Lib.hid (below_go KB.out gg KB.out.size)
        clear gg
        go_wp2_with fail
        refine hK.out _ _ ?_ (fun hHeld => ?_)
        ·first | with_reducible exact ⟨SH.out _ KB.out, SP.out _ KB.out, SS.out _ KB.out, SB.out.flat⟩ | exact ⟨G3.out.sn.2.1, G3.out.sp.2.1, G3.out.ss.2.1, SB.out.flat⟩
        clear hK K
        try simp only [Act.put, List.setIfInBounds_toArray, List.set_cons_zero, List.set_cons_succ]
        refine wpAnyH_ready (rs := [6]) (by kernel_rfl) (by simp) ?_
        refine AllReadyH.cons (o := { dst := some 40, op := Op.indexAddr 26 (Operand.tmp 34) (Operand.tmp 35), type := 0, pos := "l03_normal.go:141", after := #[{ on := 0, ground := Ground.data }, { on := 1, ground := Ground.data }, { on := 0, ground := Ground.phase }, { on := 1, ground := Ground.phase }, { on := 2, ground := Ground.phase }, { on := 3, ground := Ground.phase }, { on := 4, ground := Ground.phase }, { on := 5, ground := Ground.phase }], guard := none }) rfl (fun K hK => ?_) ?_
        ·go_simp
         refine hK.out _ _ ?_ (fun hHeld => ?_)
         ·first | with_reducible exact ⟨SH.out _ KB.out, SP.out _ KB.out, SS.out _ KB.out, SB.out.flat⟩ | exact ⟨G3.out.sn.2.1, G3.out.sp.2.1, G3.out.ss.2.1, SB.out.flat⟩
         clear hK K
         try simp only [Act.put, List.setIfInBounds_toArray, List.set_cons_zero, List.set_cons_succ]
         refine wpAnyH_ready (rs := [7]) (by kernel_rfl) (by simp) ?_
         refine AllReadyH.cons (o := { dst := none, op := Op.store 77 (Operand.tmp 40) (Operand.tmp 39), type := 0, pos := "l03_normal.go:141", after := #[{ on := 6, ground := Ground.data }, { on := 5, ground := Ground.data }, { on := 5, ground := Ground.chain }, { on := 0, ground := Ground.phase }, { on := 1, ground := Ground.phase }, { on := 2, ground := Ground.phase }, { on := 3, ground := Ground.phase }, { on := 4, ground := Ground.phase }, { on := 5, ground := Ground.phase }], guard := none }) rfl (fun K hK => ?_) ?_
         ·have G2 := Lib.hid (G.out.below KB.out)
          obtain ⟨d0, d1, d2, d3, d4, d5, d6, d7⟩ := (G2.out.rw'.cellAt i hil).flat
          have f0 := G2.out.rw'.frozenAt (i * 8)
          have f1 := G2.out.rw'.frozenAt (i * 8 + 1)
          have f2 := G2.out.rw'.frozenAt (i * 8 + 2)
          have f3 := G2.out.rw'.frozenAt (i * 8 + 3)
          have f4 := G2.out.rw'.frozenAt (i * 8 + 4)
          have f5 := G2.out.rw'.frozenAt (i * 8 + 5)
          have f6 := G2.out.rw'.frozenAt (i * 8 + 6)
          have f7 := G2.out.rw'.frozenAt (i * 8 + 7)
          go_simp
          have G3 := Lib.hid (G2.out.row hgs i hil (turnK m st.1 (leftR m (exR m k))) ((turnK_sim st.1 (leftR_sim (exR_sim m k m8 hk))).len))
          replace SB := Lib.hid (SB.out.pastAt (w.heap.size + 1 + 1 + 1 + 1) (i * 8) (by have := zG.out; have := HSQ.out; omega) (.int .u8 (at8 (turnK m st.1 (leftR m (exR m k))) 0)) (.int .u8 (at8 (turnK m st.1 (leftR m (exR m k))) 1)) (.int .u8 (at8 (turnK m st.1 (leftR m (exR m k))) 2)) (.int .u8 (at8 (turnK m st.1 (leftR m (exR m k))) 3)) (.int .u8 (at8 (turnK m st.1 (leftR m (exR m k))) 4)) (.int .u8 (at8 (turnK m st.1 (leftR m (exR m k))) 5)) (.int .u8 (at8 (turnK m st.1 (leftR m (exR m k))) 6)) (.int .u8 (at8 (turnK m st.1 (leftR m (exR m k))) 7)))
          clear d0 d1 d2 d3 d4 d5 d6 d7 f0 f1 f2 f3 f4 f5 f6 f7
          refine hK.out _ _ ?_ (fun hHeld => ?_)
          ·first | with_reducible exact ⟨SH.out _ KB.out, SP.out _ KB.out, SS.out _ KB.out, SB.out.flat⟩ | exact ⟨G3.out.sn.2.1, G3.out.sp.2.1, G3.out.ss.2.1, SB.out.flat⟩
          clear hK K
          try simp only [Act.put, List.setIfInBounds_toArray, List.set_cons_zero, List.set_cons_succ]
          refine wpAnyH_done (by kernel_rfl) ?_ _
          obtain ⟨p0, p1, p2⟩ := G3.out.sp
          gi_wp2
          have hb9 := HBX.out
          have hsq := HSQ.out
          refine And.intro ?_ (And.intro ?_ ?_)
          ·exact (keepsOthers_set (keepsOthers_set8 (keepsOthers_of KB.out) (w.heap.size + 1 + 1 + 1 + 1) (i * 8) (turnK m st.1 (leftR m (exR m k)))) ⟨w.heap.size + 1 + 1 + 1, 0, none⟩ (.int .i64 (st.1 - 1)))
          ·exact (((Keeps2.of KB.out (by omega) (by omega)).set8 (w.heap.size + 1 + 1 + 1 + 1) (i * 8) (by omega) (by omega) (turnK m st.1 (leftR m (exR m k)))).set (p := ⟨w.heap.size + 1 + 1 + 1, 0, none⟩) (by show b ≠ w.heap.size + 1 + 1 + 1; omega) (by show w1.heap.size + 1 ≠ w.heap.size + 1 + 1 + 1; omega) (.int .i64 (st.1 - 1)))
          show AtNof _ _ _ _ _ (foldB m n (pre ++ [_])) _
          rw [foldB_snoc, ← HST.out]
          have e9 : stepB m st i (-(k : Int) - 1) = (st.1 - 1, st.2.set i (turnK m st.1 (leftR m (exR m k)))) := by unfold stepB baseR; rw [if_pos (by omega), if_neg (by omega), show (-(-(k : Int) - 1) - 1).toNat = k by omega]
          dsimp only
          rw [e9]
          exact G3.out.power hgs _
         exact AllReadyH.nil
        exact AllReadyH.nil
       exact AllReadyH.nil
      exact AllReadyH.nil
     exact AllReadyH.nil
    refine AllReadyH.cons (o := { dst := some 9, op := Op.alloc 77, type := 0, pos := "l03_normal.go:137", after := #[], guard := none }) rfl (fun K hK => ?_) ?_
    ·go_simp
     have KP := Lib.hid KB.out
     have SB : Hid (Row8 (W0.alloc (.cells #[.int .u8 0, .int .u8 0, .int .u8 0, .int .u8 0, .int .u8 0, .int .u8 0, .int .u8 0, .int .u8 0] 77)).drew (W0.heap.size) .u8 [0, 0, 0, 0, 0, 0, 0, 0]) := Lib.hid ((Row8.zeros W0 .u8 77 (W0.heap.size) (by simp)).drew)
     have zG : Hid (W0.heap.size ≤ W0.heap.size) := Lib.hid (KB.out.size)
     replace KB : Hid (Below W0.heap.size W0 (W0.alloc (.cells #[.int .u8 0, .int .u8 0, .int .u8 0, .int .u8 0, .int .u8 0, .int .u8 0, .int .u8 0, .int .u8 0] 77)).drew) := Lib.hid (KB.out.alloc KB.out.size (.cells #[.int .u8 0, .int .u8 0, .int .u8 0, .int .u8 0, .int .u8 0, .int .u8 0, .int .u8 0, .int .u8 0] 77))
     refine hK.out _ _ ?_ (fun hHeld => ?_)
     ·with_reducible exact SH.out _ KB.out
     clear hK K
     try simp only [Act.put, List.setIfInBounds_toArray, List.set_cons_zero, List.set_cons_succ]
     refine wpAnyH_ready (rs := [3]) (by kernel_rfl) (by simp) ?_
     refine AllReadyH.cons (o := { dst := some 28, op := Op.call { callee := Callee.value (Operand.func 74), args := #[Operand.tmp 26, Operand.tmp 27], argTypes := #[2, 2] }, type := 77, pos := "l03_normal.go:137", after := #[{ on := 1, ground := Ground.data }, { on := 2, ground := Ground.data }, { on := 1, ground := Ground.chain }], guard := none }) rfl (fun K hK => ?_) ?_
     ·go_simp
      refine (exchange_any m k m8 hk _).mono ?_
      rintro e4 w4 ⟨rfl, gg⟩
      replace SB := Lib.hid (SB.out.below gg)
      replace KB := Lib.hid (below_go KB.out gg KB.out.size)
      clear gg
      go_wp2_with fail
      refine hK.out _ _ ?_ (fun hHeld => ?_)
      ·with_reducible exact SH.out _ KB.out
      clear hK K
      try simp only [Act.put, List.setIfInBounds_toArray, List.set_cons_zero, List.set_cons_succ]
      refine wpAnyH_ready (rs := [5]) (by kernel_rfl) (by simp) ?_
      refine AllReadyH.cons (o := { dst := none, op := Op.store 77 (Operand.tmp 9) (Operand.tmp 28), type := 0, pos := "l03_normal.go:137", after := #[{ on := 4, ground := Ground.data }, { on := 3, ground := Ground.data }, { on := 3, ground := Ground.chain }, { on := 0, ground := Ground.phase }, { on := 1, ground := Ground.phase }, { on := 2, ground := Ground.phase }, { on := 3, ground := Ground.phase }, { on := 4, ground := Ground.phase }], guard := none }) rfl (fun K hK => ?_) ?_
      ·obtain ⟨⟨d0, d1, d2, d3⟩, d4, d5, d6, d7⟩ := SB.out.all
       obtain ⟨⟨f0, f1, f2, f3⟩, f4, f5, f6, f7⟩ := SB.out.frees
       go_simp
       replace SB := Lib.hid (SB.out.fill (exR m k) ((exR_sim m k m8 hk).len))
       replace KB := Lib.hid (below_fill8 KB.out _ zG.out (.int .u8 (at8 (exR m k) 0)) (.int .u8 (at8 (exR m k) 1)) (.int .u8 (at8 (exR m k) 2)) (.int .u8 (at8 (exR m k) 3)) (.int .u8 (at8 (exR m k) 4)) (.int .u8 (at8 (exR m k) 5)) (.int .u8 (at8 (exR m k) 6)) (.int .u8 (at8 (exR m k) 7)))
       clear d0 d1 d2 d3 d4 d5 d6 d7 f0 f1 f2 f3 f4 f5 f6 f7
       clear KP
       obtain ⟨V9, hV9⟩ : ∃ V, V = ((((((((w4.setCell ⟨W0.heap.size, 0, none⟩ (.int .u8 (at8 (exR m k) 0))).setCell ⟨W0.heap.size, 1, none⟩ (.int .u8 (at8 (exR m k) 1))).setCell ⟨W0.heap.size, 2, none⟩ (.int .u8 (at8 (exR m k) 2))).setCell ⟨W0.heap.size, 3, none⟩ (.int .u8 (at8 (exR m k) 3))).setCell ⟨W0.heap.size, 4, none⟩ (.int .u8 (at8 (exR m k) 4))).setCell ⟨W0.heap.size, 5, none⟩ (.int .u8 (at8 (exR m k) 5))).setCell ⟨W0.heap.size, 6, none⟩ (.int .u8 (at8 (exR m k) 6))).setCell ⟨W0.heap.size, 7, none⟩ (.int .u8 (at8 (exR m k) 7))) := ⟨_, rfl⟩
       rw [← hV9] at SB KB ⊢
       clear hV9
       refine hK.out _ _ ?_ (fun hHeld => ?_)
       ·with_reducible exact SH.out _ KB.out
       clear hK K
       try simp only [Act.put, List.setIfInBounds_toArray, List.set_cons_zero, List.set_cons_succ]
       refine wpAnyH_done (by kernel_rfl) ?_ _
       obtain ⟨⟨d0, d1, d2, d3⟩, d4, d5, d6, d7⟩ := SB.out.all
       obtain ⟨⟨f0, f1, f2, f3⟩, f4, f5, f6, f7⟩ := SB.out.frees
       have n1 := SH.out _ KB.out
       gi_wp2_with fail
       refine ⟨trivial, ?_⟩
       gi_at_call 76
       refine (CallsIn.inRound l (callsIn_wide.2 (leftR_any m (exR m k) (exR_sim m k m8 hk) _))).mono ?_
       rintro e5 w5 ⟨rfl, gg⟩
       replace SB := Lib.hid (SB.out.below gg)
       replace KB := Lib.hid (below_go KB.out gg KB.out.size)
       clear d0 d1 d2 d3 d4 d5 d6 d7 f0 f1 f2 f3 f4 f5 f6 f7 gg
       obtain ⟨⟨d0, d1, d2, d3⟩, d4, d5, d6, d7⟩ := SB.out.all
       obtain ⟨⟨f0, f1, f2, f3⟩, f4, f5, f6, f7⟩ := SB.out.frees
       gi_wp2
       replace SB := Lib.hid (SB.out.fill (leftR m (exR m k)) ((leftR_sim (exR_sim m k m8 hk)).len))
       replace KB := Lib.hid (below_fill8 KB.out _ zG.out (.int .u8 (at8 (leftR m (exR m k)) 0)) (.int .u8 (at8 (leftR m (exR m k)) 1)) (.int .u8 (at8 (leftR m (exR m k)) 2)) (.int .u8 (at8 (leftR m (exR m k)) 3)) (.int .u8 (at8 (leftR m (exR m k)) 4)) (.int .u8 (at8 (leftR m (exR m k)) 5)) (.int .u8 (at8 (leftR m (exR m k)) 6)) (.int .u8 (at8 (leftR m (exR m k)) 7)))
       clear d0 d1 d2 d3 d4 d5 d6 d7 f0 f1 f2 f3 f4 f5 f6 f7 n1
       obtain ⟨V10, hV10⟩ : ∃ V, V = ((((((((w5.setCell ⟨W0.heap.size, 0, none⟩ (.int .u8 (at8 (leftR m (exR m k)) 0))).setCell ⟨W0.heap.size, 1, none⟩ (.int .u8 (at8 (leftR m (exR m k)) 1))).setCell ⟨W0.heap.size, 2, none⟩ (.int .u8 (at8 (leftR m (exR m k)) 2))).setCell ⟨W0.heap.size, 3, none⟩ (.int .u8 (at8 (leftR m (exR m k)) 3))).setCell ⟨W0.heap.size, 4, none⟩ (.int .u8 (at8 (leftR m (exR m k)) 4))).setCell ⟨W0.heap.size, 5, none⟩ (.int .u8 (at8 (leftR m (exR m k)) 5))).setCell ⟨W0.heap.size, 6, none⟩ (.int .u8 (at8 (leftR m (exR m k)) 6))).setCell ⟨W0.heap.size, 7, none⟩ (.int .u8 (at8 (leftR m (exR m k)) 7))) := ⟨_, rfl⟩
       rw [← hV10] at SB KB ⊢
       clear hV10
       replace KB := Lib.hid KB.out.drew
       replace SB := Lib.hid SB.out.drew
       refine round_region_held (S := (fun w' => w'.cell? ⟨w.heap.size + 1 + 1, 0, none⟩ = some (.int .i64 m) ∧ w'.cell? ⟨w.heap.size + 1 + 1 + 1, 0, none⟩ = some (.int .i64 st.1) ∧ w'.cell? ⟨w1.heap.size, 0, none⟩ = some (.slice (some ⟨w.heap.size + 1 + 1 + 1 + 1, 0, none⟩) n n) ∧ (w'.cell? ⟨W0.heap.size, 0, none⟩ = some (.int .u8 (at8 (leftR m (exR m k)) 0)) ∧ w'.cell? ⟨W0.heap.size, 1, none⟩ = some (.int .u8 (at8 (leftR m (exR m k)) 1)) ∧ w'.cell? ⟨W0.heap.size, 2, none⟩ = some (.int .u8 (at8 (leftR m (exR m k)) 2)) ∧ w'.cell? ⟨W0.heap.size, 3, none⟩ = some (.int .u8 (at8 (leftR m (exR m k)) 3)) ∧ w'.cell? ⟨W0.heap.size, 4, none⟩ = some (.int .u8 (at8 (leftR m (exR m k)) 4)) ∧ w'.cell? ⟨W0.heap.size, 5, none⟩ = some (.int .u8 (at8 (leftR m (exR m k)) 5)) ∧ w'.cell? ⟨W0.heap.size, 6, none⟩ = some (.int .u8 (at8 (leftR m (exR m k)) 6)) ∧ w'.cell? ⟨W0.heap.size, 7, none⟩ = some (.int .u8 (at8 (leftR m (exR m k)) 7))))) (by kernel_rfl) (by kernel_rfl) (by rintro ⟨_, _, h⟩; exact h) ?_ (fun hHeld => ?_)
       ·first | with_reducible exact ⟨SH.out _ KB.out, SP.out _ KB.out, SS.out _ KB.out, SB.out.flat⟩ | exact ⟨G3.out.sn.2.1, G3.out.sp.2.1, G3.out.ss.2.1, SB.out.flat⟩
       refine wpAnyH_take (i := 0) (oi := { dst := some 34, op := Op.load 26 (Operand.tmp 5), type := 26, pos := "l03_normal.go:141", after := #[], guard := none }) (v := ?_) rfl (by kernel_rfl) (by kernel_rfl) (by kernel_rfl) (fun _ _ _ h => h) (Or.inl ⟨by rfl, ?_⟩) (by assumption) ?_
       rotate_left
       ·intro w hSw
        (try dsimp only at hSw)
        go_simp
        try with_reducible rfl
       try simp only [Act.put, List.setIfInBounds_toArray, List.set_cons_zero, List.set_cons_succ]
       refine wpAnyH_take (i := 1) (oi := { dst := some 35, op := Op.move (Operand.tmp 6), type := 3, pos := "l03_normal.go:141", after := #[], guard := none }) (v := ?_) rfl (by kernel_rfl) (by kernel_rfl) (by kernel_rfl) (fun _ _ _ h => h) (Or.inl ⟨by rfl, ?_⟩) (by assumption) ?_
       rotate_left
       ·intro w hSw
        (try dsimp only at hSw)
        go_simp
        try with_reducible rfl
       try simp only [Act.put, List.setIfInBounds_toArray, List.set_cons_zero, List.set_cons_succ]
       refine wpAnyH_take (i := 2) (oi := { dst := some 36, op := Op.load 77 (Operand.tmp 9), type := 77, pos := "l03_normal.go:141", after := #[], guard := none }) (v := ?_) rfl (by kernel_rfl) (by kernel_rfl) (by kernel_rfl) (fun _ _ _ h => h) (Or.inl ⟨by rfl, ?_⟩) (by assumption) ?_
       rotate_left
       ·intro w hSw
        (try dsimp only at hSw)
        go_simp
        try with_reducible rfl
       try simp only [Act.put, List.setIfInBounds_toArray, List.set_cons_zero, List.set_cons_succ]
       refine wpAnyH_take (i := 3) (oi := { dst := some 37, op := Op.load 2 (Operand.tmp 4), type := 2, pos := "l03_normal.go:141", after := #[], guard := none }) (v := ?_) rfl (by kernel_rfl) (by kernel_rfl) (by kernel_rfl) (fun _ _ _ h => h) (Or.inl ⟨by rfl, ?_⟩) (by assumption) ?_
       rotate_left
       ·intro w hSw
        (try dsimp only at hSw)
        go_simp
        try with_reducible rfl
       try simp only [Act.put, List.setIfInBounds_toArray, List.set_cons_zero, List.set_cons_succ]
       refine wpAnyH_take (i := 4) (oi := { dst := some 38, op := Op.load 2 (Operand.tmp 3), type := 2, pos := "l03_normal.go:141", after := #[], guard := none }) (v := ?_) rfl (by kernel_rfl) (by kernel_rfl) (by kernel_rfl) (fun _ _ _ h => h) (Or.inl ⟨by rfl, ?_⟩) (by assumption) ?_
       rotate_left
       ·intro w hSw
        (try dsimp only at hSw)
        go_simp
        try with_reducible rfl
       try simp only [Act.put, List.setIfInBounds_toArray, List.set_cons_zero, List.set_cons_succ]
       refine wpAnyH_ready (rs := [5]) (by kernel_rfl) (by simp) ?_
       refine AllReadyH.cons (o := { dst := some 39, op := Op.call { callee := Callee.value (Operand.func 66), args := #[Operand.tmp 36, Operand.tmp 37, Operand.tmp 38], argTypes := #[77, 2, 2] }, type := 77, pos := "l03_normal.go:141", after := #[{ on := 2, ground := Ground.data }, { on := 3, ground := Ground.data }, { on := 4, ground := Ground.data }], guard := none }) rfl (fun K hK => ?_) ?_
       ·go_simp
        refine (turned_any m st.1 (leftR m (exR m k)) (leftR_sim (exR_sim m k m8 hk)) _).mono ?_
        rintro e6 w6 ⟨rfl, gg⟩
        replace SB := Lib.hid (SB.out.below gg)
        replace KB := Lib.hid (below_go KB.out gg KB.out.size)
        clear gg
        go_wp2_with fail
        refine hK.out _ _ ?_ (fun hHeld => ?_)
        ·first | with_reducible exact ⟨SH.out _ KB.out, SP.out _ KB.out, SS.out _ KB.out, SB.out.flat⟩ | exact ⟨G3.out.sn.2.1, G3.out.sp.2.1, G3.out.ss.2.1, SB.out.flat⟩
        clear hK K
        try simp only [Act.put, List.setIfInBounds_toArray, List.set_cons_zero, List.set_cons_succ]
        refine wpAnyH_ready (rs := [6]) (by kernel_rfl) (by simp) ?_
        refine AllReadyH.cons (o := { dst := some 40, op := Op.indexAddr 26 (Operand.tmp 34) (Operand.tmp 35), type := 0, pos := "l03_normal.go:141", after := #[{ on := 0, ground := Ground.data }, { on := 1, ground := Ground.data }, { on := 0, ground := Ground.phase }, { on := 1, ground := Ground.phase }, { on := 2, ground := Ground.phase }, { on := 3, ground := Ground.phase }, { on := 4, ground := Ground.phase }, { on := 5, ground := Ground.phase }], guard := none }) rfl (fun K hK => ?_) ?_
        ·go_simp
         refine hK.out _ _ ?_ (fun hHeld => ?_)
         ·first | with_reducible exact ⟨SH.out _ KB.out, SP.out _ KB.out, SS.out _ KB.out, SB.out.flat⟩ | exact ⟨G3.out.sn.2.1, G3.out.sp.2.1, G3.out.ss.2.1, SB.out.flat⟩
         clear hK K
         try simp only [Act.put, List.setIfInBounds_toArray, List.set_cons_zero, List.set_cons_succ]
         refine wpAnyH_ready (rs := [7]) (by kernel_rfl) (by simp) ?_
         refine AllReadyH.cons (o := { dst := none, op := Op.store 77 (Operand.tmp 40) (Operand.tmp 39), type := 0, pos := "l03_normal.go:141", after := #[{ on := 6, ground := Ground.data }, { on := 5, ground := Ground.data }, { on := 5, ground := Ground.chain }, { on := 0, ground := Ground.phase }, { on := 1, ground := Ground.phase }, { on := 2, ground := Ground.phase }, { on := 3, ground := Ground.phase }, { on := 4, ground := Ground.phase }, { on := 5, ground := Ground.phase }], guard := none }) rfl (fun K hK => ?_) ?_
         ·have G2 := Lib.hid (G.out.below KB.out)
          obtain ⟨d0, d1, d2, d3, d4, d5, d6, d7⟩ := (G2.out.rw'.cellAt i hil).flat
          have f0 := G2.out.rw'.frozenAt (i * 8)
          have f1 := G2.out.rw'.frozenAt (i * 8 + 1)
          have f2 := G2.out.rw'.frozenAt (i * 8 + 2)
          have f3 := G2.out.rw'.frozenAt (i * 8 + 3)
          have f4 := G2.out.rw'.frozenAt (i * 8 + 4)
          have f5 := G2.out.rw'.frozenAt (i * 8 + 5)
          have f6 := G2.out.rw'.frozenAt (i * 8 + 6)
          have f7 := G2.out.rw'.frozenAt (i * 8 + 7)
          go_simp
          have G3 := Lib.hid (G2.out.row hgs i hil (turnK m st.1 (leftR m (exR m k))) ((turnK_sim st.1 (leftR_sim (exR_sim m k m8 hk))).len))
          replace SB := Lib.hid (SB.out.pastAt (w.heap.size + 1 + 1 + 1 + 1) (i * 8) (by have := zG.out; have := HSQ.out; omega) (.int .u8 (at8 (turnK m st.1 (leftR m (exR m k))) 0)) (.int .u8 (at8 (turnK m st.1 (leftR m (exR m k))) 1)) (.int .u8 (at8 (turnK m st.1 (leftR m (exR m k))) 2)) (.int .u8 (at8 (turnK m st.1 (leftR m (exR m k))) 3)) (.int .u8 (at8 (turnK m st.1 (leftR m (exR m k))) 4)) (.int .u8 (at8 (turnK m st.1 (leftR m (exR m k))) 5)) (.int .u8 (at8 (turnK m st.1 (leftR m (exR m k))) 6)) (.int .u8 (at8 (turnK m st.1 (leftR m (exR m k))) 7)))
          clear d0 d1 d2 d3 d4 d5 d6 d7 f0 f1 f2 f3 f4 f5 f6 f7
          refine hK.out _ _ ?_ (fun hHeld => ?_)
          ·first | with_reducible exact ⟨SH.out _ KB.out, SP.out _ KB.out, SS.out _ KB.out, SB.out.flat⟩ | exact ⟨G3.out.sn.2.1, G3.out.sp.2.1, G3.out.ss.2.1, SB.out.flat⟩
          clear hK K
          try simp only [Act.put, List.setIfInBounds_toArray, List.set_cons_zero, List.set_cons_succ]
          refine wpAnyH_done (by kernel_rfl) ?_ _
          obtain ⟨p0, p1, p2⟩ := G3.out.sp
          gi_wp2
          have hb9 := HBX.out
          have hsq := HSQ.out
          refine And.intro ?_ (And.intro ?_ ?_)
          ·exact (keepsOthers_set (keepsOthers_set8 (keepsOthers_of KB.out) (w.heap.size + 1 + 1 + 1 + 1) (i * 8) (turnK m st.1 (leftR m (exR m k)))) ⟨w.heap.size + 1 + 1 + 1, 0, none⟩ (.int .i64 (st.1 - 1)))
          ·exact (((Keeps2.of KB.out (by omega) (by omega)).set8 (w.heap.size + 1 + 1 + 1 + 1) (i * 8) (by omega) (by omega) (turnK m st.1 (leftR m (exR m k)))).set (p := ⟨w.heap.size + 1 + 1 + 1, 0, none⟩) (by show b ≠ w.heap.size + 1 + 1 + 1; omega) (by show w1.heap.size + 1 ≠ w.heap.size + 1 + 1 + 1; omega) (.int .i64 (st.1 - 1)))
          show AtNof _ _ _ _ _ (foldB m n (pre ++ [_])) _
          rw [foldB_snoc, ← HST.out]
          have e9 : stepB m st i (-(k : Int) - 1) = (st.1 - 1, st.2.set i (turnK m st.1 (leftR m (exR m k)))) := by unfold stepB baseR; rw [if_pos (by omega), if_neg (by omega), show (-(-(k : Int) - 1) - 1).toNat = k by omega]
          dsimp only
          rw [e9]
          exact G3.out.power hgs _
         exact AllReadyH.nil
        exact AllReadyH.nil
       exact AllReadyH.nil
      exact AllReadyH.nil
     exact AllReadyH.nil
    exact AllReadyH.nil
   refine AllReadyH.cons (o := { dst := some 9, op := Op.alloc 77, type := 0, pos := "l03_normal.go:137", after := #[], guard := none }) rfl (fun K hK => ?_) ?_
   ·go_simp
    have KP := Lib.hid KB.out
    have SB : Hid (Row8 (W0.alloc (.cells #[.int .u8 0, .int .u8 0, .int .u8 0, .int .u8 0, .int .u8 0, .int .u8 0, .int .u8 0, .int .u8 0] 77)).drew (W0.heap.size) .u8 [0, 0, 0, 0, 0, 0, 0, 0]) := Lib.hid ((Row8.zeros W0 .u8 77 (W0.heap.size) (by simp)).drew)
    have zG : Hid (W0.heap.size ≤ W0.heap.size) := Lib.hid (KB.out.size)
    replace KB : Hid (Below W0.heap.size W0 (W0.alloc (.cells #[.int .u8 0, .int .u8 0, .int .u8 0, .int .u8 0, .int .u8 0, .int .u8 0, .int .u8 0, .int .u8 0] 77)).drew) := Lib.hid (KB.out.alloc KB.out.size (.cells #[.int .u8 0, .int .u8 0, .int .u8 0, .int .u8 0, .int .u8 0, .int .u8 0, .int .u8 0, .int .u8 0] 77))
    refine hK.out _ _ ?_ (fun hHeld => ?_)
    ·with_reducible exact SH.out _ KB.out
    clear hK K
    try simp only [Act.put, List.setIfInBounds_toArray, List.set_cons_zero, List.set_cons_succ]
    refine wpAnyH_ready (rs := [1]) (by kernel_rfl) (by simp) ?_
    refine AllReadyH.cons (o := { dst := some 26, op := Op.call { callee := Callee.value (Operand.func 75), args := #[Operand.tmp 25], argTypes := #[100] }, type := 2, pos := "l03_normal.go:137", after := #[{ on := 0, ground := Ground.data }], guard := none }) rfl (fun K hK => ?_) ?_
    ·go_simp
     refine (index_neg k _ (by omega)).mono ?_
     rintro e3 w3 ⟨rfl, rfl⟩
     go_wp2_with fail
     refine hK.out _ _ ?_ (fun hHeld => ?_)
     ·with_reducible exact SH.out _ KB.out
     clear hK K
     try simp only [Act.put, List.setIfInBounds_toArray, List.set_cons_zero, List.set_cons_succ]
     refine wpAnyH_ready (rs := [3]) (by kernel_rfl) (by simp) ?_
     refine AllReadyH.cons (o := { dst := some 28, op := Op.call { callee := Callee.value (Operand.func 74), args := #[Operand.tmp 26, Operand.tmp 27], argTypes := #[2, 2] }, type := 77, pos := "l03_normal.go:137", after := #[{ on := 1, ground := Ground.data }, { on := 2, ground := Ground.data }, { on := 1, ground := Ground.chain }], guard := none }) rfl (fun K hK => ?_) ?_
     ·go_simp
      refine (exchange_any m k m8 hk _).mono ?_
      rintro e4 w4 ⟨rfl, gg⟩
      replace SB := Lib.hid (SB.out.below gg)
      replace KB := Lib.hid (below_go KB.out gg KB.out.size)
      clear gg
      go_wp2_with fail
      refine hK.out _ _ ?_ (fun hHeld => ?_)
      ·with_reducible exact SH.out _ KB.out
      clear hK K
      try simp only [Act.put, List.setIfInBounds_toArray, List.set_cons_zero, List.set_cons_succ]
      refine wpAnyH_ready (rs := [5]) (by kernel_rfl) (by simp) ?_
      refine AllReadyH.cons (o := { dst := none, op := Op.store 77 (Operand.tmp 9) (Operand.tmp 28), type := 0, pos := "l03_normal.go:137", after := #[{ on := 4, ground := Ground.data }, { on := 3, ground := Ground.data }, { on := 3, ground := Ground.chain }, { on := 0, ground := Ground.phase }, { on := 1, ground := Ground.phase }, { on := 2, ground := Ground.phase }, { on := 3, ground := Ground.phase }, { on := 4, ground := Ground.phase }], guard := none }) rfl (fun K hK => ?_) ?_
      ·obtain ⟨⟨d0, d1, d2, d3⟩, d4, d5, d6, d7⟩ := SB.out.all
       obtain ⟨⟨f0, f1, f2, f3⟩, f4, f5, f6, f7⟩ := SB.out.frees
       go_simp
       replace SB := Lib.hid (SB.out.fill (exR m k) ((exR_sim m k m8 hk).len))
       replace KB := Lib.hid (below_fill8 KB.out _ zG.out (.int .u8 (at8 (exR m k) 0)) (.int .u8 (at8 (exR m k) 1)) (.int .u8 (at8 (exR m k) 2)) (.int .u8 (at8 (exR m k) 3)) (.int .u8 (at8 (exR m k) 4)) (.int .u8 (at8 (exR m k) 5)) (.int .u8 (at8 (exR m k) 6)) (.int .u8 (at8 (exR m k) 7)))
       clear d0 d1 d2 d3 d4 d5 d6 d7 f0 f1 f2 f3 f4 f5 f6 f7
       clear KP
       obtain ⟨V9, hV9⟩ : ∃ V, V = ((((((((w4.setCell ⟨W0.heap.size, 0, none⟩ (.int .u8 (at8 (exR m k) 0))).setCell ⟨W0.heap.size, 1, none⟩ (.int .u8 (at8 (exR m k) 1))).setCell ⟨W0.heap.size, 2, none⟩ (.int .u8 (at8 (exR m k) 2))).setCell ⟨W0.heap.size, 3, none⟩ (.int .u8 (at8 (exR m k) 3))).setCell ⟨W0.heap.size, 4, none⟩ (.int .u8 (at8 (exR m k) 4))).setCell ⟨W0.heap.size, 5, none⟩ (.int .u8 (at8 (exR m k) 5))).setCell ⟨W0.heap.size, 6, none⟩ (.int .u8 (at8 (exR m k) 6))).setCell ⟨W0.heap.size, 7, none⟩ (.int .u8 (at8 (exR m k) 7))) := ⟨_, rfl⟩
       rw [← hV9] at SB KB ⊢
       clear hV9
       refine hK.out _ _ ?_ (fun hHeld => ?_)
       ·with_reducible exact SH.out _ KB.out
       clear hK K
       try simp only [Act.put, List.setIfInBounds_toArray, List.set_cons_zero, List.set_cons_succ]
       refine wpAnyH_done (by kernel_rfl) ?_ _
       obtain ⟨⟨d0, d1, d2, d3⟩, d4, d5, d6, d7⟩ := SB.out.all
       obtain ⟨⟨f0, f1, f2, f3⟩, f4, f5, f6, f7⟩ := SB.out.frees
       have n1 := SH.out _ KB.out
       gi_wp2_with fail
       refine ⟨trivial, ?_⟩
       gi_at_call 76
       refine (CallsIn.inRound l (callsIn_wide.2 (leftR_any m (exR m k) (exR_sim m k m8 hk) _))).mono ?_
       rintro e5 w5 ⟨rfl, gg⟩
       replace SB := Lib.hid (SB.out.below gg)
       replace KB := Lib.hid (below_go KB.out gg KB.out.size)
       clear d0 d1 d2 d3 d4 d5 d6 d7 f0 f1 f2 f3 f4 f5 f6 f7 gg
       obtain ⟨⟨d0, d1, d2, d3⟩, d4, d5, d6, d7⟩ := SB.out.all
       obtain ⟨⟨f0, f1, f2, f3⟩, f4, f5, f6, f7⟩ := SB.out.frees
       gi_wp2
       replace SB := Lib.hid (SB.out.fill (leftR m (exR m k)) ((leftR_sim (exR_sim m k m8 hk)).len))
       replace KB := Lib.hid (below_fill8 KB.out _ zG.out (.int .u8 (at8 (leftR m (exR m k)) 0)) (.int .u8 (at8 (leftR m (exR m k)) 1)) (.int .u8 (at8 (leftR m (exR m k)) 2)) (.int .u8 (at8 (leftR m (exR m k)) 3)) (.int .u8 (at8 (leftR m (exR m k)) 4)) (.int .u8 (at8 (leftR m (exR m k)) 5)) (.int .u8 (at8 (leftR m (exR m k)) 6)) (.int .u8 (at8 (leftR m (exR m k)) 7)))
       clear d0 d1 d2 d3 d4 d5 d6 d7 f0 f1 f2 f3 f4 f5 f6 f7 n1
       obtain ⟨V10, hV10⟩ : ∃ V, V = ((((((((w5.setCell ⟨W0.heap.size, 0, none⟩ (.int .u8 (at8 (leftR m (exR m k)) 0))).setCell ⟨W0.heap.size, 1, none⟩ (.int .u8 (at8 (leftR m (exR m k)) 1))).setCell ⟨W0.heap.size, 2, none⟩ (.int .u8 (at8 (leftR m (exR m k)) 2))).setCell ⟨W0.heap.size, 3, none⟩ (.int .u8 (at8 (leftR m (exR m k)) 3))).setCell ⟨W0.heap.size, 4, none⟩ (.int .u8 (at8 (leftR m (exR m k)) 4))).setCell ⟨W0.heap.size, 5, none⟩ (.int .u8 (at8 (leftR m (exR m k)) 5))).setCell ⟨W0.heap.size, 6, none⟩ (.int .u8 (at8 (leftR m (exR m k)) 6))).setCell ⟨W0.heap.size, 7, none⟩ (.int .u8 (at8 (leftR m (exR m k)) 7))) := ⟨_, rfl⟩
       rw [← hV10] at SB KB ⊢
       clear hV10
       replace KB := Lib.hid KB.out.drew
       replace SB := Lib.hid SB.out.drew
       refine round_region_held (S := (fun w' => w'.cell? ⟨w.heap.size + 1 + 1, 0, none⟩ = some (.int .i64 m) ∧ w'.cell? ⟨w.heap.size + 1 + 1 + 1, 0, none⟩ = some (.int .i64 st.1) ∧ w'.cell? ⟨w1.heap.size, 0, none⟩ = some (.slice (some ⟨w.heap.size + 1 + 1 + 1 + 1, 0, none⟩) n n) ∧ (w'.cell? ⟨W0.heap.size, 0, none⟩ = some (.int .u8 (at8 (leftR m (exR m k)) 0)) ∧ w'.cell? ⟨W0.heap.size, 1, none⟩ = some (.int .u8 (at8 (leftR m (exR m k)) 1)) ∧ w'.cell? ⟨W0.heap.size, 2, none⟩ = some (.int .u8 (at8 (leftR m (exR m k)) 2)) ∧ w'.cell? ⟨W0.heap.size, 3, none⟩ = some (.int .u8 (at8 (leftR m (exR m k)) 3)) ∧ w'.cell? ⟨W0.heap.size, 4, none⟩ = some (.int .u8 (at8 (leftR m (exR m k)) 4)) ∧ w'.cell? ⟨W0.heap.size, 5, none⟩ = some (.int .u8 (at8 (leftR m (exR m k)) 5)) ∧ w'.cell? ⟨W0.heap.size, 6, none⟩ = some (.int .u8 (at8 (leftR m (exR m k)) 6)) ∧ w'.cell? ⟨W0.heap.size, 7, none⟩ = some (.int .u8 (at8 (leftR m (exR m k)) 7))))) (by kernel_rfl) (by kernel_rfl) (by rintro ⟨_, _, h⟩; exact h) ?_ (fun hHeld => ?_)
       ·first | with_reducible exact ⟨SH.out _ KB.out, SP.out _ KB.out, SS.out _ KB.out, SB.out.flat⟩ | exact ⟨G3.out.sn.2.1, G3.out.sp.2.1, G3.out.ss.2.1, SB.out.flat⟩
       refine wpAnyH_take (i := 0) (oi := { dst := some 34, op := Op.load 26 (Operand.tmp 5), type := 26, pos := "l03_normal.go:141", after := #[], guard := none }) (v := ?_) rfl (by kernel_rfl) (by kernel_rfl) (by kernel_rfl) (fun _ _ _ h => h) (Or.inl ⟨by rfl, ?_⟩) (by assumption) ?_
       rotate_left
       ·intro w hSw
        (try dsimp only at hSw)
        go_simp
        try with_reducible rfl
       try simp only [Act.put, List.setIfInBounds_toArray, List.set_cons_zero, List.set_cons_succ]
       refine wpAnyH_take (i := 1) (oi := { dst := some 35, op := Op.move (Operand.tmp 6), type := 3, pos := "l03_normal.go:141", after := #[], guard := none }) (v := ?_) rfl (by kernel_rfl) (by kernel_rfl) (by kernel_rfl) (fun _ _ _ h => h) (Or.inl ⟨by rfl, ?_⟩) (by assumption) ?_
       rotate_left
       ·intro w hSw
        (try dsimp only at hSw)
        go_simp
        try with_reducible rfl
       try simp only [Act.put, List.setIfInBounds_toArray, List.set_cons_zero, List.set_cons_succ]
       refine wpAnyH_take (i := 2) (oi := { dst := some 36, op := Op.load 77 (Operand.tmp 9), type := 77, pos := "l03_normal.go:141", after := #[], guard := none }) (v := ?_) rfl (by kernel_rfl) (by kernel_rfl) (by kernel_rfl) (fun _ _ _ h => h) (Or.inl ⟨by rfl, ?_⟩) (by assumption) ?_
       rotate_left
       ·intro w hSw
        (try dsimp only at hSw)
        go_simp
        try with_reducible rfl
       try simp only [Act.put, List.setIfInBounds_toArray, List.set_cons_zero, List.set_cons_succ]
       refine wpAnyH_take (i := 3) (oi := { dst := some 37, op := Op.load 2 (Operand.tmp 4), type := 2, pos := "l03_normal.go:141", after := #[], guard := none }) (v := ?_) rfl (by kernel_rfl) (by kernel_rfl) (by kernel_rfl) (fun _ _ _ h => h) (Or.inl ⟨by rfl, ?_⟩) (by assumption) ?_
       rotate_left
       ·intro w hSw
        (try dsimp only at hSw)
        go_simp
        try with_reducible rfl
       try simp only [Act.put, List.setIfInBounds_toArray, List.set_cons_zero, List.set_cons_succ]
       refine wpAnyH_take (i := 4) (oi := { dst := some 38, op := Op.load 2 (Operand.tmp 3), type := 2, pos := "l03_normal.go:141", after := #[], guard := none }) (v := ?_) rfl (by kernel_rfl) (by kernel_rfl) (by kernel_rfl) (fun _ _ _ h => h) (Or.inl ⟨by rfl, ?_⟩) (by assumption) ?_
       rotate_left
       ·intro w hSw
        (try dsimp only at hSw)
        go_simp
        try with_reducible rfl
       try simp only [Act.put, List.setIfInBounds_toArray, List.set_cons_zero, List.set_cons_succ]
       refine wpAnyH_ready (rs := [5]) (by kernel_rfl) (by simp) ?_
       refine AllReadyH.cons (o := { dst := some 39, op := Op.call { callee := Callee.value (Operand.func 66), args := #[Operand.tmp 36, Operand.tmp 37, Operand.tmp 38], argTypes := #[77, 2, 2] }, type := 77, pos := "l03_normal.go:141", after := #[{ on := 2, ground := Ground.data }, { on := 3, ground := Ground.data }, { on := 4, ground := Ground.data }], guard := none }) rfl (fun K hK => ?_) ?_
       ·go_simp
        refine (turned_any m st.1 (leftR m (exR m k)) (leftR_sim (exR_sim m k m8 hk)) _).mono ?_
        rintro e6 w6 ⟨rfl, gg⟩
        replace SB := Lib.hid (SB.out.below gg)
        replace KB := Lib.hid (below_go KB.out gg KB.out.size)
        clear gg
        go_wp2_with fail
        refine hK.out _ _ ?_ (fun hHeld => ?_)
        ·first | with_reducible exact ⟨SH.out _ KB.out, SP.out _ KB.out, SS.out _ KB.out, SB.out.flat⟩ | exact ⟨G3.out.sn.2.1, G3.out.sp.2.1, G3.out.ss.2.1, SB.out.flat⟩
        clear hK K
        try simp only [Act.put, List.setIfInBounds_toArray, List.set_cons_zero, List.set_cons_succ]
        refine wpAnyH_ready (rs := [6]) (by kernel_rfl) (by simp) ?_
        refine AllReadyH.cons (o := { dst := some 40, op := Op.indexAddr 26 (Operand.tmp 34) (Operand.tmp 35), type := 0, pos := "l03_normal.go:141", after := #[{ on := 0, ground := Ground.data }, { on := 1, ground := Ground.data }, { on := 0, ground := Ground.phase }, { on := 1, ground := Ground.phase }, { on := 2, ground := Ground.phase }, { on := 3, ground := Ground.phase }, { on := 4, ground := Ground.phase }, { on := 5, ground := Ground.phase }], guard := none }) rfl (fun K hK => ?_) ?_
        ·go_simp
         refine hK.out _ _ ?_ (fun hHeld => ?_)
         ·first | with_reducible exact ⟨SH.out _ KB.out, SP.out _ KB.out, SS.out _ KB.out, SB.out.flat⟩ | exact ⟨G3.out.sn.2.1, G3.out.sp.2.1, G3.out.ss.2.1, SB.out.flat⟩
         clear hK K
         try simp only [Act.put, List.setIfInBounds_toArray, List.set_cons_zero, List.set_cons_succ]
         refine wpAnyH_ready (rs := [7]) (by kernel_rfl) (by simp) ?_
         refine AllReadyH.cons (o := { dst := none, op := Op.store 77 (Operand.tmp 40) (Operand.tmp 39), type := 0, pos := "l03_normal.go:141", after := #[{ on := 6, ground := Ground.data }, { on := 5, ground := Ground.data }, { on := 5, ground := Ground.chain }, { on := 0, ground := Ground.phase }, { on := 1, ground := Ground.phase }, { on := 2, ground := Ground.phase }, { on := 3, ground := Ground.phase }, { on := 4, ground := Ground.phase }, { on := 5, ground := Ground.phase }], guard := none }) rfl (fun K hK => ?_) ?_
         ·have G2 := Lib.hid (G.out.below KB.out)
          obtain ⟨d0, d1, d2, d3, d4, d5, d6, d7⟩ := (G2.out.rw'.cellAt i hil).flat
          have f0 := G2.out.rw'.frozenAt (i * 8)
          have f1 := G2.out.rw'.frozenAt (i * 8 + 1)
          have f2 := G2.out.rw'.frozenAt (i * 8 + 2)
          have f3 := G2.out.rw'.frozenAt (i * 8 + 3)
          have f4 := G2.out.rw'.frozenAt (i * 8 + 4)
          have f5 := G2.out.rw'.frozenAt (i * 8 + 5)
          have f6 := G2.out.rw'.frozenAt (i * 8 + 6)
          have f7 := G2.out.rw'.frozenAt (i * 8 + 7)
          go_simp
          have G3 := Lib.hid (G2.out.row hgs i hil (turnK m st.1 (leftR m (exR m k))) ((turnK_sim st.1 (leftR_sim (exR_sim m k m8 hk))).len))
          replace SB := Lib.hid (SB.out.pastAt (w.heap.size + 1 + 1 + 1 + 1) (i * 8) (by have := zG.out; have := HSQ.out; omega) (.int .u8 (at8 (turnK m st.1 (leftR m (exR m k))) 0)) (.int .u8 (at8 (turnK m st.1 (leftR m (exR m k))) 1)) (.int .u8 (at8 (turnK m st.1 (leftR m (exR m k))) 2)) (.int .u8 (at8 (turnK m st.1 (leftR m (exR m k))) 3)) (.int .u8 (at8 (turnK m st.1 (leftR m (exR m k))) 4)) (.int .u8 (at8 (turnK m st.1 (leftR m (exR m k))) 5)) (.int .u8 (at8 (turnK m st.1 (leftR m (exR m k))) 6)) (.int .u8 (at8 (turnK m st.1 (leftR m (exR m k))) 7)))
          clear d0 d1 d2 d3 d4 d5 d6 d7 f0 f1 f2 f3 f4 f5 f6 f7
          refine hK.out _ _ ?_ (fun hHeld => ?_)
          ·first | with_reducible exact ⟨SH.out _ KB.out, SP.out _ KB.out, SS.out _ KB.out, SB.out.flat⟩ | exact ⟨G3.out.sn.2.1, G3.out.sp.2.1, G3.out.ss.2.1, SB.out.flat⟩
          clear hK K
          try simp only [Act.put, List.setIfInBounds_toArray, List.set_cons_zero, List.set_cons_succ]
          refine wpAnyH_done (by kernel_rfl) ?_ _
          obtain ⟨p0, p1, p2⟩ := G3.out.sp
          gi_wp2
          have hb9 := HBX.out
          have hsq := HSQ.out
          refine And.intro ?_ (And.intro ?_ ?_)
          ·exact (keepsOthers_set (keepsOthers_set8 (keepsOthers_of KB.out) (w.heap.size + 1 + 1 + 1 + 1) (i * 8) (turnK m st.1 (leftR m (exR m k)))) ⟨w.heap.size + 1 + 1 + 1, 0, none⟩ (.int .i64 (st.1 - 1)))
          ·exact (((Keeps2.of KB.out (by omega) (by omega)).set8 (w.heap.size + 1 + 1 + 1 + 1) (i * 8) (by omega) (by omega) (turnK m st.1 (leftR m (exR m k)))).set (p := ⟨w.heap.size + 1 + 1 + 1, 0, none⟩) (by show b ≠ w.heap.size + 1 + 1 + 1; omega) (by show w1.heap.size + 1 ≠ w.heap.size + 1 + 1 + 1; omega) (.int .i64 (st.1 - 1)))
          show AtNof _ _ _ _ _ (foldB m n (pre ++ [_])) _
          rw [foldB_snoc, ← HST.out]
          have e9 : stepB m st i (-(k : Int) - 1) = (st.1 - 1, st.2.set i (turnK m st.1 (leftR m (exR m k)))) := by unfold stepB baseR; rw [if_pos (by omega), if_neg (by omega), show (-(-(k : Int) - 1) - 1).toNat = k by omega]
          dsimp only
          rw [e9]
          exact G3.out.power hgs _
         exact AllReadyH.nil
        exact AllReadyH.nil
       exact AllReadyH.nil
      exact AllReadyH.nil
     exact AllReadyH.nil
    exact AllReadyH.nil
   exact AllReadyH.nil
 case done =>
  rintro D ys W hD rfl hI hK
  rw [hzf] at hI
  obtain ⟨p0, p1, p2⟩ := hI.sp
  obtain ⟨n0, n1, n2⟩ := hI.sn
  obtain ⟨s0, s1, s2⟩ := hI.ss
  have HZ := Lib.hid hI
  have HKD := Lib.hid hK
  clear hI hK hz hzi hzf hcl ha HF BX SN SP SS RW Z BL BR
  have hz0w := HZ.out.hi
  have hDl : D < W.heap.size := (Array.getElem?_eq_some_iff.1 HKD.out).1
  have hbz := HZ.out.kb.size
  have hgs := HZ.out.rw'
  have hgl : w.heap.size + 1 + 1 + 1 + 1 < W.heap.size := by omega
  obtain ⟨gp, hgp⟩ : ∃ gp, gp = W.heap.size := ⟨_, rfl⟩
  have G : Hid (AtN2 w m n gp D (-(negs xs : Int)) none 0 0 [] (rawB m xs) (W.alloc (.cells #[.int .i64 m, .int .i64 (-(negs xs : Int)), .slice none 0 0] 28))) := Lib.hid
   ⟨HZ.out.z.alloc _, At3.place W _ _ _ _ gp hgp.symm, OwnS.nil _ _ _, HZ.out.rw'.alloc _, HZ.out.kb.alloc HZ.out.kb.size _, (((Below.refl W.heap.size W).alloc (Nat.le_refl _) (.cells #[.int .i64 m, .int .i64 (-(negs xs : Int)), .slice none 0 0] 28)).block D hDl).trans HKD.out, by omega, by omega, .inl rfl⟩
  gi_wp2
  rw [← hgp]
  clear hgp p0 p1 p2 n0 n1 n2 s0 s1 s2 q0 q1 q2 q3 q4 HZ HKD hgs
  gi_loopw [50] (fun i wx => ∃ j e2 ak nk ck lk, j ≤ n ∧ i = .int .i64 (j : Nat) ∧ AtN2 w m n gp D e2 ak nk ck lk (rawB m xs) wx ∧ nk ≤ ck ∧ Nl m lk ∧ mkN m (-(negs xs : Int)) ((rawB m xs).take j) = (e2, lk)) (fun i _ => n - (intOf i).toNat)
  case atStart => exact ⟨0, _, _, _, _, _, Nat.zero_le _, rfl, G.out, Nat.le_refl _, Nl.nil, by rw [List.take_zero]; exact mkN_id _ (Nl.nil)⟩
  case round =>
   obtain ⟨j, e2, ak, nk, ck, lk, hj, rfl, hG, hck, hlk, hmk⟩ := hrel
   clear G
   have G := Lib.hid hG
   have HLK := Lib.hid hlk
   have HMK := Lib.hid hmk
   clear hG hlk hmk
   have hnk := G.out.own.len
   have hrl : (rawB m xs).length = n := (rawB_len m xs).trans HN.out
   have hlen := mkN_len m (-(negs xs : Int)) ((rawB m xs).take j)
   rw [HMK.out] at hlen
   simp only [List.length_take] at hlen
   rw [hrl] at hlen
   have hng := negs_le xs
   rw [HN.out] at hng
   have HRL := Lib.hid hrl
   clear hrl
   by_cases hlt : j < n
   ·obtain ⟨row, hrow⟩ : ∃ row, row = rowAt (rawB m xs) j := ⟨_, rfl⟩
    have HROW := Lib.hid hrow
    have SR : Hid (Sim m row) := Lib.hid (by rw [hrow]; exact rawB_sims m1 m8 HX.out _ (rowAt_getElem (by rw [HRL.out]; exact hlt)))
    have hC : Cells8 wr (w.heap.size + 1 + 1 + 1 + 1) (j * 8) row := by rw [hrow]; exact G.out.rw'.cellAt j hlt
    have m2 : 1 < m := by
     have h := HX.out _ (List.getElem_mem (l := xs) (n := j) (by rw [HN.out]; exact hlt))
     omega
    clear hrow
    obtain ⟨c0, c1, c2, c3, c4, c5, c6, c7⟩ := hC.flat
    clear hC
    have RI := Lib.hid (Row8.place wr .u8 row 77 wr.heap.size rfl SR.out.len)
    have hgp1 := G.out.pr.1
    have hglo := G.out.lo
    replace G := Lib.hid (G.out.below ((Below.refl _ _).alloc (Nat.le_refl _) (.cells #[.int .u8 (at8 row 0), .int .u8 (at8 row 1), .int .u8 (at8 row 2), .int .u8 (at8 row 3), .int .u8 (at8 row 4), .int .u8 (at8 row 5), .int .u8 (at8 row 6), .int .u8 (at8 row 7)] 77)))
    have zz2 : Hid ((wr.alloc (.cells #[.int .u8 (at8 row 0), .int .u8 (at8 row 1), .int .u8 (at8 row 2), .int .u8 (at8 row 3), .int .u8 (at8 row 4), .int .u8 (at8 row 5), .int .u8 (at8 row 6), .int .u8 (at8 row 7)] 77)).heap.size = wr.heap.size + 1) := Lib.hid (by simp)
    obtain ⟨q1, q2, q3⟩ := G.out.pr.all
    obtain ⟨s0, s1, s2, s3, s4, s5, s6, s7⟩ := RI.out.flat
    obtain ⟨e3, l3, h3⟩ : ∃ e3 l3, mkN m e2 (lk ++ [row]) = (e3, l3) := ⟨_, _, rfl⟩
    have H3 := Lib.hid h3
    clear h3
    have hjn : (j : Int) < (n : Int) := by omega
    gi_wp2_with
     (refine ⟨trivial, ?_⟩
      gi_at_call 67
      refine (callsIn_wide.2 (thenSimple_any m m2 m8 e2 (by omega) ak nk ck lk row _ G.out.own.reads hck HLK.out SR.out (by omega) e3 l3 H3.out)).mono ?_
      clear q1 q2 q3 s0 s1 s2 s3 s4 s5 s6 s7 c0 c1 c2 c3 c4 c5 c6 c7
      rintro e5 w5 ⟨a5, n5, c5, rfl, hc5, ho5, gg⟩
      have hlt5 : gp < (wr.alloc (.cells #[.int .u8 (at8 row 0), .int .u8 (at8 row 1), .int .u8 (at8 row 2), .int .u8 (at8 row 3), .int .u8 (at8 row 4), .int .u8 (at8 row 5), .int .u8 (at8 row 6), .int .u8 (at8 row 7)] 77)).heap.size := by rw [zz2.out]; omega
      replace G := Lib.hid (G.out.below gg)
      have hap := ho5.apart hlt5
      have hdn := ho5.apart (g := D) (by have := G.out.hD; omega)
      have O5 := Lib.hid (ho5.mono (B' := w.heap.size + 1 + 1) (by rw [zz2.out]; omega))
      have G2 := Lib.hid (G.out.next e3 c5 O5.out hap hdn)
      clear gg ho5
      obtain ⟨x0, ⟨x1, x2, x3⟩, y1, y2, y3⟩ := G.out.pr)
    go_roundw
    case measure => simp [intOf] <;> omega
    case rel =>
     refine ⟨j + 1, e3, a5, n5, _, l3, by omega, by go_num, G2.out, hc5, ?_, ?_⟩
     ·have h := mkN_nl (n := m) (p := e2) (l := lk ++ [row]) (Sims.app HLK.out.sims (Sims.cons SR.out Sims.nil))
      rw [H3.out] at h
      exact h
     ·rw [← H3.out]
      have h4 := mkN_app m2 m8 (-(negs xs : Int)) (l := (rawB m xs).take j) (m := [row]) (fun y hy => rawB_sims m1 m8 HX.out y (List.mem_of_mem_take hy)) (Sims.cons SR.out Sims.nil)
      rw [HMK.out] at h4
      rw [h4, List.take_succ_eq_append_getElem (by rw [HRL.out]; exact hlt), HROW.out, rowAt_lt (by rw [HRL.out]; exact hlt)]
   ·have hjn : j = n := by omega
    subst hjn
    have h5 := HMK.out
    rw [List.take_of_length_le (by rw [HRL.out]; exact Nat.le_refl _)] at h5
    have h6 := HM.out
    unfold ofW at h6
    rw [h6] at h5
    simp only [Prod.mk.injEq] at h5
    obtain ⟨rfl, rfl⟩ := h5
    have hglo := G.out.lo
    obtain ⟨q1, q2, q3⟩ := G.out.pr.all
    obtain ⟨x0, ⟨x1, x2, x3⟩, y1, y2, y3⟩ := G.out.res
    have O6 := Lib.hid ((G.out.own.set3 (g2 := w.heap.size + 1) (by omega) (.int .i64 m) (.int .i64 e) (.slice ak nk ck)).mono (B' := w.heap.size) (by omega))
    have B6 := Lib.hid (below_set3 G.out.bel (g2 := w.heap.size + 1) (by omega) (.int .i64 m) (.int .i64 e) (.slice ak nk ck))
    obtain ⟨_, ⟨z1, z2, z3⟩, _⟩ := G.out.res.fill (.int .i64 m) (.int .i64 e) (.slice ak nk ck)
    gi_wp2
    have hK' := ((KeepsOthers.setCell wr ⟨w.heap.size + 1, 0, none⟩ (.int .i64 m)).trans ((KeepsOthers.setCell _ ⟨w.heap.size + 1, 1, none⟩ (.int .i64 e)).trans (KeepsOthers.setCell _ ⟨w.heap.size + 1, 2, none⟩ (.slice ak nk ck)))).same D _ G.out.dfr rfl
    refine ⟨by simp, .inl ⟨_, _, rfl, run_takeDeferred hK', ?_⟩⟩
    have y1' := cell_kept z1 (grownBy_putObj' _ D (.deferred none)) (fun r e => by cases e; exact ⟨_, hK', rfl⟩)
    have y2' := cell_kept z2 (grownBy_putObj' _ D (.deferred none)) (fun r e => by cases e; exact ⟨_, hK', rfl⟩)
    have y3' := cell_kept z3 (grownBy_putObj' _ D (.deferred none)) (fun r e => by cases e; exact ⟨_, hK', rfl⟩)
    refine ⟨.agg #[.int .i64 m, .int .i64 e, .slice ak nk ck], by simp [results, Try.results46, go_sem, y1', y2', y3'], ak, nk, ck, rfl, hck, O6.out.pastObj G.out.dn _, B6.out.trans (belowK_b (w := w) (Nat.le_refl _) _ D _ _ (by rw [hsz] at hD; omega) hK' rfl rfl)⟩
 case stop =>
  rintro D c pre W _ _ h _
  exact h.elim

end Go.Proofs.Yteffndmifogicaa

