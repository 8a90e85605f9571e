/- The model: the common beginning, along the states that the loop goes through. -/
import Derived.Test.YtleoohplnkdbdaaBoSFst
import Derived.Test.YtleoohplnkdbdaaBoITms
namespace Go.Proofs.Ytleoohplnkdbdaa
open Go.RowKit Go.ChangeShapes

/-- A power with factors. -/
abbrev Pf : Type := Int × List (List Int)

/-- What begins both of two positive braids. -/
def comS (m : Nat) (x y : Pf) : List Int := meetR m (firstN m x.1 x.2) (firstN m y.1 y.2)

/-- The states of the loop: what has come out, and what is left of both. -/
structure CTr (m : Nat) (tr : Nat → Pf × Pf × Pf) (N : Nat) : Prop where
 nl : ∀ j, j ≤ N → Nl m (tr j).1.2 ∧ Nl m (tr j).2.1.2 ∧ Nl m (tr j).2.2.2
 bd : ∀ j, j ≤ N → ((tr j).1.2.length ≤ 10000 ∧ -10000 ≤ (tr j).1.1 ∧ (tr j).1.1 ≤ 10000) ∧ ((tr j).2.1.2.length ≤ 10000 ∧ -10000 ≤ (tr j).2.1.1 ∧ (tr j).2.1.1 ≤ 10000) ∧ ((tr j).2.2.2.length ≤ 10000 ∧ -10000 ≤ (tr j).2.2.1 ∧ (tr j).2.2.1 ≤ 10000)
 go : ∀ j, j < N → comS m (tr j).2.1 (tr j).2.2 ≠ sameR m
 nx : ∀ j, j < N → mkN m (tr j).1.1 ((tr j).1.2 ++ [comS m (tr j).2.1 (tr j).2.2]) = (tr (j + 1)).1 ∧ lessN m (tr j).2.1.1 (tr j).2.1.2 (comS m (tr j).2.1 (tr j).2.2) = (tr (j + 1)).2.1 ∧ lessN m (tr j).2.2.1 (tr j).2.2.2 (comS m (tr j).2.1 (tr j).2.2) = (tr (j + 1)).2.2
 stop : comS m (tr N).2.1 (tr N).2.2 = sameR m
 start : (tr 0).1 = (0, [])

theorem firstN_sim {m : Nat} (m1 : 1 ≤ m) (m8 : m ≤ 8) (p : Int) {l : List (List Int)} (h : Sims m l) : Sim m (firstN m p l) := by
 unfold firstN
 split
 ·exact halfR_sim m m1 m8
 ·split
  ·rename_i h0
   exact h _ (rowAt_getElem h0)
  ·exact sameR_sim m m1 m8

theorem readsA_past3 {w : World} {a : Option Addr} {n g : Nat} {rs : List (List Int)} (h : ReadsA w a n rs) (hne : n = 0 ∨ ∀ x, a = some x → x.block ≠ g) (u v x : Value) : ReadsA (((w.setCell ⟨g, 0, none⟩ u).setCell ⟨g, 1, none⟩ v).setCell ⟨g, 2, none⟩ x) a n rs := by
 obtain ⟨h1, h2, h3⟩ := h
 refine ⟨h1, h2, ?_⟩
 rcases h3 with h3 | ⟨b, off, rfl, hc⟩
 ·exact .inl h3
 ·rcases hne with h0 | hne
  ·exact .inl h0
  ·refine .inr ⟨b, off, rfl, fun j hj i hi => ?_⟩
   have hb : b ≠ g := hne _ rfl
   rw [World.cell?_of_block (w := w) (by
    rw [Below.heap_setCell _ _ _ _ hb, Below.heap_setCell _ _ _ _ hb, Below.heap_setCell _ _ _ _ hb])]
   exact hc j hj i hi

/-- Rows that are read, and are the call's own or those that came in. -/
structure Part (B H : Nat) (w : World) (a0 : Option Addr) (n0 : Nat) (a : Option Addr) (n : Nat) (l : List (List Int)) : Prop where
 rd : ReadsA w a n l
 own : OwnS B w a n l ∨ (a = a0 ∧ n = n0)
 ap : n = 0 ∨ ∀ x, a = some x → x.block < H ∨ B ≤ x.block

theorem Part.below {B H : Nat} {w W : World} {a0 a : Option Addr} {n0 n : Nat} {l : List (List Int)} (h : Part B H w a0 n0 a n l) (k : Below w.heap.size w W) : Part B H W a0 n0 a n l :=
 ⟨h.rd.below k, h.own.imp (fun o => o.below k) id, h.ap⟩

theorem Part.past3 {B H : Nat} {w : World} {a0 a : Option Addr} {n0 n : Nat} {l : List (List Int)} (h : Part B H w a0 n0 a n l) {g : Nat} (h1 : H ≤ g) (h2 : g < B) (u v x : Value) : Part B H (((w.setCell ⟨g, 0, none⟩ u).setCell ⟨g, 1, none⟩ v).setCell ⟨g, 2, none⟩ x) a0 n0 a n l := by
 have hne : n = 0 ∨ ∀ y, a = some y → y.block ≠ g := h.ap.imp id fun k y hy => by have := k y hy; omega
 exact ⟨readsA_past3 h.rd hne u v x, h.own.imp (fun o => o.past3 hne u v x) id, h.ap⟩

theorem Part.low {B H : Nat} {w : World} {a0 a : Option Addr} {n0 n : Nat} {l : List (List Int)} (h : Part B H w a0 n0 a n l) (hB : H ≤ B) : Part H H w a0 n0 a n l :=
 ⟨h.rd, h.own.imp (fun o => o.mono hB) id, .inr fun _ _ => Nat.lt_or_ge _ _⟩

theorem Part.of {B H : Nat} {w : World} {a0 a : Option Addr} {n0 n : Nat} {l : List (List Int)} (h : OwnS B w a n l) : Part B H w a0 n0 a n l := by
 refine ⟨h.reads, .inl h, ?_⟩
 rcases h.2.2 with h0 | ⟨g2, off, rfl, hB, _⟩
 ·exact .inl h0
 ·exact .inr fun x hx => by cases hx; exact .inr hB

theorem Part.arg {B H : Nat} {w : World} {a : Option Addr} {n : Nat} {l : List (List Int)} (h : ReadsA w a n l) (hH : w.heap.size ≤ H) : Part B H w a n a n l := by
 refine ⟨h, .inr ⟨rfl, rfl⟩, ?_⟩
 rcases Nat.eq_zero_or_pos n with h0 | h0
 ·exact .inl h0
 ·obtain ⟨b, off, rfl, hb, _⟩ := h.cells h0
  exact .inr fun x hx => by cases hx; exact .inl (Nat.lt_of_lt_of_le hb hH)

/-- The words of the loop. -/
structure AtCom (w : World) (m : Nat) (a b : Option Addr) (n k : Nat) (s : Pf × Pf × Pf) (a1 a2 a3 : Option Addr) (n1 n2 n3 c1 c2 c3 : Nat) (wx : World) : Prop where
 A : At3 wx w.heap.size (.int .i64 m) (.int .i64 s.2.1.1) (.slice a2 n2 c2)
 A2 : At3 wx (w.heap.size + 1) (.int .i64 m) (.int .i64 s.2.2.1) (.slice a3 n3 c3)
 Z1 : At3 wx (w.heap.size + 1 + 1) (.int .i64 0) (.int .i64 0) (.slice none 0 0)
 Z2 : At3 wx (w.heap.size + 1 + 1 + 1) (.int .i64 0) (.int .i64 0) (.slice none 0 0)
 Z3 : At3 wx (w.heap.size + 1 + 1 + 1 + 1) (.int .i64 0) (.int .i64 0) (.slice none 0 0)
 O : At3 wx (w.heap.size + 1 + 1 + 1 + 1 + 1) (.int .i64 m) (.int .i64 s.1.1) (.slice a1 n1 c1)
 po : OwnS (w.heap.size + 1 + 1 + 1 + 1 + 1 + 1) wx a1 n1 s.1.2
 pa : Part (w.heap.size + 1 + 1 + 1 + 1 + 1 + 1) w.heap.size wx a n a2 n2 s.2.1.2
 pb : Part (w.heap.size + 1 + 1 + 1 + 1 + 1 + 1) w.heap.size wx b k a3 n3 s.2.2.2
 bel : Below w.heap.size w wx

theorem AtCom.below {w : World} {m : Nat} {a b : Option Addr} {n k : Nat} {s : Pf × Pf × Pf} {a1 a2 a3 : Option Addr} {n1 n2 n3 c1 c2 c3 : Nat} {wx W : World} (h : AtCom w m a b n k s a1 a2 a3 n1 n2 n3 c1 c2 c3 wx) (q : Below wx.heap.size wx W) : AtCom w m a b n k s a1 a2 a3 n1 n2 n3 c1 c2 c3 W :=
 ⟨h.A.below q, h.A2.below q, h.Z1.below q, h.Z2.below q, h.Z3.below q, h.O.below q, h.po.below q, h.pa.below q, h.pb.below q, h.bel.trans (q.mono h.bel.size)⟩

theorem AtCom.setO {w : World} {m : Nat} {a b : Option Addr} {n k : Nat} {o x y : Pf} {a1 a2 a3 : Option Addr} {n1 n2 n3 c1 c2 c3 : Nat} {wx : World} (h : AtCom w m a b n k (o, x, y) a1 a2 a3 n1 n2 n3 c1 c2 c3 wx) (o' : Pf) {d : Option Addr} {e f : Nat} (hp : OwnS (w.heap.size + 1 + 1 + 1 + 1 + 1 + 1) wx d e o'.2) :
  AtCom w m a b n k (o', x, y) d a2 a3 e n2 n3 f c2 c3 (((wx.setCell ⟨w.heap.size + 1 + 1 + 1 + 1 + 1, 0, none⟩ (.int .i64 m)).setCell ⟨w.heap.size + 1 + 1 + 1 + 1 + 1, 1, none⟩ (.int .i64 o'.1)).setCell ⟨w.heap.size + 1 + 1 + 1 + 1 + 1, 2, none⟩ (.slice d e f)) :=
 ⟨h.A.set3 (by omega) _ _ _, h.A2.set3 (by omega) _ _ _, h.Z1.set3 (by omega) _ _ _, h.Z2.set3 (by omega) _ _ _, h.Z3.set3 (by omega) _ _ _, h.O.fill _ _ _, hp.set3 (by omega) _ _ _, h.pa.past3 (by omega) (by omega) _ _ _, h.pb.past3 (by omega) (by omega) _ _ _, below_set3 h.bel (by omega) _ _ _⟩

theorem AtCom.setA {w : World} {m : Nat} {a b : Option Addr} {n k : Nat} {o x y : Pf} {a1 a2 a3 : Option Addr} {n1 n2 n3 c1 c2 c3 : Nat} {wx : World} (h : AtCom w m a b n k (o, x, y) a1 a2 a3 n1 n2 n3 c1 c2 c3 wx) (o' : Pf) {d : Option Addr} {e f : Nat} (hp : OwnS (w.heap.size + 1 + 1 + 1 + 1 + 1 + 1) wx d e o'.2) :
  AtCom w m a b n k (o, o', y) a1 d a3 n1 e n3 c1 f c3 (((wx.setCell ⟨w.heap.size, 0, none⟩ (.int .i64 m)).setCell ⟨w.heap.size, 1, none⟩ (.int .i64 o'.1)).setCell ⟨w.heap.size, 2, none⟩ (.slice d e f)) :=
 ⟨h.A.fill _ _ _, h.A2.set3 (by omega) _ _ _, h.Z1.set3 (by omega) _ _ _, h.Z2.set3 (by omega) _ _ _, h.Z3.set3 (by omega) _ _ _, h.O.set3 (by omega) _ _ _, h.po.set3 (by omega) _ _ _, (Part.of (hp.set3 (by omega) _ _ _)), h.pb.past3 (by omega) (by omega) _ _ _, below_set3 h.bel (by omega) _ _ _⟩

theorem AtCom.setB {w : World} {m : Nat} {a b : Option Addr} {n k : Nat} {o x y : Pf} {a1 a2 a3 : Option Addr} {n1 n2 n3 c1 c2 c3 : Nat} {wx : World} (h : AtCom w m a b n k (o, x, y) a1 a2 a3 n1 n2 n3 c1 c2 c3 wx) (o' : Pf) {d : Option Addr} {e f : Nat} (hp : OwnS (w.heap.size + 1 + 1 + 1 + 1 + 1 + 1) wx d e o'.2) :
  AtCom w m a b n k (o, x, o') a1 a2 d n1 n2 e c1 c2 f (((wx.setCell ⟨w.heap.size + 1, 0, none⟩ (.int .i64 m)).setCell ⟨w.heap.size + 1, 1, none⟩ (.int .i64 o'.1)).setCell ⟨w.heap.size + 1, 2, none⟩ (.slice d e f)) :=
 ⟨h.A.set3 (by omega) _ _ _, h.A2.fill _ _ _, h.Z1.set3 (by omega) _ _ _, h.Z2.set3 (by omega) _ _ _, h.Z3.set3 (by omega) _ _ _, h.O.set3 (by omega) _ _ _, h.po.set3 (by omega) _ _ _, h.pa.past3 (by omega) (by omega) _ _ _, (Part.of (hp.set3 (by omega) _ _ _)), below_set3 h.bel (by omega) _ _ _⟩

theorem AtCom.init {w : World} {m : Nat} {p q : Int} {a b : Option Addr} {n k ca cb : Nat} {la lb : List (List Int)} (hr : ReadsA w a n la) (hr2 : ReadsA w b k lb) :
  AtCom w m a b n k ((0, []), (p, la), (q, lb)) none a b 0 n k 0 ca cb ((((((w.alloc (.cells #[.int .i64 m, .int .i64 p, .slice a n ca] 28)).alloc (.cells #[.int .i64 m, .int .i64 q, .slice b k cb] 28)).alloc (.cells #[.int .i64 0, .int .i64 0, .slice none 0 0] 28)).alloc (.cells #[.int .i64 0, .int .i64 0, .slice none 0 0] 28)).alloc (.cells #[.int .i64 0, .int .i64 0, .slice none 0 0] 28)).alloc (.cells #[.int .i64 m, .int .i64 0, .slice none 0 0] 28)) := by
 have B : Below w.heap.size w ((((((w.alloc (.cells #[.int .i64 m, .int .i64 p, .slice a n ca] 28)).alloc (.cells #[.int .i64 m, .int .i64 q, .slice b k cb] 28)).alloc (.cells #[.int .i64 0, .int .i64 0, .slice none 0 0] 28)).alloc (.cells #[.int .i64 0, .int .i64 0, .slice none 0 0] 28)).alloc (.cells #[.int .i64 0, .int .i64 0, .slice none 0 0] 28)).alloc (.cells #[.int .i64 m, .int .i64 0, .slice none 0 0] 28)) := ((((((below1 w (.cells #[.int .i64 m, .int .i64 p, .slice a n ca] 28)).alloc (by simp; try omega) (.cells #[.int .i64 m, .int .i64 q, .slice b k cb] 28)).alloc (by simp; try omega) (.cells #[.int .i64 0, .int .i64 0, .slice none 0 0] 28)).alloc (by simp; try omega) (.cells #[.int .i64 0, .int .i64 0, .slice none 0 0] 28)).alloc (by simp; try omega) (.cells #[.int .i64 0, .int .i64 0, .slice none 0 0] 28)).alloc (by simp; try omega) (.cells #[.int .i64 m, .int .i64 0, .slice none 0 0] 28))
 exact ⟨((((((At3.place w (.int .i64 m) (.int .i64 p) (.slice a n ca) 28 (w.heap.size) (by simp)).alloc (.cells #[.int .i64 m, .int .i64 q, .slice b k cb] 28)).alloc (.cells #[.int .i64 0, .int .i64 0, .slice none 0 0] 28)).alloc (.cells #[.int .i64 0, .int .i64 0, .slice none 0 0] 28)).alloc (.cells #[.int .i64 0, .int .i64 0, .slice none 0 0] 28)).alloc (.cells #[.int .i64 m, .int .i64 0, .slice none 0 0] 28)), (((((At3.place (w.alloc (.cells #[.int .i64 m, .int .i64 p, .slice a n ca] 28)) (.int .i64 m) (.int .i64 q) (.slice b k cb) 28 (w.heap.size + 1) (by simp)).alloc (.cells #[.int .i64 0, .int .i64 0, .slice none 0 0] 28)).alloc (.cells #[.int .i64 0, .int .i64 0, .slice none 0 0] 28)).alloc (.cells #[.int .i64 0, .int .i64 0, .slice none 0 0] 28)).alloc (.cells #[.int .i64 m, .int .i64 0, .slice none 0 0] 28)), ((((At3.place ((w.alloc (.cells #[.int .i64 m, .int .i64 p, .slice a n ca] 28)).alloc (.cells #[.int .i64 m, .int .i64 q, .slice b k cb] 28)) (.int .i64 0) (.int .i64 0) (.slice none 0 0) 28 (w.heap.size + 1 + 1) (by simp)).alloc (.cells #[.int .i64 0, .int .i64 0, .slice none 0 0] 28)).alloc (.cells #[.int .i64 0, .int .i64 0, .slice none 0 0] 28)).alloc (.cells #[.int .i64 m, .int .i64 0, .slice none 0 0] 28)), (((At3.place (((w.alloc (.cells #[.int .i64 m, .int .i64 p, .slice a n ca] 28)).alloc (.cells #[.int .i64 m, .int .i64 q, .slice b k cb] 28)).alloc (.cells #[.int .i64 0, .int .i64 0, .slice none 0 0] 28)) (.int .i64 0) (.int .i64 0) (.slice none 0 0) 28 (w.heap.size + 1 + 1 + 1) (by simp)).alloc (.cells #[.int .i64 0, .int .i64 0, .slice none 0 0] 28)).alloc (.cells #[.int .i64 m, .int .i64 0, .slice none 0 0] 28)), ((At3.place ((((w.alloc (.cells #[.int .i64 m, .int .i64 p, .slice a n ca] 28)).alloc (.cells #[.int .i64 m, .int .i64 q, .slice b k cb] 28)).alloc (.cells #[.int .i64 0, .int .i64 0, .slice none 0 0] 28)).alloc (.cells #[.int .i64 0, .int .i64 0, .slice none 0 0] 28)) (.int .i64 0) (.int .i64 0) (.slice none 0 0) 28 (w.heap.size + 1 + 1 + 1 + 1) (by simp)).alloc (.cells #[.int .i64 m, .int .i64 0, .slice none 0 0] 28)), (At3.place (((((w.alloc (.cells #[.int .i64 m, .int .i64 p, .slice a n ca] 28)).alloc (.cells #[.int .i64 m, .int .i64 q, .slice b k cb] 28)).alloc (.cells #[.int .i64 0, .int .i64 0, .slice none 0 0] 28)).alloc (.cells #[.int .i64 0, .int .i64 0, .slice none 0 0] 28)).alloc (.cells #[.int .i64 0, .int .i64 0, .slice none 0 0] 28)) (.int .i64 m) (.int .i64 0) (.slice none 0 0) 28 (w.heap.size + 1 + 1 + 1 + 1 + 1) (by simp)), OwnS.nil _ _ _, (Part.arg hr (Nat.le_refl _)).below B, (Part.arg hr2 (Nat.le_refl _)).below B, B⟩

set_option maxRecDepth 100000 in
set_option maxHeartbeats 8000000 in
theorem l03Common_any (m : Nat) (m1 : 1 ≤ m) (m8 : m ≤ 8) (tr : Nat → Pf × Pf × Pf) (N : Nat) (hT : CTr m tr N) (p q : Int) (a b : Option Addr) (n k ca cb : Nat) (la lb : List (List Int)) (w : World) (hr : ReadsA w a n la) (hr2 : ReadsA w b k lb) (h1 : (tr 0).2.1 = (p, la)) (h2 : (tr 0).2.2 = (q, lb)) :
  Calls Try.prog 48 #[.agg #[.int .i64 m, .int .i64 p, .slice a n ca], .agg #[.int .i64 m, .int .i64 q, .slice b k cb]] w fun e w' => ∃ a1 n1 c1 a2 n2 c2 a3 n3 c3, e = .returned (.tuple #[.agg #[.int .i64 m, .int .i64 (tr N).1.1, .slice a1 n1 c1], .agg #[.int .i64 m, .int .i64 (tr N).2.1.1, .slice a2 n2 c2], .agg #[.int .i64 m, .int .i64 (tr N).2.2.1, .slice a3 n3 c3]]) ∧
   OwnS w.heap.size w' a1 n1 (tr N).1.2 ∧ Part w.heap.size w.heap.size w' a n a2 n2 (tr N).2.1.2 ∧ Part w.heap.size w.heap.size w' b k a3 n3 (tr N).2.2.2 ∧ Below w.heap.size w w' := by
 have HT := Lib.hid hT
 have I0 : Hid (AtCom w m a b n k (tr 0) none a b 0 n k 0 ca cb ((((((w.alloc (.cells #[.int .i64 m, .int .i64 p, .slice a n ca] 28)).alloc (.cells #[.int .i64 m, .int .i64 q, .slice b k cb] 28)).alloc (.cells #[.int .i64 0, .int .i64 0, .slice none 0 0] 28)).alloc (.cells #[.int .i64 0, .int .i64 0, .slice none 0 0] 28)).alloc (.cells #[.int .i64 0, .int .i64 0, .slice none 0 0] 28)).alloc (.cells #[.int .i64 m, .int .i64 0, .slice none 0 0] 28))) := Lib.hid (by
  have e : tr 0 = ((0, []), (p, la), (q, lb)) := Prod.ext hT.start (Prod.ext h1 h2)
  rw [e]
  exact AtCom.init hr hr2)
 clear hr hr2 hT h1 h2
 go_enter Try.func48, Try.ntmps48
 go_wp2
 go_loopg [] N (fun g wx => ∃ a1 a2 a3 n1 n2 n3 c1 c2 c3, g ≤ N ∧ AtCom w m a b n k (tr (N - g)) a1 a2 a3 n1 n2 n3 c1 c2 c3 wx)
 case atStart => exact ⟨none, a, b, 0, n, k, 0, ca, cb, Nat.le_refl _, by rw [Nat.sub_self]; exact I0.out⟩
 case round =>
  obtain ⟨a1, a2, a3, n1, n2, n3, c1, c2, c3, hgN, hG⟩ := hrel
  clear I0
  obtain ⟨j, hj⟩ : ∃ j, j = N - gk := ⟨_, rfl⟩
  rw [← hj] at hG
  have hjN : j ≤ N := by omega
  obtain ⟨hno, hnx, hny⟩ := HT.out.nl j hjN
  obtain ⟨bd1, bd2, bd3⟩ := HT.out.bd j hjN
  have hgo := HT.out.go j
  have hnx2 := HT.out.nx j
  have hst : j = N → comS m (tr j).2.1 (tr j).2.2 = sameR m := fun e => by rw [e]; exact HT.out.stop
  obtain ⟨x, hx⟩ : ∃ x, x = tr j := ⟨_, rfl⟩
  rw [← hx] at hG hno hnx hny bd1 bd2 bd3 hgo hnx2 hst
  have HX := Lib.hid hx
  clear hx
  obtain ⟨⟨op, ol⟩, ⟨xp, xl⟩, ⟨yp, yl⟩⟩ := x
  dsimp only at hno hnx hny bd1 bd2 bd3 hgo hnx2 hst
  obtain ⟨ss, hss⟩ : ∃ ss, ss = comS m (xp, xl) (yp, yl) := ⟨_, rfl⟩
  rw [← hss] at hgo hnx2 hst
  have NO := Lib.hid hno
  have NX := Lib.hid hnx
  have NY := Lib.hid hny
  have SSM : Hid (Sim m ss) := Lib.hid (by rw [hss]; exact meetR_sim m1 m8 _ _)
  have HSS : Hid (ss = meetR m (firstN m xp xl) (firstN m yp yl)) := Lib.hid hss
  have G := Lib.hid hG
  have HGO := Lib.hid hgo
  have HNX := Lib.hid hnx2
  have HST := Lib.hid hst
  have HJ := Lib.hid hj
  clear hno hnx hny hss hG hgo hnx2 hst hj
  obtain ⟨x0, ⟨x1, x2, x3⟩, x4, x5, x6⟩ := G.out.A
  obtain ⟨y0, ⟨y1, y2, y3⟩, y4, y5, y6⟩ := G.out.A2
  have wz : w.heap.size ≤ wr.heap.size := G.out.bel.size
  have WZ := Lib.hid wz
  clear wz
  clear x0 x4 x5 x6 y0 y4 y5 y6
  go_upto_region 3 with fail
  go_cut [9] from 14 to 19 (fun x9 wx => ∃ g, x9 = .pointer (some ⟨g, 0, none⟩) ∧ wr.heap.size ≤ g ∧ Row8 wx g .u8 ss ∧ Below wr.heap.size wr wx)
  case first =>
   clear x1 x2 x3 y1 y2 y3
   have KB : Hid (Below wr.heap.size wr wr.drew) := Lib.hid (Below.refl wr.heap.size wr).drew
   have SH : Hid (∀ X, Below wr.heap.size wr X → (X.cell? ⟨w.heap.size, 0, none⟩ = some (.int .i64 m) ∧ X.cell? ⟨w.heap.size, 1, none⟩ = some (.int .i64 xp) ∧ X.cell? ⟨w.heap.size, 2, none⟩ = some (.slice a2 n2 c2)) ∧ (X.cell? ⟨w.heap.size + 1, 0, none⟩ = some (.int .i64 m) ∧ X.cell? ⟨w.heap.size + 1, 1, none⟩ = some (.int .i64 yp) ∧ X.cell? ⟨w.heap.size + 1, 2, none⟩ = some (.slice a3 n3 c3))) := Lib.hid fun X h => ⟨(G.out.A.below h).cells, (G.out.A2.below h).cells⟩
   refine wp_region_held_drew (S := (fun w' => (w'.cell? ⟨w.heap.size, 0, none⟩ = some (.int .i64 m) ∧ w'.cell? ⟨w.heap.size, 1, none⟩ = some (.int .i64 xp) ∧ w'.cell? ⟨w.heap.size, 2, none⟩ = some (.slice a2 n2 c2)) ∧ (w'.cell? ⟨w.heap.size + 1, 0, none⟩ = some (.int .i64 m) ∧ w'.cell? ⟨w.heap.size + 1, 1, none⟩ = some (.int .i64 yp) ∧ w'.cell? ⟨w.heap.size + 1, 2, none⟩ = some (.slice a3 n3 c3)))) (by kernel_rfl) ?_ (fun hHeld => ?_)
   ·with_reducible exact SH.out _ KB.out
   refine wpAnyH_take (i := 0) (oi := { dst := some 14, op := Op.load 28 (Operand.tmp 2), type := 28, pos := "l03_normal.go:296", after := #[], guard := none }) (v := ?_) rfl (by kernel_rfl) (by kernel_rfl) (by kernel_rfl) (fun _ _ _ h => h) (Or.inl ⟨by rfl, ?_⟩) (by assumption) ?_
   rotate_left
   ·intro w hSw
    (try dsimp only at hSw)
    go_simp
    try with_reducible rfl
   try simp only [Act.put, List.setIfInBounds_toArray, List.set_cons_zero, List.set_cons_succ]
   refine wpAnyH_take (i := 2) (oi := { dst := some 16, op := Op.load 28 (Operand.tmp 3), type := 28, pos := "l03_normal.go:296", after := #[], guard := none }) (v := ?_) rfl (by kernel_rfl) (by kernel_rfl) (by kernel_rfl) (fun _ _ _ h => h) (Or.inl ⟨by rfl, ?_⟩) (by assumption) ?_
   rotate_left
   ·intro w hSw
    (try dsimp only at hSw)
    go_simp
    try with_reducible rfl
   try simp only [Act.put, List.setIfInBounds_toArray, List.set_cons_zero, List.set_cons_succ]
   refine wpAnyH_take (i := 4) (oi := { dst := some 18, op := Op.move (Operand.tmp 7), type := 2, pos := "l03_normal.go:296", after := #[], guard := none }) (v := ?_) rfl (by kernel_rfl) (by kernel_rfl) (by kernel_rfl) (fun _ _ _ h => h) (Or.inl ⟨by rfl, ?_⟩) (by assumption) ?_
   rotate_left
   ·intro w hSw
    (try dsimp only at hSw)
    go_simp
    try with_reducible rfl
   try simp only [Act.put, List.setIfInBounds_toArray, List.set_cons_zero, List.set_cons_succ]
   refine wpAnyH_ready (rs := [1, 6]) (by kernel_rfl) (by simp) ?_
   refine AllReadyH.cons (o := { dst := some 15, op := Op.call { callee := Callee.value (Operand.func 76), args := #[Operand.tmp 14], argTypes := #[28] }, type := 77, pos := "l03_normal.go:296", after := #[{ on := 0, ground := Ground.data }], guard := none }) rfl (fun K hK => ?_) ?_
   ·go_simp
    refine (l03First_any m m8 xp a2 n2 c2 xl _ (G.out.pa.rd.below KB.out) NX.out.sims).mono ?_
    rintro e u1 ⟨rfl, gg⟩
    replace KB := Lib.hid (below_go KB.out gg KB.out.size)
    clear gg
    go_wp2_with fail
    refine hK.out _ _ ?_ (fun hHeld => ?_)
    ·with_reducible exact SH.out _ KB.out
    clear hK K
    try simp only [Act.put, List.setIfInBounds_toArray, List.set_cons_zero, List.set_cons_succ]
    refine wpAnyH_ready (rs := [3, 6]) (by kernel_rfl) (by simp) ?_
    refine AllReadyH.cons (o := { dst := some 17, op := Op.call { callee := Callee.value (Operand.func 76), args := #[Operand.tmp 16], argTypes := #[28] }, type := 77, pos := "l03_normal.go:296", after := #[{ on := 2, ground := Ground.data }, { on := 1, ground := Ground.chain }], guard := none }) rfl (fun K hK => ?_) ?_
    ·go_simp
     refine (l03First_any m m8 yp a3 n3 c3 yl _ (G.out.pb.rd.below KB.out) NY.out.sims).mono ?_
     rintro e u3 ⟨rfl, gg⟩
     replace KB := Lib.hid (below_go KB.out gg KB.out.size)
     clear gg
     go_wp2_with fail
     refine hK.out _ _ ?_ (fun hHeld => ?_)
     ·with_reducible exact SH.out _ KB.out
     clear hK K
     try simp only [Act.put, List.setIfInBounds_toArray, List.set_cons_zero, List.set_cons_succ]
     refine wpAnyH_ready (rs := [5, 6]) (by kernel_rfl) (by simp) ?_
     refine AllReadyH.cons (o := { dst := some 19, op := Op.call { callee := Callee.value (Operand.func 75), args := #[Operand.tmp 15, Operand.tmp 17, Operand.tmp 18], argTypes := #[77, 77, 2] }, type := 77, pos := "l03_normal.go:296", after := #[{ on := 1, ground := Ground.data }, { on := 3, ground := Ground.data }, { on := 4, ground := Ground.data }, { on := 3, ground := Ground.chain }], guard := none }) rfl (fun K hK => ?_) ?_
     ·go_simp
      refine (l02Meet_meet m _ _ (firstN_sim m1 m8 xp NX.out.sims) (firstN_sim m1 m8 yp NY.out.sims) _).mono ?_
      rw [← HSS.out]
      rintro e u5 ⟨rfl, gg⟩
      replace KB := Lib.hid (below_go KB.out gg KB.out.size)
      clear gg
      go_wp2_with fail
      refine hK.out _ _ ?_ (fun hHeld => ?_)
      ·with_reducible exact SH.out _ KB.out
      clear hK K
      try simp only [Act.put, List.setIfInBounds_toArray, List.set_cons_zero, List.set_cons_succ]
      refine wpAnyH_ready (rs := [6]) (by kernel_rfl) (by simp) ?_
      refine AllReadyH.cons (o := { dst := some 9, op := Op.alloc 77, type := 0, pos := "l03_normal.go:296", after := #[], guard := none }) rfl (fun K hK => ?_) ?_
      ·go_simp
       have KP := Lib.hid KB.out
       have SB : Hid (Row8 (u5.alloc (.cells #[.int .u8 0, .int .u8 0, .int .u8 0, .int .u8 0, .int .u8 0, .int .u8 0, .int .u8 0, .int .u8 0] 77)) (u5.heap.size) .u8 [0, 0, 0, 0, 0, 0, 0, 0]) := Lib.hid ((Row8.zeros u5 .u8 77 (u5.heap.size) (by simp)))
       have zG : Hid (wr.heap.size ≤ u5.heap.size) := Lib.hid (by first | exact KB.out.size | exact Nat.le_refl _)
       replace KB : Hid (Below wr.heap.size wr (u5.alloc (.cells #[.int .u8 0, .int .u8 0, .int .u8 0, .int .u8 0, .int .u8 0, .int .u8 0, .int .u8 0, .int .u8 0] 77))) := Lib.hid (KB.out.alloc KB.out.size (.cells #[.int .u8 0, .int .u8 0, .int .u8 0, .int .u8 0, .int .u8 0, .int .u8 0, .int .u8 0, .int .u8 0] 77))
       refine hK.out _ _ ?_ (fun hHeld => ?_)
       ·with_reducible exact SH.out _ KB.out
       clear hK K
       try simp only [Act.put, List.setIfInBounds_toArray, List.set_cons_zero, List.set_cons_succ]
       refine wpAnyH_ready (rs := [7]) (by kernel_rfl) (by simp) ?_
       refine AllReadyH.cons (o := { dst := none, op := Op.store 77 (Operand.tmp 9) (Operand.tmp 19), type := 0, pos := "l03_normal.go:296", after := #[{ on := 6, ground := Ground.data }, { on := 5, ground := Ground.data }, { on := 5, ground := Ground.chain }, { on := 0, ground := Ground.phase }, { on := 1, ground := Ground.phase }, { on := 2, ground := Ground.phase }, { on := 3, ground := Ground.phase }, { on := 4, ground := Ground.phase }, { on := 5, ground := Ground.phase }, { on := 6, ground := Ground.phase }], guard := none }) rfl (fun K hK => ?_) ?_
       ·obtain ⟨⟨d0, d1, d2, d3⟩, d4, d5, d6, d7⟩ := SB.out.all
        obtain ⟨⟨f0, f1, f2, f3⟩, f4, f5, f6, f7⟩ := SB.out.frees
        go_simp
        replace SB : Hid (Row8 (u5.alloc (.cells #[.int .u8 (at8 ss 0), .int .u8 (at8 ss 1), .int .u8 (at8 ss 2), .int .u8 (at8 ss 3), .int .u8 (at8 ss 4), .int .u8 (at8 ss 5), .int .u8 (at8 ss 6), .int .u8 (at8 ss 7)] 77)) (u5.heap.size) .u8 ss) := Lib.hid (Row8.place u5 .u8 ss 77 (u5.heap.size) rfl SSM.out.len)
        replace KB : Hid (Below wr.heap.size wr (u5.alloc (.cells #[.int .u8 (at8 ss 0), .int .u8 (at8 ss 1), .int .u8 (at8 ss 2), .int .u8 (at8 ss 3), .int .u8 (at8 ss 4), .int .u8 (at8 ss 5), .int .u8 (at8 ss 6), .int .u8 (at8 ss 7)] 77))) := Lib.hid (KP.out.alloc KP.out.size (.cells #[.int .u8 (at8 ss 0), .int .u8 (at8 ss 1), .int .u8 (at8 ss 2), .int .u8 (at8 ss 3), .int .u8 (at8 ss 4), .int .u8 (at8 ss 5), .int .u8 (at8 ss 6), .int .u8 (at8 ss 7)] 77))
        clear d0 d1 d2 d3 d4 d5 d6 d7 f0 f1 f2 f3 f4 f5 f6 f7
        clear KP
        refine hK.out _ _ ?_ (fun hHeld => ?_)
        ·with_reducible exact SH.out _ KB.out
        clear hK K
        try simp only [Act.put, List.setIfInBounds_toArray, List.set_cons_zero, List.set_cons_succ]
        refine wpAnyH_done (by kernel_rfl) ?_ _
        go_wp2_with fail
        go_meet
        exact ⟨_, rfl, zG.out, SB.out, KB.out⟩
       exact AllReadyH.nil
      exact AllReadyH.nil
     refine AllReadyH.cons (o := { dst := some 9, op := Op.alloc 77, type := 0, pos := "l03_normal.go:296", after := #[], guard := none }) rfl (fun K hK => ?_) ?_
     ·go_simp
      have KP := Lib.hid KB.out
      have SB : Hid (Row8 (u3.alloc (.cells #[.int .u8 0, .int .u8 0, .int .u8 0, .int .u8 0, .int .u8 0, .int .u8 0, .int .u8 0, .int .u8 0] 77)) (u3.heap.size) .u8 [0, 0, 0, 0, 0, 0, 0, 0]) := Lib.hid ((Row8.zeros u3 .u8 77 (u3.heap.size) (by simp)))
      have zG : Hid (wr.heap.size ≤ u3.heap.size) := Lib.hid (by first | exact KB.out.size | exact Nat.le_refl _)
      replace KB : Hid (Below wr.heap.size wr (u3.alloc (.cells #[.int .u8 0, .int .u8 0, .int .u8 0, .int .u8 0, .int .u8 0, .int .u8 0, .int .u8 0, .int .u8 0] 77))) := Lib.hid (KB.out.alloc KB.out.size (.cells #[.int .u8 0, .int .u8 0, .int .u8 0, .int .u8 0, .int .u8 0, .int .u8 0, .int .u8 0, .int .u8 0] 77))
      refine hK.out _ _ ?_ (fun hHeld => ?_)
      ·with_reducible exact SH.out _ KB.out
      clear hK K
      try simp only [Act.put, List.setIfInBounds_toArray, List.set_cons_zero, List.set_cons_succ]
      refine wpAnyH_ready (rs := [5]) (by kernel_rfl) (by simp) ?_
      refine AllReadyH.cons (o := { dst := some 19, op := Op.call { callee := Callee.value (Operand.func 75), args := #[Operand.tmp 15, Operand.tmp 17, Operand.tmp 18], argTypes := #[77, 77, 2] }, type := 77, pos := "l03_normal.go:296", after := #[{ on := 1, ground := Ground.data }, { on := 3, ground := Ground.data }, { on := 4, ground := Ground.data }, { on := 3, ground := Ground.chain }], guard := none }) rfl (fun K hK => ?_) ?_
      ·go_simp
       refine (l02Meet_meet m _ _ (firstN_sim m1 m8 xp NX.out.sims) (firstN_sim m1 m8 yp NY.out.sims) _).mono ?_
       rw [← HSS.out]
       rintro e u5 ⟨rfl, gg⟩
       replace SB := Lib.hid (SB.out.below gg)
       replace KB := Lib.hid (below_go KB.out gg KB.out.size)
       clear gg
       go_wp2_with fail
       refine hK.out _ _ ?_ (fun hHeld => ?_)
       ·with_reducible exact SH.out _ KB.out
       clear hK K
       try simp only [Act.put, List.setIfInBounds_toArray, List.set_cons_zero, List.set_cons_succ]
       refine wpAnyH_ready (rs := [7]) (by kernel_rfl) (by simp) ?_
       refine AllReadyH.cons (o := { dst := none, op := Op.store 77 (Operand.tmp 9) (Operand.tmp 19), type := 0, pos := "l03_normal.go:296", after := #[{ on := 6, ground := Ground.data }, { on := 5, ground := Ground.data }, { on := 5, ground := Ground.chain }, { on := 0, ground := Ground.phase }, { on := 1, ground := Ground.phase }, { on := 2, ground := Ground.phase }, { on := 3, ground := Ground.phase }, { on := 4, ground := Ground.phase }, { on := 5, ground := Ground.phase }, { on := 6, ground := Ground.phase }], guard := none }) rfl (fun K hK => ?_) ?_
       ·obtain ⟨⟨d0, d1, d2, d3⟩, d4, d5, d6, d7⟩ := SB.out.all
        obtain ⟨⟨f0, f1, f2, f3⟩, f4, f5, f6, f7⟩ := SB.out.frees
        go_simp
        replace SB := Lib.hid (SB.out.fill ss SSM.out.len)
        replace KB := Lib.hid (below_fill8 KB.out _ zG.out (.int .u8 (at8 ss 0)) (.int .u8 (at8 ss 1)) (.int .u8 (at8 ss 2)) (.int .u8 (at8 ss 3)) (.int .u8 (at8 ss 4)) (.int .u8 (at8 ss 5)) (.int .u8 (at8 ss 6)) (.int .u8 (at8 ss 7)))
        clear d0 d1 d2 d3 d4 d5 d6 d7 f0 f1 f2 f3 f4 f5 f6 f7
        clear KP
        refine hK.out _ _ ?_ (fun hHeld => ?_)
        ·with_reducible exact SH.out _ KB.out
        clear hK K
        try simp only [Act.put, List.setIfInBounds_toArray, List.set_cons_zero, List.set_cons_succ]
        refine wpAnyH_done (by kernel_rfl) ?_ _
        go_wp2_with fail
        go_meet
        exact ⟨_, rfl, zG.out, SB.out, KB.out⟩
       exact AllReadyH.nil
      exact AllReadyH.nil
     exact AllReadyH.nil
    refine AllReadyH.cons (o := { dst := some 9, op := Op.alloc 77, type := 0, pos := "l03_normal.go:296", after := #[], guard := none }) rfl (fun K hK => ?_) ?_
    ·go_simp
     have KP := Lib.hid KB.out
     have SB : Hid (Row8 (u1.alloc (.cells #[.int .u8 0, .int .u8 0, .int .u8 0, .int .u8 0, .int .u8 0, .int .u8 0, .int .u8 0, .int .u8 0] 77)) (u1.heap.size) .u8 [0, 0, 0, 0, 0, 0, 0, 0]) := Lib.hid ((Row8.zeros u1 .u8 77 (u1.heap.size) (by simp)))
     have zG : Hid (wr.heap.size ≤ u1.heap.size) := Lib.hid (by first | exact KB.out.size | exact Nat.le_refl _)
     replace KB : Hid (Below wr.heap.size wr (u1.alloc (.cells #[.int .u8 0, .int .u8 0, .int .u8 0, .int .u8 0, .int .u8 0, .int .u8 0, .int .u8 0, .int .u8 0] 77))) := Lib.hid (KB.out.alloc KB.out.size (.cells #[.int .u8 0, .int .u8 0, .int .u8 0, .int .u8 0, .int .u8 0, .int .u8 0, .int .u8 0, .int .u8 0] 77))
     refine hK.out _ _ ?_ (fun hHeld => ?_)
     ·with_reducible exact SH.out _ KB.out
     clear hK K
     try simp only [Act.put, List.setIfInBounds_toArray, List.set_cons_zero, List.set_cons_succ]
     refine wpAnyH_ready (rs := [3]) (by kernel_rfl) (by simp) ?_
     refine AllReadyH.cons (o := { dst := some 17, op := Op.call { callee := Callee.value (Operand.func 76), args := #[Operand.tmp 16], argTypes := #[28] }, type := 77, pos := "l03_normal.go:296", after := #[{ on := 2, ground := Ground.data }, { on := 1, ground := Ground.chain }], guard := none }) rfl (fun K hK => ?_) ?_
     ·go_simp
      refine (l03First_any m m8 yp a3 n3 c3 yl _ (G.out.pb.rd.below KB.out) NY.out.sims).mono ?_
      rintro e u3 ⟨rfl, gg⟩
      replace SB := Lib.hid (SB.out.below gg)
      replace KB := Lib.hid (below_go KB.out gg KB.out.size)
      clear gg
      go_wp2_with fail
      refine hK.out _ _ ?_ (fun hHeld => ?_)
      ·with_reducible exact SH.out _ KB.out
      clear hK K
      try simp only [Act.put, List.setIfInBounds_toArray, List.set_cons_zero, List.set_cons_succ]
      refine wpAnyH_ready (rs := [5]) (by kernel_rfl) (by simp) ?_
      refine AllReadyH.cons (o := { dst := some 19, op := Op.call { callee := Callee.value (Operand.func 75), args := #[Operand.tmp 15, Operand.tmp 17, Operand.tmp 18], argTypes := #[77, 77, 2] }, type := 77, pos := "l03_normal.go:296", after := #[{ on := 1, ground := Ground.data }, { on := 3, ground := Ground.data }, { on := 4, ground := Ground.data }, { on := 3, ground := Ground.chain }], guard := none }) rfl (fun K hK => ?_) ?_
      ·go_simp
       refine (l02Meet_meet m _ _ (firstN_sim m1 m8 xp NX.out.sims) (firstN_sim m1 m8 yp NY.out.sims) _).mono ?_
       rw [← HSS.out]
       rintro e u5 ⟨rfl, gg⟩
       replace SB := Lib.hid (SB.out.below gg)
       replace KB := Lib.hid (below_go KB.out gg KB.out.size)
       clear gg
       go_wp2_with fail
       refine hK.out _ _ ?_ (fun hHeld => ?_)
       ·with_reducible exact SH.out _ KB.out
       clear hK K
       try simp only [Act.put, List.setIfInBounds_toArray, List.set_cons_zero, List.set_cons_succ]
       refine wpAnyH_ready (rs := [7]) (by kernel_rfl) (by simp) ?_
       refine AllReadyH.cons (o := { dst := none, op := Op.store 77 (Operand.tmp 9) (Operand.tmp 19), type := 0, pos := "l03_normal.go:296", after := #[{ on := 6, ground := Ground.data }, { on := 5, ground := Ground.data }, { on := 5, ground := Ground.chain }, { on := 0, ground := Ground.phase }, { on := 1, ground := Ground.phase }, { on := 2, ground := Ground.phase }, { on := 3, ground := Ground.phase }, { on := 4, ground := Ground.phase }, { on := 5, ground := Ground.phase }, { on := 6, ground := Ground.phase }], guard := none }) rfl (fun K hK => ?_) ?_
       ·obtain ⟨⟨d0, d1, d2, d3⟩, d4, d5, d6, d7⟩ := SB.out.all
        obtain ⟨⟨f0, f1, f2, f3⟩, f4, f5, f6, f7⟩ := SB.out.frees
        go_simp
        replace SB := Lib.hid (SB.out.fill ss SSM.out.len)
        replace KB := Lib.hid (below_fill8 KB.out _ zG.out (.int .u8 (at8 ss 0)) (.int .u8 (at8 ss 1)) (.int .u8 (at8 ss 2)) (.int .u8 (at8 ss 3)) (.int .u8 (at8 ss 4)) (.int .u8 (at8 ss 5)) (.int .u8 (at8 ss 6)) (.int .u8 (at8 ss 7)))
        clear d0 d1 d2 d3 d4 d5 d6 d7 f0 f1 f2 f3 f4 f5 f6 f7
        clear KP
        refine hK.out _ _ ?_ (fun hHeld => ?_)
        ·with_reducible exact SH.out _ KB.out
        clear hK K
        try simp only [Act.put, List.setIfInBounds_toArray, List.set_cons_zero, List.set_cons_succ]
        refine wpAnyH_done (by kernel_rfl) ?_ _
        go_wp2_with fail
        go_meet
        exact ⟨_, rfl, zG.out, SB.out, KB.out⟩
       exact AllReadyH.nil
      exact AllReadyH.nil
     exact AllReadyH.nil
    exact AllReadyH.nil
   refine AllReadyH.cons (o := { dst := some 9, op := Op.alloc 77, type := 0, pos := "l03_normal.go:296", after := #[], guard := none }) rfl (fun K hK => ?_) ?_
   ·go_simp
    have KP := Lib.hid KB.out
    have SB : Hid (Row8 (wr.alloc (.cells #[.int .u8 0, .int .u8 0, .int .u8 0, .int .u8 0, .int .u8 0, .int .u8 0, .int .u8 0, .int .u8 0] 77)).drew (wr.heap.size) .u8 [0, 0, 0, 0, 0, 0, 0, 0]) := Lib.hid ((Row8.zeros wr .u8 77 (wr.heap.size) (by simp)).drew)
    have zG : Hid (wr.heap.size ≤ wr.heap.size) := Lib.hid (by first | exact KB.out.size | exact Nat.le_refl _)
    replace KB : Hid (Below wr.heap.size wr (wr.alloc (.cells #[.int .u8 0, .int .u8 0, .int .u8 0, .int .u8 0, .int .u8 0, .int .u8 0, .int .u8 0, .int .u8 0] 77)).drew) := Lib.hid (KB.out.alloc KB.out.size (.cells #[.int .u8 0, .int .u8 0, .int .u8 0, .int .u8 0, .int .u8 0, .int .u8 0, .int .u8 0, .int .u8 0] 77))
    refine hK.out _ _ ?_ (fun hHeld => ?_)
    ·with_reducible exact SH.out _ KB.out
    clear hK K
    try simp only [Act.put, List.setIfInBounds_toArray, List.set_cons_zero, List.set_cons_succ]
    refine wpAnyH_ready (rs := [1]) (by kernel_rfl) (by simp) ?_
    refine AllReadyH.cons (o := { dst := some 15, op := Op.call { callee := Callee.value (Operand.func 76), args := #[Operand.tmp 14], argTypes := #[28] }, type := 77, pos := "l03_normal.go:296", after := #[{ on := 0, ground := Ground.data }], guard := none }) rfl (fun K hK => ?_) ?_
    ·go_simp
     refine (l03First_any m m8 xp a2 n2 c2 xl _ (G.out.pa.rd.below KB.out) NX.out.sims).mono ?_
     rintro e u1 ⟨rfl, gg⟩
     replace SB := Lib.hid (SB.out.below gg)
     replace KB := Lib.hid (below_go KB.out gg KB.out.size)
     clear gg
     go_wp2_with fail
     refine hK.out _ _ ?_ (fun hHeld => ?_)
     ·with_reducible exact SH.out _ KB.out
     clear hK K
     try simp only [Act.put, List.setIfInBounds_toArray, List.set_cons_zero, List.set_cons_succ]
     refine wpAnyH_ready (rs := [3]) (by kernel_rfl) (by simp) ?_
     refine AllReadyH.cons (o := { dst := some 17, op := Op.call { callee := Callee.value (Operand.func 76), args := #[Operand.tmp 16], argTypes := #[28] }, type := 77, pos := "l03_normal.go:296", after := #[{ on := 2, ground := Ground.data }, { on := 1, ground := Ground.chain }], guard := none }) rfl (fun K hK => ?_) ?_
     ·go_simp
      refine (l03First_any m m8 yp a3 n3 c3 yl _ (G.out.pb.rd.below KB.out) NY.out.sims).mono ?_
      rintro e u3 ⟨rfl, gg⟩
      replace SB := Lib.hid (SB.out.below gg)
      replace KB := Lib.hid (below_go KB.out gg KB.out.size)
      clear gg
      go_wp2_with fail
      refine hK.out _ _ ?_ (fun hHeld => ?_)
      ·with_reducible exact SH.out _ KB.out
      clear hK K
      try simp only [Act.put, List.setIfInBounds_toArray, List.set_cons_zero, List.set_cons_succ]
      refine wpAnyH_ready (rs := [5]) (by kernel_rfl) (by simp) ?_
      refine AllReadyH.cons (o := { dst := some 19, op := Op.call { callee := Callee.value (Operand.func 75), args := #[Operand.tmp 15, Operand.tmp 17, Operand.tmp 18], argTypes := #[77, 77, 2] }, type := 77, pos := "l03_normal.go:296", after := #[{ on := 1, ground := Ground.data }, { on := 3, ground := Ground.data }, { on := 4, ground := Ground.data }, { on := 3, ground := Ground.chain }], guard := none }) rfl (fun K hK => ?_) ?_
      ·go_simp
       refine (l02Meet_meet m _ _ (firstN_sim m1 m8 xp NX.out.sims) (firstN_sim m1 m8 yp NY.out.sims) _).mono ?_
       rw [← HSS.out]
       rintro e u5 ⟨rfl, gg⟩
       replace SB := Lib.hid (SB.out.below gg)
       replace KB := Lib.hid (below_go KB.out gg KB.out.size)
       clear gg
       go_wp2_with fail
       refine hK.out _ _ ?_ (fun hHeld => ?_)
       ·with_reducible exact SH.out _ KB.out
       clear hK K
       try simp only [Act.put, List.setIfInBounds_toArray, List.set_cons_zero, List.set_cons_succ]
       refine wpAnyH_ready (rs := [7]) (by kernel_rfl) (by simp) ?_
       refine AllReadyH.cons (o := { dst := none, op := Op.store 77 (Operand.tmp 9) (Operand.tmp 19), type := 0, pos := "l03_normal.go:296", after := #[{ on := 6, ground := Ground.data }, { on := 5, ground := Ground.data }, { on := 5, ground := Ground.chain }, { on := 0, ground := Ground.phase }, { on := 1, ground := Ground.phase }, { on := 2, ground := Ground.phase }, { on := 3, ground := Ground.phase }, { on := 4, ground := Ground.phase }, { on := 5, ground := Ground.phase }, { on := 6, ground := Ground.phase }], guard := none }) rfl (fun K hK => ?_) ?_
       ·obtain ⟨⟨d0, d1, d2, d3⟩, d4, d5, d6, d7⟩ := SB.out.all
        obtain ⟨⟨f0, f1, f2, f3⟩, f4, f5, f6, f7⟩ := SB.out.frees
        go_simp
        replace SB := Lib.hid (SB.out.fill ss SSM.out.len)
        replace KB := Lib.hid (below_fill8 KB.out _ zG.out (.int .u8 (at8 ss 0)) (.int .u8 (at8 ss 1)) (.int .u8 (at8 ss 2)) (.int .u8 (at8 ss 3)) (.int .u8 (at8 ss 4)) (.int .u8 (at8 ss 5)) (.int .u8 (at8 ss 6)) (.int .u8 (at8 ss 7)))
        clear d0 d1 d2 d3 d4 d5 d6 d7 f0 f1 f2 f3 f4 f5 f6 f7
        clear KP
        refine hK.out _ _ ?_ (fun hHeld => ?_)
        ·with_reducible exact SH.out _ KB.out
        clear hK K
        try simp only [Act.put, List.setIfInBounds_toArray, List.set_cons_zero, List.set_cons_succ]
        refine wpAnyH_done (by kernel_rfl) ?_ _
        go_wp2_with fail
        go_meet
        exact ⟨_, rfl, zG.out, SB.out, KB.out⟩
       exact AllReadyH.nil
      exact AllReadyH.nil
     exact AllReadyH.nil
    exact AllReadyH.nil
   exact AllReadyH.nil
  case rest =>
   obtain ⟨v1, hwc⟩ : ∃ x, x = wc := ⟨_, rfl⟩; subst hwc
   obtain ⟨gs, rfl, hgs, hSB, hb⟩ := hcut
   clear x1 x2 x3 y1 y2 y3
   have z3 := G.out.O.1
   have HGS : Hid (w.heap.size + 1 + 1 + 1 + 1 + 1 < gs) := Lib.hid (by omega)
   have HZ : Hid (w.heap.size + 1 + 1 + 1 + 1 + 1 + 1 ≤ wr.heap.size) := Lib.hid (by omega)
   clear z3
   have SB := Lib.hid hSB
   replace G := Lib.hid (G.out.below hb)
   have VZ := Lib.hid hb.size
   clear hgs hSB hb
   obtain ⟨⟨d0, d1, d2, d3⟩, d4, d5, d6, d7⟩ := SB.out.all
   go_upto_region 4 with fail
   clear d0 d1 d2 d3 d4 d5 d6 d7
   by_cases hjl : j < N
   ·have hne := HGO.out hjl
    obtain ⟨mx1, mx2, mx3⟩ := HNX.out hjl
    obtain ⟨y, hy⟩ : ∃ y, y = tr (j + 1) := ⟨_, rfl⟩
    rw [← hy] at mx1 mx2 mx3
    obtain ⟨⟨np, nl⟩, ⟨np2, nl2⟩, ⟨np3, nl3⟩⟩ := y
    have MX1 := Lib.hid mx1
    have MX2 := Lib.hid mx2
    have MX3 := Lib.hid mx3
    have HY := Lib.hid hy
    clear mx1 mx2 mx3 hy
    have heq : ∀ W, Sem.run Try.prog (Op.equalIn 10000 77 (arr8 .u8 ss) (arr8 .u8 (sameR m))) W = .ok false W := fun W => by rw [equal8 ss (sameR m) SSM.out.len (mapR_len _ _ m8) W, decide_eq_false hne]
    clear hne
    have KB : Hid (Below v1.heap.size v1 v1.drew) := Lib.hid (Below.refl v1.heap.size v1).drew
    replace SB := Lib.hid SB.out.drew
    refine wp_region_held_drew (S := (fun w' => w'.cell? ⟨gs, 0, none⟩ = some (.int .u8 (at8 ss 0)) ∧ w'.cell? ⟨gs, 1, none⟩ = some (.int .u8 (at8 ss 1)) ∧ w'.cell? ⟨gs, 2, none⟩ = some (.int .u8 (at8 ss 2)) ∧ w'.cell? ⟨gs, 3, none⟩ = some (.int .u8 (at8 ss 3)) ∧ w'.cell? ⟨gs, 4, none⟩ = some (.int .u8 (at8 ss 4)) ∧ w'.cell? ⟨gs, 5, none⟩ = some (.int .u8 (at8 ss 5)) ∧ w'.cell? ⟨gs, 6, none⟩ = some (.int .u8 (at8 ss 6)) ∧ w'.cell? ⟨gs, 7, none⟩ = some (.int .u8 (at8 ss 7)))) (by kernel_rfl) ?_ (fun hHeld => ?_)
    ·with_reducible exact SB.out.flat
    refine wpAnyH_take (i := 0) (oi := { dst := some 20, op := Op.load 77 (Operand.tmp 9), type := 77, pos := "l03_normal.go:297", after := #[], guard := none }) (v := ?_) rfl (by kernel_rfl) (by kernel_rfl) (by kernel_rfl) (fun _ _ _ h => h) (Or.inl ⟨by rfl, ?_⟩) (by assumption) ?_
    rotate_left
    ·intro w hSw
     (try dsimp only at hSw)
     go_simp
     try with_reducible rfl
    try simp only [Act.put, List.setIfInBounds_toArray, List.set_cons_zero, List.set_cons_succ]
    refine wpAnyH_take (i := 1) (oi := { dst := some 21, op := Op.move (Operand.tmp 7), type := 2, pos := "l03_normal.go:297", after := #[], guard := none }) (v := ?_) rfl (by kernel_rfl) (by kernel_rfl) (by kernel_rfl) (fun _ _ _ h => h) (Or.inl ⟨by rfl, ?_⟩) (by assumption) ?_
    rotate_left
    ·intro w hSw
     (try dsimp only at hSw)
     go_simp
     try with_reducible rfl
    try simp only [Act.put, List.setIfInBounds_toArray, List.set_cons_zero, List.set_cons_succ]
    refine wpAnyH_ready (rs := [2]) (by kernel_rfl) (by simp) ?_
    refine AllReadyH.cons (o := { dst := some 22, op := Op.call { callee := Callee.value (Operand.func 66), args := #[Operand.tmp 21], argTypes := #[2] }, type := 77, pos := "l03_normal.go:297", after := #[{ on := 1, ground := Ground.data }], guard := none }) rfl (fun K hK => ?_) ?_
    ·go_simp
     refine (l02Same_any m m8 _).mono ?_
     rintro e u6 ⟨rfl, gg⟩
     replace SB := Lib.hid (SB.out.below gg)
     replace KB := Lib.hid (below_go KB.out gg KB.out.size)
     clear gg
     go_wp2_with fail
     refine hK.out _ _ ?_ (fun hHeld => ?_)
     ·with_reducible exact SB.out.flat
     clear hK K
     try simp only [Act.put, List.setIfInBounds_toArray, List.set_cons_zero, List.set_cons_succ]
     refine wpAnyH_ready (rs := [3]) (by kernel_rfl) (by simp) ?_
     refine AllReadyH.cons (o := { dst := some 23, op := Op.binOp BinOp.eql 77 (Operand.tmp 20) (Operand.tmp 22) 77, type := 4, pos := "l03_normal.go:297", after := #[{ on := 0, ground := Ground.data }, { on := 2, ground := Ground.data }], guard := none }) rfl (fun K hK => ?_) ?_
     ·go_simp
      refine hK.out _ _ ?_ (fun hHeld => ?_)
      ·with_reducible exact SB.out.flat
      clear hK K
      try simp only [Act.put, List.setIfInBounds_toArray, List.set_cons_zero, List.set_cons_succ]
      refine wpAnyH_done (by kernel_rfl) ?_ _
      replace G := Lib.hid (G.out.below KB.out)
      obtain ⟨o0, ⟨o1, o2, o3⟩, o4, o5, o6⟩ := G.out.O
      obtain ⟨⟨d0, d1, d2, d3⟩, d4, d5, d6, d7⟩ := SB.out.all
      go_wp2_with fail
      refine (l03Times_pos m m1 m8 op (by omega) a1 n1 c1 ol ss _ G.out.po.reads NO.out.sims SSM.out (by have h := G.out.po.len; dsimp only at h; omega) _ _ MX1.out).mono ?_
      rintro e v5 ⟨d_, e_, f_, rfl, ho, gg⟩
      have HO := Lib.hid (ho.toS.mono (Nat.le_trans HZ.out (Nat.le_trans VZ.out KB.out.size)))
      replace SB := Lib.hid (SB.out.below gg)
      replace G := Lib.hid (G.out.below gg)
      have zz5 := gg.size
      clear ho gg o0 o1 o2 o3 o4 o5 o6 d0 d1 d2 d3 d4 d5 d6 d7
      obtain ⟨o0, ⟨o1, o2, o3⟩, o4, o5, o6⟩ := G.out.O
      go_upto_region 7 with fail
      replace SB := Lib.hid (SB.out.set3 (g2 := w.heap.size + 1 + 1 + 1 + 1 + 1) (by have := HGS.out; omega) (.int .i64 m) (.int .i64 np) (.slice d_ e_ f_))
      replace G := Lib.hid (G.out.setO (np, nl) (f := f_) HO.out)
      clear o0 o1 o2 o3 o4 o5 o6 HO
      obtain ⟨x0, ⟨x1, x2, x3⟩, x4, x5, x6⟩ := G.out.A
      obtain ⟨⟨d0, d1, d2, d3⟩, d4, d5, d6, d7⟩ := SB.out.all
      go_wp2_with fail
      refine (l03Less_any m m1 m8 xp (by omega) a2 n2 c2 xl ss _ G.out.pa.rd NX.out.sims SSM.out (by have h := G.out.pa.rd.len; dsimp only at h; omega) _ _ MX2.out).mono ?_
      rintro e v6 ⟨g_, h_, i_, rfl, ho, gg⟩
      have HO := Lib.hid (ho.toS.mono (Nat.le_trans HZ.out (Nat.le_trans VZ.out (Nat.le_trans KB.out.size (Nat.le_trans zz5 (by simp [World.setCell]))))))
      replace SB := Lib.hid (SB.out.below gg)
      replace G := Lib.hid (G.out.below gg)
      have zz6 := gg.size
      clear ho gg x0 x1 x2 x3 x4 x5 x6 d0 d1 d2 d3 d4 d5 d6 d7
      obtain ⟨x0, ⟨x1, x2, x3⟩, x4, x5, x6⟩ := G.out.A
      go_upto_region 8 with fail
      replace SB := Lib.hid (SB.out.set3 (g2 := w.heap.size) (by have := HGS.out; omega) (.int .i64 m) (.int .i64 np2) (.slice g_ h_ i_))
      replace G := Lib.hid (G.out.setA (np2, nl2) (f := i_) HO.out)
      clear x0 x1 x2 x3 x4 x5 x6 HO
      obtain ⟨y0, ⟨y1, y2, y3⟩, y4, y5, y6⟩ := G.out.A2
      obtain ⟨⟨d0, d1, d2, d3⟩, d4, d5, d6, d7⟩ := SB.out.all
      go_wp2_with fail
      refine (l03Less_any m m1 m8 yp (by omega) a3 n3 c3 yl ss _ G.out.pb.rd NY.out.sims SSM.out (by have h := G.out.pb.rd.len; dsimp only at h; omega) _ _ MX3.out).mono ?_
      rintro e v7 ⟨j_, k_, l_, rfl, ho, gg⟩
      have HO := Lib.hid (ho.toS.mono (B' := w.heap.size + 1 + 1 + 1 + 1 + 1 + 1) (by have z1 := HZ.out; have z2 := VZ.out; have z3 := KB.out.size; simp [World.setCell] at zz6 ⊢; omega))
      replace G := Lib.hid (G.out.below gg)
      clear ho gg y0 y1 y2 y3 y4 y5 y6 d0 d1 d2 d3 d4 d5 d6 d7
      obtain ⟨y0, ⟨y1, y2, y3⟩, y4, y5, y6⟩ := G.out.A2
      go_wp2
      clear y0 y1 y2 y3 y4 y5 y6
      have G9 := Lib.hid (G.out.setB (np3, nl3) (f := l_) HO.out)
      go_roundg (gk - 1)
      case measure => have := HJ.out; omega
      case rel =>
       have hj9 := HJ.out
       have e9 : N - (gk - 1) = j + 1 := by omega
       refine ⟨d_, g_, j_, e_, h_, k_, f_, i_, l_, by omega, ?_⟩
       rw [e9, ← HY.out]
       exact G9.out
     exact AllReadyH.nil
    exact AllReadyH.nil
   ·have hjl2 : j = N := by omega
    have hse := HST.out hjl2
    have heq : ∀ W, Sem.run Try.prog (Op.equalIn 10000 77 (arr8 .u8 ss) (arr8 .u8 (sameR m))) W = .ok true W := fun W => by rw [equal8 ss (sameR m) SSM.out.len (mapR_len _ _ m8) W, decide_eq_true hse]
    have HJN := Lib.hid hjl2
    clear hse hjl2
    have KB : Hid (Below v1.heap.size v1 v1.drew) := Lib.hid (Below.refl v1.heap.size v1).drew
    replace SB := Lib.hid SB.out.drew
    refine wp_region_held_drew (S := (fun w' => w'.cell? ⟨gs, 0, none⟩ = some (.int .u8 (at8 ss 0)) ∧ w'.cell? ⟨gs, 1, none⟩ = some (.int .u8 (at8 ss 1)) ∧ w'.cell? ⟨gs, 2, none⟩ = some (.int .u8 (at8 ss 2)) ∧ w'.cell? ⟨gs, 3, none⟩ = some (.int .u8 (at8 ss 3)) ∧ w'.cell? ⟨gs, 4, none⟩ = some (.int .u8 (at8 ss 4)) ∧ w'.cell? ⟨gs, 5, none⟩ = some (.int .u8 (at8 ss 5)) ∧ w'.cell? ⟨gs, 6, none⟩ = some (.int .u8 (at8 ss 6)) ∧ w'.cell? ⟨gs, 7, none⟩ = some (.int .u8 (at8 ss 7)))) (by kernel_rfl) ?_ (fun hHeld => ?_)
    ·with_reducible exact SB.out.flat
    refine wpAnyH_take (i := 0) (oi := { dst := some 20, op := Op.load 77 (Operand.tmp 9), type := 77, pos := "l03_normal.go:297", after := #[], guard := none }) (v := ?_) rfl (by kernel_rfl) (by kernel_rfl) (by kernel_rfl) (fun _ _ _ h => h) (Or.inl ⟨by rfl, ?_⟩) (by assumption) ?_
    rotate_left
    ·intro w hSw
     (try dsimp only at hSw)
     go_simp
     try with_reducible rfl
    try simp only [Act.put, List.setIfInBounds_toArray, List.set_cons_zero, List.set_cons_succ]
    refine wpAnyH_take (i := 1) (oi := { dst := some 21, op := Op.move (Operand.tmp 7), type := 2, pos := "l03_normal.go:297", after := #[], guard := none }) (v := ?_) rfl (by kernel_rfl) (by kernel_rfl) (by kernel_rfl) (fun _ _ _ h => h) (Or.inl ⟨by rfl, ?_⟩) (by assumption) ?_
    rotate_left
    ·intro w hSw
     (try dsimp only at hSw)
     go_simp
     try with_reducible rfl
    try simp only [Act.put, List.setIfInBounds_toArray, List.set_cons_zero, List.set_cons_succ]
    refine wpAnyH_ready (rs := [2]) (by kernel_rfl) (by simp) ?_
    refine AllReadyH.cons (o := { dst := some 22, op := Op.call { callee := Callee.value (Operand.func 66), args := #[Operand.tmp 21], argTypes := #[2] }, type := 77, pos := "l03_normal.go:297", after := #[{ on := 1, ground := Ground.data }], guard := none }) rfl (fun K hK => ?_) ?_
    ·go_simp
     refine (l02Same_any m m8 _).mono ?_
     rintro e u6 ⟨rfl, gg⟩
     replace SB := Lib.hid (SB.out.below gg)
     replace KB := Lib.hid (below_go KB.out gg KB.out.size)
     clear gg
     go_wp2_with fail
     refine hK.out _ _ ?_ (fun hHeld => ?_)
     ·with_reducible exact SB.out.flat
     clear hK K
     try simp only [Act.put, List.setIfInBounds_toArray, List.set_cons_zero, List.set_cons_succ]
     refine wpAnyH_ready (rs := [3]) (by kernel_rfl) (by simp) ?_
     refine AllReadyH.cons (o := { dst := some 23, op := Op.binOp BinOp.eql 77 (Operand.tmp 20) (Operand.tmp 22) 77, type := 4, pos := "l03_normal.go:297", after := #[{ on := 0, ground := Ground.data }, { on := 2, ground := Ground.data }], guard := none }) rfl (fun K hK => ?_) ?_
     ·go_simp
      refine hK.out _ _ ?_ (fun hHeld => ?_)
      ·with_reducible exact SB.out.flat
      clear hK K
      try simp only [Act.put, List.setIfInBounds_toArray, List.set_cons_zero, List.set_cons_succ]
      refine wpAnyH_done (by kernel_rfl) ?_ _
      replace G := Lib.hid (G.out.below KB.out)
      go_upto_region 5 with fail
      replace G := Lib.hid (G.out.below ((Below.refl u6.heap.size u6).drew))
      have YA := Lib.hid G.out.A
      have YB := Lib.hid G.out.A2
      have YO := Lib.hid G.out.O
      have P1 := Lib.hid G.out.Z1
      have P2 := Lib.hid G.out.Z2
      have P3 := Lib.hid G.out.Z3
      have PO := Lib.hid G.out.po
      have PA := Lib.hid G.out.pa
      have PB := Lib.hid G.out.pb
      have BL := Lib.hid G.out.bel
      clear G
      refine wp_region_held_drew (S := (fun w' => (w'.cell? ⟨w.heap.size, 0, none⟩ = some (.int .i64 m) ∧ w'.cell? ⟨w.heap.size, 1, none⟩ = some (.int .i64 xp) ∧ w'.cell? ⟨w.heap.size, 2, none⟩ = some (.slice a2 n2 c2)) ∧ (w'.cell? ⟨w.heap.size + 1, 0, none⟩ = some (.int .i64 m) ∧ w'.cell? ⟨w.heap.size + 1, 1, none⟩ = some (.int .i64 yp) ∧ w'.cell? ⟨w.heap.size + 1, 2, none⟩ = some (.slice a3 n3 c3)) ∧ (w'.cell? ⟨w.heap.size + 1 + 1 + 1 + 1 + 1, 0, none⟩ = some (.int .i64 m) ∧ w'.cell? ⟨w.heap.size + 1 + 1 + 1 + 1 + 1, 1, none⟩ = some (.int .i64 op) ∧ w'.cell? ⟨w.heap.size + 1 + 1 + 1 + 1 + 1, 2, none⟩ = some (.slice a1 n1 c1)))) (by kernel_rfl) ?_ (fun hHeld => ?_)
      ·with_reducible exact ⟨YA.out.cells, YB.out.cells, YO.out.cells⟩
      obtain ⟨U6, hU6⟩ : ∃ U, U = u6.drew := ⟨_, rfl⟩
      rw [← hU6] at YA YB YO P1 P2 P3 PO PA PB BL ⊢
      clear hU6 hHeld
      have hHeld : (U6.cell? ⟨w.heap.size, 0, none⟩ = some (.int .i64 m) ∧ U6.cell? ⟨w.heap.size, 1, none⟩ = some (.int .i64 xp) ∧ U6.cell? ⟨w.heap.size, 2, none⟩ = some (.slice a2 n2 c2)) ∧ (U6.cell? ⟨w.heap.size + 1, 0, none⟩ = some (.int .i64 m) ∧ U6.cell? ⟨w.heap.size + 1, 1, none⟩ = some (.int .i64 yp) ∧ U6.cell? ⟨w.heap.size + 1, 2, none⟩ = some (.slice a3 n3 c3)) ∧ (U6.cell? ⟨w.heap.size + 1 + 1 + 1 + 1 + 1, 0, none⟩ = some (.int .i64 m) ∧ U6.cell? ⟨w.heap.size + 1 + 1 + 1 + 1 + 1, 1, none⟩ = some (.int .i64 op) ∧ U6.cell? ⟨w.heap.size + 1 + 1 + 1 + 1 + 1, 2, none⟩ = some (.slice a1 n1 c1)) := ⟨YA.out.cells, YB.out.cells, YO.out.cells⟩
      refine wpAnyH_take (i := 0) (oi := { dst := some 24, op := Op.load 28 (Operand.tmp 8), type := 28, pos := "l03_normal.go:298", after := #[], guard := none }) (v := ?_) rfl (by kernel_rfl) (by kernel_rfl) (by kernel_rfl) (fun _ _ _ h => h) (Or.inl ⟨by rfl, ?_⟩) (by assumption) ?_
      rotate_left
      ·intro w hSw
       (try dsimp only at hSw)
       go_simp
       try with_reducible rfl
      try simp only [Act.put, List.setIfInBounds_toArray, List.set_cons_zero, List.set_cons_succ]
      refine wpAnyH_take (i := 1) (oi := { dst := some 25, op := Op.load 28 (Operand.tmp 2), type := 28, pos := "l03_normal.go:298", after := #[{ on := 3, ground := Ground.gcOnly Departure.lateStores }], guard := none }) (v := ?_) rfl (by kernel_rfl) (by kernel_rfl) (by kernel_rfl) (fun _ _ _ h => h) (Or.inl ⟨by rfl, ?_⟩) (by assumption) ?_
      rotate_left
      ·intro w hSw
       (try dsimp only at hSw)
       go_simp
       try with_reducible rfl
      try simp only [Act.put, List.setIfInBounds_toArray, List.set_cons_zero, List.set_cons_succ]
      refine wpAnyH_take (i := 2) (oi := { dst := some 26, op := Op.load 28 (Operand.tmp 3), type := 28, pos := "l03_normal.go:298", after := #[{ on := 4, ground := Ground.gcOnly Departure.lateStores }], guard := none }) (v := ?_) rfl (by kernel_rfl) (by kernel_rfl) (by kernel_rfl) (fun _ _ _ h => h) (Or.inl ⟨by rfl, ?_⟩) (by assumption) ?_
      rotate_left
      ·intro w hSw
       (try dsimp only at hSw)
       go_simp
       try with_reducible rfl
      try simp only [Act.put, List.setIfInBounds_toArray, List.set_cons_zero, List.set_cons_succ]
      refine wpAnyH_ready (rs := [3]) (by kernel_rfl) (by simp) ?_
      refine AllReadyH.cons (o := { dst := none, op := Op.store 28 (Operand.tmp 4) (Operand.tmp 24), type := 0, pos := "l03_normal.go:298", after := #[{ on := 0, ground := Ground.data }, { on := 0, ground := Ground.phase }, { on := 1, ground := Ground.textOnly Departure.lateStores }, { on := 2, ground := Ground.textOnly Departure.lateStores }], guard := none }) rfl (fun K hK => ?_) ?_
      ·obtain ⟨z0, ⟨z1, z2, z3⟩, z4, z5, z6⟩ := P1.out
       go_simp
       clear z0 z1 z2 z3 z4 z5 z6
       replace YA := Lib.hid (YA.out.set3 (g2 := w.heap.size + 1 + 1) (by omega) (.int .i64 m) (.int .i64 op) (.slice a1 n1 c1))
       replace YB := Lib.hid (YB.out.set3 (g2 := w.heap.size + 1 + 1) (by omega) (.int .i64 m) (.int .i64 op) (.slice a1 n1 c1))
       replace YO := Lib.hid (YO.out.set3 (g2 := w.heap.size + 1 + 1) (by omega) (.int .i64 m) (.int .i64 op) (.slice a1 n1 c1))
       replace P1 := Lib.hid (P1.out.fill (.int .i64 m) (.int .i64 op) (.slice a1 n1 c1))
       replace P2 := Lib.hid (P2.out.set3 (g2 := w.heap.size + 1 + 1) (by omega) (.int .i64 m) (.int .i64 op) (.slice a1 n1 c1))
       replace P3 := Lib.hid (P3.out.set3 (g2 := w.heap.size + 1 + 1) (by omega) (.int .i64 m) (.int .i64 op) (.slice a1 n1 c1))
       replace PO := Lib.hid (PO.out.set3 (g2 := w.heap.size + 1 + 1) (by omega) (.int .i64 m) (.int .i64 op) (.slice a1 n1 c1))
       replace PA := Lib.hid (PA.out.past3 (g := w.heap.size + 1 + 1) (by omega) (by omega) (.int .i64 m) (.int .i64 op) (.slice a1 n1 c1))
       replace PB := Lib.hid (PB.out.past3 (g := w.heap.size + 1 + 1) (by omega) (by omega) (.int .i64 m) (.int .i64 op) (.slice a1 n1 c1))
       replace BL := Lib.hid (below_set3 (g2 := w.heap.size + 1 + 1) BL.out (by omega) (.int .i64 m) (.int .i64 op) (.slice a1 n1 c1))
       obtain ⟨U7, hU7⟩ : ∃ U, U = (((U6.setCell ⟨w.heap.size + 1 + 1, 0, none⟩ (.int .i64 m)).setCell ⟨w.heap.size + 1 + 1, 1, none⟩ (.int .i64 op)).setCell ⟨w.heap.size + 1 + 1, 2, none⟩ (.slice a1 n1 c1)) := ⟨_, rfl⟩
       rw [← hU7] at YA YB YO P1 P2 P3 PO PA PB BL ⊢
       clear hU7
       refine hK.out _ _ ?_ (fun hHeld => ?_)
       ·with_reducible exact ⟨YA.out.cells, YB.out.cells, YO.out.cells⟩
       clear hK K
       try simp only [Act.put, List.setIfInBounds_toArray, List.set_cons_zero, List.set_cons_succ]
       refine wpAnyH_ready (rs := [4]) (by kernel_rfl) (by simp) ?_
       refine AllReadyH.cons (o := { dst := none, op := Op.store 28 (Operand.tmp 5) (Operand.tmp 25), type := 0, pos := "l03_normal.go:298", after := #[{ on := 1, ground := Ground.data }, { on := 3, ground := Ground.chain }, { on := 0, ground := Ground.phase }, { on := 1, ground := Ground.phase }, { on := 2, ground := Ground.textOnly Departure.lateStores }, { on := 3, ground := Ground.phase }], guard := none }) rfl (fun K hK => ?_) ?_
       ·obtain ⟨z0, ⟨z1, z2, z3⟩, z4, z5, z6⟩ := P2.out
        go_simp
        clear z0 z1 z2 z3 z4 z5 z6
        replace YA := Lib.hid (YA.out.set3 (g2 := w.heap.size + 1 + 1 + 1) (by omega) (.int .i64 m) (.int .i64 xp) (.slice a2 n2 c2))
        replace YB := Lib.hid (YB.out.set3 (g2 := w.heap.size + 1 + 1 + 1) (by omega) (.int .i64 m) (.int .i64 xp) (.slice a2 n2 c2))
        replace YO := Lib.hid (YO.out.set3 (g2 := w.heap.size + 1 + 1 + 1) (by omega) (.int .i64 m) (.int .i64 xp) (.slice a2 n2 c2))
        replace P1 := Lib.hid (P1.out.set3 (g2 := w.heap.size + 1 + 1 + 1) (by omega) (.int .i64 m) (.int .i64 xp) (.slice a2 n2 c2))
        replace P2 := Lib.hid (P2.out.fill (.int .i64 m) (.int .i64 xp) (.slice a2 n2 c2))
        replace P3 := Lib.hid (P3.out.set3 (g2 := w.heap.size + 1 + 1 + 1) (by omega) (.int .i64 m) (.int .i64 xp) (.slice a2 n2 c2))
        replace PO := Lib.hid (PO.out.set3 (g2 := w.heap.size + 1 + 1 + 1) (by omega) (.int .i64 m) (.int .i64 xp) (.slice a2 n2 c2))
        replace PA := Lib.hid (PA.out.past3 (g := w.heap.size + 1 + 1 + 1) (by omega) (by omega) (.int .i64 m) (.int .i64 xp) (.slice a2 n2 c2))
        replace PB := Lib.hid (PB.out.past3 (g := w.heap.size + 1 + 1 + 1) (by omega) (by omega) (.int .i64 m) (.int .i64 xp) (.slice a2 n2 c2))
        replace BL := Lib.hid (below_set3 (g2 := w.heap.size + 1 + 1 + 1) BL.out (by omega) (.int .i64 m) (.int .i64 xp) (.slice a2 n2 c2))
        obtain ⟨U8, hU8⟩ : ∃ U, U = (((U7.setCell ⟨w.heap.size + 1 + 1 + 1, 0, none⟩ (.int .i64 m)).setCell ⟨w.heap.size + 1 + 1 + 1, 1, none⟩ (.int .i64 xp)).setCell ⟨w.heap.size + 1 + 1 + 1, 2, none⟩ (.slice a2 n2 c2)) := ⟨_, rfl⟩
        rw [← hU8] at YA YB YO P1 P2 P3 PO PA PB BL ⊢
        clear hU8
        refine hK.out _ _ ?_ (fun hHeld => ?_)
        ·with_reducible exact ⟨YA.out.cells, YB.out.cells, YO.out.cells⟩
        clear hK K
        try simp only [Act.put, List.setIfInBounds_toArray, List.set_cons_zero, List.set_cons_succ]
        refine wpAnyH_ready (rs := [5]) (by kernel_rfl) (by simp) ?_
        refine AllReadyH.cons (o := { dst := none, op := Op.store 28 (Operand.tmp 6) (Operand.tmp 26), type := 0, pos := "l03_normal.go:298", after := #[{ on := 2, ground := Ground.data }, { on := 4, ground := Ground.chain }, { on := 0, ground := Ground.phase }, { on := 1, ground := Ground.phase }, { on := 2, ground := Ground.phase }, { on := 3, ground := Ground.phase }, { on := 4, ground := Ground.phase }], guard := none }) rfl (fun K hK => ?_) ?_
        ·obtain ⟨z0, ⟨z1, z2, z3⟩, z4, z5, z6⟩ := P3.out
         go_simp
         clear z0 z1 z2 z3 z4 z5 z6
         replace YA := Lib.hid (YA.out.set3 (g2 := w.heap.size + 1 + 1 + 1 + 1) (by omega) (.int .i64 m) (.int .i64 yp) (.slice a3 n3 c3))
         replace YB := Lib.hid (YB.out.set3 (g2 := w.heap.size + 1 + 1 + 1 + 1) (by omega) (.int .i64 m) (.int .i64 yp) (.slice a3 n3 c3))
         replace YO := Lib.hid (YO.out.set3 (g2 := w.heap.size + 1 + 1 + 1 + 1) (by omega) (.int .i64 m) (.int .i64 yp) (.slice a3 n3 c3))
         replace P1 := Lib.hid (P1.out.set3 (g2 := w.heap.size + 1 + 1 + 1 + 1) (by omega) (.int .i64 m) (.int .i64 yp) (.slice a3 n3 c3))
         replace P2 := Lib.hid (P2.out.set3 (g2 := w.heap.size + 1 + 1 + 1 + 1) (by omega) (.int .i64 m) (.int .i64 yp) (.slice a3 n3 c3))
         replace P3 := Lib.hid (P3.out.fill (.int .i64 m) (.int .i64 yp) (.slice a3 n3 c3))
         replace PO := Lib.hid (PO.out.set3 (g2 := w.heap.size + 1 + 1 + 1 + 1) (by omega) (.int .i64 m) (.int .i64 yp) (.slice a3 n3 c3))
         replace PA := Lib.hid (PA.out.past3 (g := w.heap.size + 1 + 1 + 1 + 1) (by omega) (by omega) (.int .i64 m) (.int .i64 yp) (.slice a3 n3 c3))
         replace PB := Lib.hid (PB.out.past3 (g := w.heap.size + 1 + 1 + 1 + 1) (by omega) (by omega) (.int .i64 m) (.int .i64 yp) (.slice a3 n3 c3))
         replace BL := Lib.hid (below_set3 (g2 := w.heap.size + 1 + 1 + 1 + 1) BL.out (by omega) (.int .i64 m) (.int .i64 yp) (.slice a3 n3 c3))
         obtain ⟨U9, hU9⟩ : ∃ U, U = (((U8.setCell ⟨w.heap.size + 1 + 1 + 1 + 1, 0, none⟩ (.int .i64 m)).setCell ⟨w.heap.size + 1 + 1 + 1 + 1, 1, none⟩ (.int .i64 yp)).setCell ⟨w.heap.size + 1 + 1 + 1 + 1, 2, none⟩ (.slice a3 n3 c3)) := ⟨_, rfl⟩
         rw [← hU9] at YA YB YO P1 P2 P3 PO PA PB BL ⊢
         clear hU9
         refine hK.out _ _ ?_ (fun hHeld => ?_)
         ·with_reducible exact ⟨YA.out.cells, YB.out.cells, YO.out.cells⟩
         clear hK K
         try simp only [Act.put, List.setIfInBounds_toArray, List.set_cons_zero, List.set_cons_succ]
         refine wpAnyH_done (by kernel_rfl) ?_ _
         go_wp2
         try rw [Exit.noGoto_ret]
         have hx := HX.out
         rw [HJN.out] at hx
         rw [← hx]
         obtain ⟨e1, e2, e3⟩ := P1.out.cells
         obtain ⟨f1, f2, f3⟩ := P2.out.cells
         obtain ⟨g1, g2, g3⟩ := P3.out.cells
         exact bodyPost_ret (v := .tuple #[.agg #[.int .i64 m, .int .i64 op, .slice a1 n1 c1], .agg #[.int .i64 m, .int .i64 xp, .slice a2 n2 c2], .agg #[.int .i64 m, .int .i64 yp, .slice a3 n3 c3]]) (by simp [results, Try.results48, go_sem, e1, e2, e3, f1, f2, f3, g1, g2, g3]) rfl ⟨a1, n1, c1, a2, n2, c2, a3, n3, ⟨c3, rfl⟩, PO.out.mono (by omega), PA.out.low (by omega), PB.out.low (by omega), BL.out⟩
        exact AllReadyH.nil
       exact AllReadyH.nil
      exact AllReadyH.nil
     exact AllReadyH.nil
    exact AllReadyH.nil

end Go.Proofs.Ytleoohplnkdbdaa

