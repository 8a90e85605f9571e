/- The free word of the last strand: the program. -/
import Derived.Test.YtehcbamfendbaaaSeLstP
import Derived.Test.YtehcbamfendbaaaSeJoi
import Derived.Test.YtehcbamfendbaaaSePip
import Derived.Test.YtehcbamfendbaaaSeMg21
namespace Go.Proofs.Ytehcbamfendbaaa
open Go.RowKit Go.Shelf Go.ChangeShapes

attribute [local go_sem] Oper.semAt_some

set_option maxHeartbeats 1000000 in
theorem addedGen_any (s : Int) (a : Option Addr) (n cap : Nat) (w : World) :
  Calls Try.prog 137 #[.agg #[.int .i64 s, .slice a n cap]] w fun e w' => e = .returned (.func (.func 151) #[] #[.pointer (some ⟨w.heap.size, 0, none⟩)]) ∧ w' = w.alloc (.cells #[.int .i64 s, .slice a n cap] 29) := by
 go_enter Try.func137, Try.ntmps137
 go_wp2
 go_ret
 exact ⟨rfl, rfl⟩

/-- What lastFreeWord gives. -/
def RetLast (w : World) (o : Option (List Int)) (e : Ending) (w' : World) : Prop :=
 (∃ f a' m' c', o = some f ∧ e = .returned (.tuple #[.slice a' m' c', .int .i64 0]) ∧ OwnP w.heap.size w' a' m' f ∧ m' ≤ 400 ∧ m' ≤ c' ∧ c' ≤ 9223372036854775807 ∧ (a' = none → m' = 0 ∧ c' = 0) ∧ w.heap.size < w'.heap.size ∧ Below w.heap.size w w') ∨
 (o = none ∧ e = .returned (.tuple #[.slice none 0 0, .int .i64 3]) ∧ Below w.heap.size w w')

/-- Between two rounds: q is where the call began. -/
def LstI (q : Nat) (w : World) (pre : List Yd) (T : Nat → Prop) (W : World) : Prop :=
 ∃ (f : List Int) (av : Option Addr) (mv cv : Nat), foldY (pre.map Yd.pr) = some f ∧ mv ≤ 400 ∧ mv ≤ cv ∧ cv ≤ 9223372036854775807 ∧ (av = none → mv = 0 ∧ cv = 0) ∧
  Boxed W (q + 1 + 1 + 1) 22 (.slice av mv cv) ∧ OwnP (q + 1 + 1 + 1 + 1 + 1) W av mv f ∧ (mv = 0 ∨ ∀ ad, av = some ad → ¬ T ad.block) ∧
  Boxed W (q + 1) 22 (.slice none 0 0) ∧ Boxed W (q + 1 + 1) 2 (.int .i64 0) ∧ Below q w W ∧ (∀ r, T r → q + 1 + 1 + 1 + 1 + 1 ≤ r) ∧ q + 1 + 1 + 1 + 1 + 1 ≤ W.heap.size

/-- A round has returned. -/
def LstR (q : Nat) (w : World) (pre : List Yd) (_T : Nat → Prop) (W : World) : Prop :=
 foldY (pre.map Yd.pr) = none ∧ Boxed W (q + 1) 22 (.slice none 0 0) ∧ Boxed W (q + 1 + 1) 2 (.int .i64 3) ∧ Below q w W ∧ q + 1 + 1 + 1 + 1 + 1 ≤ W.heap.size

theorem OwnP.zero (B : Nat) (w : World) (a : Option Addr) : OwnP B w a 0 [] := ⟨rfl, .inl ⟨rfl, rfl⟩⟩

theorem OwnP.lt {B : Nat} {w : World} {a : Option Addr} {n : Nat} {xs : List Int} (h : OwnP B w a n xs) (hn : n ≠ 0) : ∃ g cur, a = some ⟨g, 0, none⟩ ∧ B ≤ g ∧ w.heap[g]? = some (.cells cur 2 (0, 0)) := by
 obtain ⟨_, h | ⟨g, cur, ha, hg, hh, _⟩⟩ := h
 ·exact absurd h.1 hn
 ·exact ⟨g, cur, ha, hg, hh⟩

theorem OwnP.nilOf {B : Nat} {w : World} {a : Option Addr} {xs : List Int} (h : OwnP B w a 0 xs) : xs = [] := List.eq_nil_of_length_eq_zero h.1

theorem LstI.keep {q : Nat} {w : World} {pre : List Yd} {T : Nat → Prop} {W W' : World} {row : Option Nat} (h : LstI q w pre T W) (hg : W.grownBy W' row)
  (hr : ∀ r, row = some r → q + 1 + 1 + 1 + 1 + 1 ≤ r ∧ (T r ∨ ∃ o : Obj, W.heap[r]? = some o ∧ o.isCells = false)) : LstI q w pre T W' := by
 obtain ⟨f, av, mv, cv, h1, h2, h3, h4, h5, h6, h7, h8, h9, h10, h11, h12, h13⟩ := h
 have ne : ∀ B, B < q + 1 + 1 + 1 + 1 + 1 → some B ≠ row := fun B hB e => by have := (hr B e.symm).1; omega
 refine ⟨f, av, mv, cv, h1, h2, h3, h4, h5, h6.kept hg (ne _ (by omega)), ?_, h8, h9.kept hg (ne _ (by omega)), h10.kept hg (ne _ (by omega)), h11.grown hg (by omega) (fun j ej => by have := (hr j ej).1; omega), h12, Nat.le_trans h13 hg.size⟩
 by_cases hm : mv = 0
 ·subst hm
  rw [h7.nilOf]
  exact OwnP.zero _ _ _
 ·refine h7.heap fun g _ ha hl => hg.block g hl (fun e => ?_)
  obtain ⟨g1, cur, e1, _, hh⟩ := h7.lt hm
  rw [e1] at ha
  simp at ha
  subst ha
  rcases (hr g1 e.symm).2 with ht | ⟨o, ho, hc⟩
  ·exact (h8.resolve_left hm) _ e1 ht
  ·rw [hh] at ho
   cases ho
   cases hc

theorem lstI_own (q : Nat) (w : World) : OwnT (LstI q w) := by
 refine ⟨fun s T W W' row hs hg hr => hs.keep hg fun r e => ⟨?_, .inl (hr r e).1⟩, fun s T T' W hs ht => ?_⟩
 ·obtain ⟨f, av, mv, cv, h1, h2, h3, h4, h5, h6, h7, h8, h9, h10, h11, h12, h13⟩ := hs
  exact h12 r (hr r e).1
 ·obtain ⟨f, av, mv, cv, h1, h2, h3, h4, h5, h6, h7, h8, h9, h10, h11, h12, h13⟩ := hs
  refine ⟨f, av, mv, cv, h1, h2, h3, h4, h5, h6, h7, ?_, h9, h10, h11, fun r hr => (ht r hr).elim (h12 r) (fun e => by omega), h13⟩
  by_cases hm : mv = 0
  ·exact .inl hm
  ·refine .inr fun ad ha hT => ?_
   rcases ht _ hT with h | h
   ·exact (h8.resolve_left hm) ad ha h
   ·obtain ⟨g1, cur, e1, _, hh⟩ := h7.lt hm
    rw [e1] at ha
    cases ha
    have := (Array.getElem?_eq_some_iff.1 hh).1
    simp at h
    omega

theorem lstI_from (q : Nat) (w : World) (T : Nat → Prop) (B : Nat) (hB : q + 1 + 1 + 1 + 1 + 1 ≤ B) : OwnFrom B (fun s => LstI q w s T) := fun _ _ _ _ hs hg hr => hs.keep hg fun r e => ⟨Nat.le_trans hB (hr r e).1, .inr (hr r e).2⟩

theorem lstR_from (q : Nat) (w : World) (T : Nat → Prop) (B : Nat) (hB : q + 1 + 1 + 1 + 1 + 1 ≤ B) : OwnFrom B (fun s => LstR q w s T) := by
 intro s W W' row hs hg hr
 obtain ⟨h1, h2, h3, h4, h5⟩ := hs
 have ne : ∀ B', B' < q + 1 + 1 + 1 + 1 + 1 → some B' ≠ row := fun B' hB' e => by have := (hr B' e.symm).1; omega
 exact ⟨h1, h2.kept hg (ne _ (by omega)), h3.kept hg (ne _ (by omega)), h4.grown hg (by omega) (fun j ej => by have := (hr j ej).1; omega), Nat.le_trans h5 hg.size⟩

theorem OwnP.set {B : Nat} {w : World} {a : Option Addr} {n : Nat} {xs : List Int} (h : OwnP B w a n xs) {b : Nat} (hb : b < B) (u : Value) : OwnP B (w.setCell ⟨b, 0, none⟩ u) a n xs :=
 h.heap fun g hg _ _ => Below.heap_setCell w ⟨b, 0, none⟩ u g (by show g ≠ b; omega)

theorem OwnP.putObj {B : Nat} {w : World} {a : Option Addr} {n : Nat} {xs : List Int} (h : OwnP B w a n xs) {D : Nat} {o : Obj} (o' : Obj) (hD : w.heap[D]? = some o) (ho : o.isCells = false) : OwnP B (w.putObj D o') a n xs := by
 by_cases hn : n = 0
 ·subst hn
  rw [h.nilOf]
  exact OwnP.zero _ _ _
 ·refine h.heap fun g _ ha _ => World.putObj_heap_other (fun e => ?_)
  obtain ⟨g1, cur, e1, _, hh⟩ := h.lt hn
  rw [e1] at ha
  simp at ha
  subst ha
  subst e
  rw [hh] at hD
  cases hD
  cases ho

theorem KeepC.set (q : Nat) (W : World) (u : Value) : KeepC q W (W.setCell ⟨q, 0, none⟩ u) := ⟨by simp, fun g _ hg ho _ => (Below.heap_setCell W ⟨q, 0, none⟩ u g hg).trans ho⟩

theorem own_cap {B : Nat} {w : World} {a : Option Addr} {n c : Nat} {xs : List Int} (h : Own B w a n c xs) : n ≤ c ∧ c ≤ 9223372036854775807 ∧ (a = none → c = 0) := by
 rcases h.2 with ⟨hv, h0⟩ | ⟨g, cc, cur, hv, _, _, q1, q2, _⟩
 ·simp only [Value.slice.injEq] at hv
  obtain ⟨rfl, rfl, rfl⟩ := hv
  exact ⟨Nat.le_refl _, by omega, fun _ => rfl⟩
 ·simp only [Value.slice.injEq] at hv
  obtain ⟨rfl, -, rfl⟩ := hv
  unfold maxLen at q2
  exact ⟨by omega, by omega, fun h => by cases h⟩

theorem Boxed.place (w : World) (t : TypeId) (v : Value) (b : Nat) (hb : w.heap.size = b) : Boxed (w.alloc (.cells #[v] t)) b t v := by subst hb; exact Boxed.new w t v

theorem Reads.keepC {W : World} {a : Option Addr} {n : Nat} {xs : List Int} {l : Nat} {o o' : Obj} (h : Reads W a n xs) (_k : KeepC 0 W (W.putObj l o')) (hl : W.heap[l]? = some o) (ho : o.isCells = false) : Reads (W.putObj l o') a n xs := by
 refine ⟨h.1, ?_⟩
 rcases h.2 with h0 | ⟨b, off, ha, hc⟩
 ·exact .inl h0
 ·refine .inr ⟨b, off, ha, fun j hj => ?_⟩
  have h1 := hc j hj
  obtain ⟨ob, h2, h3⟩ := cells_of_cell h1
  have h2' : W.heap[b]? = some ob := h2
  have h4 : (W.putObj l o').heap[b]? = some ob := (World.putObj_heap_other (fun e => by rw [e, hl] at h2'; cases h2'; rw [h3] at ho; cases ho)).trans h2'
  unfold World.cell? at h1 ⊢
  rw [show (W.putObj l o').heap[(⟨b, off + j, none⟩ : Addr).block]? = some ob from h4]
  rw [show W.heap[(⟨b, off + j, none⟩ : Addr).block]? = some ob from h2] at h1
  exact h1

theorem keeps_below {W W' : World} (h : Below W.heap.size W W') : KeepsOthers W W' := ⟨h.size, fun k _ hk _ => (h.block k (Array.getElem?_eq_some_iff.1 hk).1).trans hk⟩

set_option maxRecDepth 100000 in
set_option maxHeartbeats 12000000 in
theorem lastFree_any (s : Int) (a : Option Addr) (n cap : Nat) (ls : List Int) (w : World) (hr : Reads w a n ls) (hn : n ≤ 1000) (hs0 : 1 ≤ s) (hs : s ≤ 50) (hls : ∀ x ∈ ls, Lett s x) :
  Calls Try.prog 115 #[.agg #[.int .i64 s, .slice a n cap]] w (RetLast w (strF (s - 1) ls n)) := by
 refine (callsIn_wide (n := 9)).1 ?_
 have A := Lib.hid (At2.new w (.int .i64 s) (.slice a n cap) 29)
 have R := Lib.hid hr; clear hr
 have HLS := Lib.hid hls; clear hls
 obtain ⟨qA1, qA2, qA3, qA4, qA5⟩ := A.out
 refine callsIn_of_wp_marks Try.func115 rfl trivial ?_ rfl
 simp only [Try.ntmps115, List.size_toArray, List.length_cons, List.length_nil, Nat.reduceAdd, Nat.reduceSub, Array.replicate_succ, Array.replicate_zero, List.push_toArray, List.append_toArray, List.nil_append, List.cons_append]
 gi_wp2_with fail
 refine ⟨trivial, ?_⟩
 refine (callsIn_wide.2 (addedGen_any _ _ _ _ _)).mono ?_
 rintro e w1 ⟨rfl, hw1⟩
 obtain ⟨q, hq⟩ : ∃ q, q = w.heap.size := ⟨_, rfl⟩
 have hz : w1.heap.size = q + 1 + 1 + 1 + 1 + 1 := by rw [hw1, hq]; simp
 have hB1 : Below q w w1 := by
  rw [hw1, hq]
  exact ((((((Below.refl _ w).alloc (Nat.le_refl _) _).alloc (by simp) _).alloc (by simp; omega) _).alloc (by simp; omega) _).alloc (by simp; omega) _)
 have hA1 : At2 w1 (q + 1 + 1 + 1 + 1) (.int .i64 s) (.slice a n cap) := by
  rw [hw1]
  exact At2.place _ _ _ _ _ (by rw [hq]; simp)
 have hbx1 : Boxed w1 (q + 1 + 1 + 1) 22 (.slice none 0 0) := by rw [hw1, hq]; exact (Boxed.place _ _ _ _ (by simp)).alloc _
 have hbx2 : Boxed w1 (q + 1) 22 (.slice none 0 0) := by rw [hw1, hq]; exact (((Boxed.place _ _ _ _ (by simp)).alloc _).alloc _).alloc _
 have hbx3 : Boxed w1 (q + 1 + 1) 2 (.int .i64 0) := by rw [hw1, hq]; exact ((Boxed.place _ _ _ _ (by simp)).alloc _).alloc _
 have hR1 : Reads w1 a n ls := R.out.below (by rw [hq] at hB1; exact hB1)
 have hs1 := added_seq s (q + 1 + 1 + 1 + 1) (q + 1 + 1 + 1) a n cap ls w1 (9 - 1) hA1 hR1 (by omega) (by omega) (fun ad ha h0 => by
  obtain ⟨b, off, e1, hb, _⟩ := R.out.cells h0
  rw [e1] at ha
  cases ha
  show b ≠ _
  omega) hn hs0 hs HLS.out
 have hI1 : LstI q w [] (fun _ => False) w1 := ⟨[], none, 0, 0, rfl, by omega, by omega, by omega, fun _ => ⟨rfl, rfl⟩, hbx1, OwnP.zero _ _ _, .inl rfl, hbx2, hbx3, hB1, fun _ h => h.elim, by omega⟩
 clear qA1 qA2 qA3 qA4 qA5 A hA1 hbx1 hbx2 hbx3 hB1
 clear hw1
 gi_wp2
 rw [← hq]
 have HQ := Lib.hid hq; have HS1 := Lib.hid hs1; have HI1 := Lib.hid hI1
 clear hq hs1 hI1 hR1
 refine range_ret (gf := 151) (lb := #[.pointer (some ⟨q + 1 + 1 + 1 + 1, 0, none⟩)]) rfl (enters_of Try.func151 (by kernel_rfl) rfl) HS1.out (fun _ => rfl) (fun h k => h.trans k) (fun W l o o' _ hl ho => KeepC.putObj _ W o' hl ho) ?rd (LstI q w) (LstR q w) (lstI_own q w) (fun T => lstI_from q w T _ (by omega)) (fun T => lstR_from q w T _ (by omega)) HI1.out
  (fun y => { tmps := #[.agg #[.int .i64 s, .slice a n cap], .pointer (some ⟨q, 0, none⟩), .pointer (some ⟨q + 1, 0, none⟩), .pointer (some ⟨q + 1 + 1, 0, none⟩), .pointer (some ⟨q + 1 + 1 + 1, 0, none⟩), .int .i64 y.x, .slice y.a y.m y.c, undef, undef, undef, .agg #[.int .i64 s, .slice a n cap], .func (.func 151) #[] #[.pointer (some ⟨q + 1 + 1 + 1 + 1, 0, none⟩)], .int .i64 y.x, .slice y.a y.m y.c, undef, undef, undef, undef, undef, undef, undef, undef, undef, undef, undef, undef, undef, undef, undef, undef, undef, undef, undef, undef, undef], defers := [] }) ?assign ?body ?done ?stop
 case rd =>
  intro y W l o o' _ hl ho hrd
  exact ⟨hrd.1.keepC (KeepC.putObj 0 W o' hl ho) hl ho, hrd.2⟩
 case assign =>
  intro l y W K hK
  unfold Yd.enc
  gi_wp2
  exact hK
 case body =>
  rintro l pre T ⟨x, ya, ym, yc, rest⟩ V hI hlt hrd hT hV
  obtain ⟨f, av, mv, cv, i1, i2, i3, i4, i5, i6, i7, i8, i9, i10, i11, i12, i13⟩ := hI
  obtain ⟨d1, d2, d3, d4, d5⟩ := hrd
  change Reads V ya ym rest at d1
  change ym ≤ 1000 at d2
  change ∀ z ∈ rest, -100 < z ∧ z < 100 at d3
  change -100 < x at d4
  change x < 100 at d5
  dsimp only
  have D1 := Lib.hid d1
  have DS : Hid (Small rest) := Lib.hid (fun z hz => by have := d3 z hz; omega)
  have DI := Lib.hid (inverse_bd d3)
  have HF := Lib.hid i1; have H5 := Lib.hid i5; have H6 := Lib.hid i6; have H7 := Lib.hid i7; have H8 := Lib.hid i8; have H9 := Lib.hid i9; have H10 := Lib.hid i10; have H11 := Lib.hid i11; have H12 := Lib.hid i12; have HT := Lib.hid hT
  clear d1 d3 i1 i5 i6 i7 i8 i9 i10 i11 i12 hT
  gi_wp2_with fail
  refine ⟨trivial, ?_⟩
  refine (CallsIn.inRound l (callsIn_wide.2 (inverted_any 0 ya ym yc rest V D1.out DS.out (by omega)))).mono ?_
  rintro e w2 ⟨a2, n2, c2, rfl, ho2, hb2⟩
  have HO2 := Lib.hid ho2; have HB2 := Lib.hid hb2; clear ho2 hb2
  have hn2 : n2 ≤ 1000 := by have h1 := HO2.out.len; have h2 := D1.out.len; unfold inverse at h1; simp at h1; omega
  gi_wp2_with fail
  refine ⟨trivial, ?_⟩
  refine (CallsIn.inRound l (callsIn_wide.2 (pipeline_any 0 a2 n2 c2 (inverse rest) w2 HO2.out.reads (by omega)))).mono ?_
  rintro e w3 ⟨v3, rfl, ho, hb3⟩
  have hlen := HO2.out.len
  obtain ⟨ga, cs, rfl⟩ := ho.form
  have hgp : ∃ g, (n2 = 0 ∨ ga = some ⟨g, 0, none⟩) ∧ (n2 = 0 ∨ g < w3.heap.size) ∧ ∀ j (h : j < (inverse rest).length), w3.cell? ⟨g, j, none⟩ = some (stepV (inverse rest)[j]) := by
   rcases Nat.eq_zero_or_pos n2 with h0 | h0
   ·exact ⟨0, .inl h0, .inl h0, fun j hj => by omega⟩
   ·rcases ho.2 with ⟨hv, h1⟩ | ⟨g, c, cur, hv, hB, hh, _⟩
    ·omega
    ·obtain ⟨rfl, _, rfl⟩ := Value.slice.injEq .. ▸ hv
     refine ⟨g, .inr rfl, .inr (Array.getElem?_eq_some_iff.1 hh).1, fun j hj => ?_⟩
     have := World.ownsRow.cellAt ho j (by omega)
     rw [this]
     simp [hj]
  obtain ⟨g, g1, g2, g3⟩ := hgp
  have hba := (Below.refl w3.heap.size w3).alloc (Nat.le_refl _) (.cells #[.int .i64 x] 2)
  have hsa : (w3.alloc (.cells #[.int .i64 x] 2)).heap.size = w3.heap.size + 1 := by simp
  have G1 := Lib.hid g1
  have G2 : Hid (n2 = 0 ∨ g < (w3.alloc (.cells #[.int .i64 x] 2)).heap.size) := Lib.hid (g2.imp id (fun h => by omega))
  have G3 : Hid (∀ j (h : j < (inverse rest).length), (w3.alloc (.cells #[.int .i64 x] 2)).cell? ⟨g, j, none⟩ = some (stepV (inverse rest)[j])) := Lib.hid (fun j h => (hba.cell (p := ⟨g, j, none⟩) (g2.resolve_left (by omega))).trans (g3 j h))
  have hlit := own_lit w3 [x] (by simp [maxLen])
  have RL := Lib.hid hlit.reads
  have HSM : Hid (Small [x]) := Lib.hid (fun z hz => by obtain rfl := List.mem_singleton.1 hz; omega)
  have HLN := Lib.hid hlen
  have HBA := Lib.hid (below_go (HB2.out.trans (hb3.mono HB2.out.size)) (Below.refl _ w3) (by have := HB2.out.size; have := hb3.size; omega))
  have hz3 : V.heap.size ≤ w3.heap.size := HBA.out.size
  have HBB : Hid (Below V.heap.size V (w3.alloc (.cells #[.int .i64 x] 2))) := Lib.hid (HBA.out.alloc hz3 _)
  clear g1 g2 g3 hba hlit hlen ho hb3 HB2
  cases hac : actFM 400 (inverse rest) [x] with
  | none =>
   have hmp : mPassM 400 (inverse rest) [x] = ([], 3) := by unfold mPassM; rw [hac]
   have HMP := Lib.hid hmp; have HAC := Lib.hid hac; clear hmp hac
   gi_wp2_with fail
   refine ⟨trivial, ?_⟩
   refine (CallsIn.inRound l (callsIn_wide.2 (passed_any 400 (by omega) (by omega) g n2 cs (inverse rest) _ 1 1 [x] _ HLN.out (by omega) G2.out G3.out DI.out RL.out HSM.out (by omega) ga G1.out HMP.out))).mono ?_
   rintro e w4 ⟨a4, n4, c4, rfl, hl4, ho4, hb4⟩
   have HB4 := Lib.hid (below_go HBB.out hb4 (by omega)); clear ho4 hb4
   have t1 : ((3 : Int) != 0) = true := by simp
   have b9 : Boxed w4 (q + 1) _ _ := (HB4.out.block _ (by omega)).trans H9.out
   have b10 : Boxed w4 (q + 1 + 1) _ _ := (HB4.out.block _ (by omega)).trans H10.out
   have j9 := b9.cell
   have j10 := b10.cell
   have g9 := b9.frozen
   have g10 := b10.frozen
   have B9 := Lib.hid b9; have B10 := Lib.hid b10; clear b9 b10
   have hz4 : q + 1 + 1 + 1 + 1 + 1 ≤ w4.heap.size := Nat.le_trans i13 HB4.out.size
   gi_wp2
   refine ⟨((keeps_below HB4.out).trans ((KeepsOthers.setCell _ _ _).trans (KeepsOthers.setCell _ _ _))).from _, ?_, (B9.out.set _).other (by omega) _, (B10.out.other (by omega) _).set _, ?_, by simpa using hz4⟩
   ·show foldY (List.map Yd.pr (pre ++ [⟨x, ya, ym, yc, rest⟩])) = none
    rw [List.map_append]
    show foldY (pre.map Yd.pr ++ [(x, rest)]) = none
    rw [foldY_snoc, HF.out]
    exact addY_none HAC.out
   ·exact ((H11.out.trans (HB4.out.mono (by omega))).setCell (p := ⟨q + 1, 0, none⟩) (by show q ≤ q + 1; omega) _).setCell (p := ⟨q + 1 + 1, 0, none⟩) (by show q ≤ q + 1 + 1; omega) _
  | some led =>
   have hmp : mPassM 400 (inverse rest) [x] = (led, 0) := by unfold mPassM; rw [hac]
   have HMP := Lib.hid hmp; have HAC := Lib.hid hac; clear hmp hac
   have HLF := Lib.hid (actFM_facts HAC.out DI.out HSM.out (red_one x) (by simp))
   gi_wp2_with fail
   refine ⟨trivial, ?_⟩
   refine (CallsIn.inRound l (callsIn_wide.2 (passed_any 400 (by omega) (by omega) g n2 cs (inverse rest) _ 1 1 [x] _ HLN.out (by omega) G2.out G3.out DI.out RL.out HSM.out (by omega) ga G1.out HMP.out))).mono ?_
   rintro e w4 ⟨a4, n4, c4, rfl, hl4, ho4, hb4⟩
   have HB4 := Lib.hid (below_go HBB.out hb4 (by omega)); have HO4 := Lib.hid ho4; clear ho4 hb4
   have t1 : ((0 : Int) != 0) = false := by simp
   obtain ⟨k1, k2, k3⟩ := own_cap HO4.out
   have K3 := Lib.hid k3; clear k3
   have hn4 : n4 ≤ 400 := by have h1 := HO4.out.len; have h2 := HLF.out.2.2; omega
   have b6 : Boxed w4 (q + 1 + 1 + 1) _ _ := (HB4.out.block _ (by omega)).trans H6.out
   have j6 := b6.cell
   have hz4 : q + 1 + 1 + 1 + 1 + 1 ≤ w4.heap.size := Nat.le_trans i13 HB4.out.size
   have HP4 := Lib.hid (H7.out.below HB4.out)
   clear b6
   gi_wp2_with fail
   refine ⟨trivial, ?_⟩
   refine (CallsIn.inRound l (callsIn_wide.2 (joinedFree_any (q + 1 + 1 + 1 + 1 + 1) av mv cv f a4 n4 c4 led w4 HP4.out i3 H5.out K3.out HO4.out.reads k1 k2 i4 (by omega) (by omega) hz4 HLF.out.1 HLF.out.2.1))).mono ?_
   rintro e w5 ⟨a5, n5, c5, rfl, hP5, p1, p2, p3, hb5, p4⟩
   have HB5 := Lib.hid (below_go HB4.out hb5 (by have := HB4.out.size; omega))
   have HP5 := Lib.hid hP5; have P3 := Lib.hid p3
   have P4 : Hid (n5 = 0 ∨ ∀ ad, a5 = some ad → ¬ T ad.block) := Lib.hid (by
    rcases p4 with ⟨e1, e2⟩ | e1
    ·rcases H8.out with h | h
     ·exact .inl (by omega)
     ·exact .inr (by rw [e1]; exact h)
    ·refine .inr fun ad ha hT => ?_
     have h1 := e1 ad ha
     have h2 := HT.out _ hT
     have h3 := HB4.out.size
     omega)
   have hl5 : Hid ((joinF f led).length = n5) := Lib.hid HP5.out.1
   clear hP5 hb5 p3 p4
   have hz5 : q + 1 + 1 + 1 + 1 + 1 ≤ w5.heap.size := Nat.le_trans i13 HB5.out.size
   have b6 : Boxed w5 (q + 1 + 1 + 1) _ _ := (HB5.out.block _ (by omega)).trans H6.out
   have b9 : Boxed w5 (q + 1) _ _ := (HB5.out.block _ (by omega)).trans H9.out
   have b10 : Boxed w5 (q + 1 + 1) _ _ := (HB5.out.block _ (by omega)).trans H10.out
   have j5 := b6.cell
   have j9 := b9.cell
   have j10 := b10.cell
   have g6 := b6.frozen
   have g9 := b9.frozen
   have g10 := b10.frozen
   have B6 := Lib.hid b6; have B9 := Lib.hid b9; have B10 := Lib.hid b10; clear b6 b9 b10
   by_cases hbig : 400 < n5
   ·have t6 : decide ((400 : Int) < (n5 : Int)) = true := decide_eq_true (by omega)
    gi_wp2
    refine ⟨((keeps_below HB5.out).trans ((KeepsOthers.setCell _ _ _).trans ((KeepsOthers.setCell _ _ _).trans (KeepsOthers.setCell _ _ _)))).from _, ?_, ((B9.out.other (by omega) _).set _).other (by omega) _, ((B10.out.other (by omega) _).other (by omega) _).set _, ?_, by simpa using hz5⟩
    ·show foldY (List.map Yd.pr (pre ++ [⟨x, ya, ym, yc, rest⟩])) = none
     rw [List.map_append]
     show foldY (pre.map Yd.pr ++ [(x, rest)]) = none
     rw [foldY_snoc, HF.out]
     exact addY_long HAC.out (by rw [hl5.out]; omega)
    ·exact (((H11.out.trans (HB5.out.mono (by omega))).setCell (p := ⟨q + 1 + 1 + 1, 0, none⟩) (by show q ≤ q + 1 + 1 + 1; omega) _).setCell (p := ⟨q + 1, 0, none⟩) (by show q ≤ q + 1; omega) _).setCell (p := ⟨q + 1 + 1, 0, none⟩) (by show q ≤ q + 1 + 1; omega) _
   ·have t6 : decide ((400 : Int) < (n5 : Int)) = false := decide_eq_false (by omega)
    gi_wp2
    refine ⟨((keeps_below HB5.out).trans (KeepsOthers.setCell _ _ _)).from _, (KeepC.below HB5.out).trans (KeepC.set _ _ _), joinF f led, a5, n5, c5, ?_, by omega, p1, p2, P3.out, B6.out.set _, HP5.out.set (by omega) _, P4.out, B9.out.other (by omega) _, B10.out.other (by omega) _, ?_, H12.out, by simpa using hz5⟩
    ·show foldY (List.map Yd.pr (pre ++ [⟨x, ya, ym, yc, rest⟩])) = _
     rw [List.map_append]
     show foldY (pre.map Yd.pr ++ [(x, rest)]) = _
     rw [foldY_snoc, HF.out]
     exact addY_some HAC.out (by rw [hl5.out]; omega)
    ·exact (H11.out.trans (HB5.out.mono (by omega))).setCell (p := ⟨q + 1 + 1 + 1, 0, none⟩) (by show q ≤ q + 1 + 1 + 1; omega) _
 case done =>
  rintro D ys T V hD hS hI hK
  obtain ⟨f, av, mv, cv, i1, i2, i3, i4, i5, i6, i7, i8, i9, i10, i11, i12, i13⟩ := hI
  have j6 := i6.cell
  have j9 := i9.cell
  have j10 := i10.cell
  have g9 := i9.frozen
  have g10 := i10.frozen
  have HK := Lib.hid hK; have HS := Lib.hid hS; have H1 := Lib.hid i1; have H7 := Lib.hid i7; have H9 := Lib.hid i9; have H10 := Lib.hid i10; have H11 := Lib.hid i11; have H5 := Lib.hid i5; have H6 := Lib.hid i6
  clear hK hS i1 i7 i8 i9 i10 i11 i12 i5 i6
  gi_wp2
  have b9 := (H9.out.set (.slice av mv cv)).other (show q + 1 ≠ q + 1 + 1 by omega) (.int .i64 0)
  have b10 := (H10.out.other (show q + 1 + 1 ≠ q + 1 by omega) (.slice av mv cv)).set (.int .i64 0)
  have hD2 := (KeepsOthers.setCell (V.setCell ⟨q + 1, 0, none⟩ (.slice av mv cv)) ⟨q + 1 + 1, 0, none⟩ (.int .i64 0)).same _ _ ((KeepsOthers.setCell V ⟨q + 1, 0, none⟩ (.slice av mv cv)).same _ _ HK.out rfl) rfl
  have c9 := (b9.kept (grownBy_putObj' _ D (.deferred none)) (by simp; omega)).cell
  have c10 := (b10.kept (grownBy_putObj' _ D (.deferred none)) (by simp; omega)).cell
  refine ⟨by simp, .inl ⟨_, _, rfl, run_takeDeferred hD2, ?_⟩⟩
  refine ⟨.tuple #[.slice av mv cv, .int .i64 0], by simp [results, Try.results115, go_sem, c9, c10], .inl ⟨f, av, mv, cv, ?_, rfl, ?_, i2, i3, i4, H5.out, by rw [← HQ.out]; simp [World.putObj]; omega, ?_⟩⟩
  ·rw [← foldY_yieldF, ← HS.out]; exact H1.out
  ·rw [← HQ.out]; exact (((H7.out.set (by omega) _).set (by omega) _).putObj _ hD2 rfl).mono (by omega)
  ·rw [← HQ.out]; exact (((H11.out.setCell (p := ⟨q + 1, 0, none⟩) (by show q ≤ q + 1; omega) _).setCell (p := ⟨q + 1 + 1, 0, none⟩) (by show q ≤ q + 1 + 1; omega) _).grown (grownBy_putObj' _ D _) (by simp; omega) (fun j ej => by cases ej; omega))
 case stop =>
  rintro D pre T V hD hSp hR hK
  obtain ⟨r1, r2, r3, r4, r5⟩ := hR
  have HK := Lib.hid hK; have HS := Lib.hid hSp; have H1 := Lib.hid r1; have H2 := Lib.hid r2; have H3 := Lib.hid r3; have H4 := Lib.hid r4
  clear hK hSp r1 r2 r3 r4
  have c9 := (H2.out.kept (grownBy_putObj' _ D (.deferred none)) (by simp; omega)).cell
  have c10 := (H3.out.kept (grownBy_putObj' _ D (.deferred none)) (by simp; omega)).cell
  gi_wp2
  refine ⟨by simp, .inl ⟨_, _, rfl, run_takeDeferred HK.out, ?_⟩⟩
  refine ⟨.tuple #[.slice none 0 0, .int .i64 3], by simp [results, Try.results115, go_sem, c9, c10], .inr ⟨?_, rfl, ?_⟩⟩
  ·obtain ⟨k, hk, hp⟩ := HS.out
   have h1 := H1.out
   rw [hp, foldY_yieldF] at h1
   have h2 := strF_none h1 (n - k)
   rwa [show k + (n - k) = n by omega] at h2
  ·rw [← HQ.out]; exact H4.out.grown (grownBy_putObj' _ D _) (by omega) (fun j ej => by cases ej; omega)

end Go.Proofs.Ytehcbamfendbaaa

