/- The generators that are added for the last strand: the program's iterator. -/
import Derived.Test.YtehcbamfendbaaaSeRg2
import Derived.Test.YtehcbamfendbaaaSeMg17
import Derived.Test.YtehcbamfendbaaaSeSStr
namespace Go.Proofs.Ytehcbamfendbaaa
open Go.RowKit Go.Shelf Go.ChangeShapes

attribute [local go_sem] Oper.semAt_some

/-- What is yielded: a letter, and the rest so far where it lies. -/
structure Yd where
 x : Int
 a : Option Addr
 m : Nat
 c : Nat
 rest : List Int

def Yd.enc (y : Yd) : Array Value := #[.int .i64 y.x, .slice y.a y.m y.c]
def Yd.pr (y : Yd) : Int × List Int := (y.x, y.rest)

/-- What is yielded can be read. -/
def YdRd (y : Yd) (W : World) : Prop := Reads W y.a y.m y.rest ∧ y.m ≤ 1000 ∧ (∀ z ∈ y.rest, -100 < z ∧ z < 100) ∧ -100 < y.x ∧ y.x < 100

/-- The yields behind k letters. -/
def yieldF (j : Int) (ls : List Int) : Nat → List (Int × List Int)
 | 0 => []
 | k + 1 => yieldF j ls k ++ (if ls.getD k 0 = -placeL j (ls.take k) ∨ ls.getD k 0 = placeL j (ls.take k) + 1 then [(ls.getD k 0, forgetL j (ls.take k))] else [])

theorem yieldF_len (j : Int) (ls : List Int) : ∀ k, (yieldF j ls k).length ≤ k
 | 0 => Nat.le_refl _
 | k + 1 => by
  have := yieldF_len j ls k
  rw [yieldF, List.length_append]
  split <;> simp <;> omega

/-- But for block q, all cells lie as they lay. -/
def KeepC (q : Nat) (W W' : World) : Prop := W.heap.size ≤ W'.heap.size ∧ ∀ (g : Nat) (o : Obj), g ≠ q → W.heap[g]? = some o → o.isCells = true → W'.heap[g]? = some o

theorem KeepC.refl (q : Nat) (W : World) : KeepC q W W := ⟨Nat.le_refl _, fun _ _ _ h _ => h⟩
theorem KeepC.trans {q : Nat} {A B C : World} (h : KeepC q A B) (k : KeepC q B C) : KeepC q A C := ⟨Nat.le_trans h.1 k.1, fun g o hg ho hc => k.2 g o hg (h.2 g o hg ho hc) hc⟩
theorem KeepC.putObj (q : Nat) (W : World) {l : Nat} {o : Obj} (o' : Obj) (hl : W.heap[l]? = some o) (ho : o.isCells = false) : KeepC q W (W.putObj l o') :=
 ⟨by simp [World.putObj], fun g ob _ hg hc => (World.putObj_heap_other (fun e => by subst e; rw [hg] at hl; cases hl; rw [hc] at ho; cases ho)).trans hg⟩
theorem KeepC.grown {q : Nat} {W A B : World} {row : Option Nat} (h : KeepC q W A) (hg : A.grownBy B row) (hr : ∀ r, row = some r → W.heap.size ≤ r) : KeepC q W B :=
 ⟨Nat.le_trans h.1 hg.size, fun g o hne ho hc => by
  have hA := h.2 g o hne ho hc
  refine (hg.block g (Array.getElem?_eq_some_iff.1 hA).1 (fun e => ?_)).trans hA
  have h1 := hr g e.symm
  have h2 := (Array.getElem?_eq_some_iff.1 ho).1
  omega⟩
theorem KeepC.below {q : Nat} {W W' : World} (h : Below W.heap.size W W') : KeepC q W W' := ⟨h.size, fun g _ _ ho _ => (h.block g (Array.getElem?_eq_some_iff.1 ho).1).trans ho⟩
theorem KeepC.cell {q : Nat} {W W' : World} (h : KeepC q W W') {p : Addr} {v : Value} (hc : W.cell? p = some v) (hp : p.block ≠ q) : W'.cell? p = some v := by
 obtain ⟨o, ho, hcl⟩ := cells_of_cell hc
 have e := h.2 _ _ hp ho hcl
 unfold World.cell? at hc ⊢
 rw [e]; rw [ho] at hc; exact hc
theorem KeepC.boxed {q : Nat} {W W' : World} (h : KeepC q W W') {b : Nat} {t : TypeId} {v : Value} (hb : Boxed W b t v) (hne : b ≠ q) : Boxed W' b t v := h.2 _ _ hne hb rfl
theorem KeepC.own {q B : Nat} {W W' : World} (h : KeepC q W W') {v : Value} {n : Nat} {xs : List Int} (ho : OwnV B W v n xs) (hq : q < B) : OwnV B W' v n xs := by
 refine ⟨ho.1, ?_⟩
 rcases ho.2 with h0 | ⟨g, c, cur, hv, hb, hh, e⟩
 ·exact .inl h0
 ·exact .inr ⟨g, c, cur, hv, hb, h.2 g _ (by omega) hh rfl, e⟩

theorem follow_new (p : Int) (w : World) :
  Calls Try.prog 116 #[.int .i64 p] w fun e w' => e = .returned (folV w.heap.size) ∧ w' = w.alloc (.cells #[.int .i64 p] 2) := by
 go_enter Try.func116, Try.ntmps116
 go_wp2
 go_ret
 exact ⟨rfl, rfl⟩

theorem wpListIn_append_own_at {F : Fence} {n : Nat} {P : Program} (w : World) {ops : Array Oper} {rest : List Oper} {o : Oper} {a : Act} {Q : Exit → Act → World → Prop}
  (hg : o.guard = none) (s x : Operand) (t : TypeId) (hop : o.op = Op.call { callee := Callee.builtin Builtin.append, args := #[s, x], argTypes := #[t, t] })
  (base : Nat) (e : TypeId) (i : TypeInfo) (z : Value) (size bytes : Nat) (h1 : P.underlying t = some (.slice e)) (h2 : P.info? e = some i) (h3 : i.zero = some z) (h4 : i.size = size) (h5 : i.bytes = bytes) (h6 : z.cells.size = size) (h7 : 0 < size)
  (v : Value) (k : Nat) (xs : List Value) (hs : a.eval s = v) (hown : w.ownsRow base e size v k xs) (ad : Addr) (m c : Nat) (news : List Value) (hx : a.eval x = .slice (some ad) m c) (hn : news.length = m * size)
  (hc : ∀ j u, news[j]? = some u → w.cell? (ad.add j) = some u) (h1c : ∀ u ∈ news, u.oneCell' = true) (b1 : k + m ≤ maxLen) (b2 : (k + m) * bytes ≤ 140737488355328) (b3 : base ≤ w.heap.size)
  (hK : ∀ v' w', w'.ownsRow base e size v' (k + m) (xs ++ news) → w.grownBy w' v.ownBlock → (v'.ownBlock = v.ownBlock ∨ v'.ownBlock = some w.heap.size) → wpListIn F n P ops Q rest (a.put o.dst v') w') :
  wpListIn F n P ops Q (o :: rest) a w := by
 refine wpListIn_plain hg fun K hK' => ?_
 obtain ⟨v', w', hrun, r1, r2, _, r4⟩ := run_append_own_at (P := P) w base t o.type e i z size bytes h1 h2 h3 h4 h5 h6 h7 v k xs hown ad m c news hn hc h1c b1 b2 b3
 unfold Oper.wpIn
 refine ⟨?_, ?_⟩
 ·simp [Oper.about, hop, resolve, Target.leads, Sem.run_pure]
 ·rw [Oper.semAt_plain F _ _ (by rw [hop]; intro c hc'; cases hc')]
  simp [execOp, hop, resolve, invoke, builtin, hs, hx, hrun, Result.andThen]
  exact hK' _ _ (hK v' w' r1 r2 r4)

/-- The iterator's own blocks: the place's, and the rest's. -/
def ownT (P : Nat) (v : Value) (r : Nat) : Prop := r = P ∨ v.ownBlock = some r

theorem ownT_grow {α : Type} {J : List α → (Nat → Prop) → World → Prop} (hJ : OwnT J) {pre : List α} {P B m : Nat} {xs : List Int} {v v6 : Value} {w3 w4 : World} {o : Obj} (h : J pre (ownT P v) w3) (ho : OwnV B w3 v m xs)
  (hgrow : (w3.alloc o).grownBy w4 v.ownBlock) (hat : v6.ownBlock = v.ownBlock ∨ v6.ownBlock = some (w3.heap.size + 1)) : J pre (ownT P v6) w4 := by
 have j1 := hJ.alloc o (hJ.2 _ _ (fun r => ownT P v r ∨ r = w3.heap.size + 1) _ h (fun r hr => hr.elim .inl (fun e => .inr (by omega))))
 have j2 := hJ.1 _ _ _ _ _ j1 hgrow (fun r e => ⟨.inl (.inr e), by
  rcases ho.2 with ⟨rfl, _⟩ | ⟨g, c, cur, rfl, hgb, hh, _⟩
  ·simp [Value.ownBlock] at e
  ·obtain rfl : g = r := by simpa [Value.ownBlock] using e
   exact ⟨_, (Below.heap_alloc w3 _ g (Array.getElem?_eq_some_iff.1 hh).1).trans hh, rfl⟩⟩)
 refine hJ.2 _ _ _ _ j2 (fun r hr => .inl ?_)
 rcases hr with rfl | hr
 ·exact .inl (.inl rfl)
 ·rcases hat with e | e
  ·exact .inl (.inr (e ▸ hr))
  ·rw [e] at hr
   simp at hr
   exact .inr hr.symm

set_option maxRecDepth 100000 in
set_option maxHeartbeats 2000000 in
theorem added_seq (s : Int) (B1 B4 : Nat) (a : Option Addr) (n cap : Nat) (ls : List Int) (w : World) (N : Nat) (hA : At2 w B1 (.int .i64 s) (.slice a n cap)) (hr : Reads w a n ls) (hB1 : B1 ≠ B4) (hB4 : B4 < w.heap.size) (hab : ∀ ad, a = some ad → 0 < n → ad.block ≠ B4) (hn : n ≤ 1000) (hs0 : 1 ≤ s) (hs : s ≤ 50) (hls : ∀ x ∈ ls, Lett s x) :
  SeqRd N 151 #[.pointer (some ⟨B1, 0, none⟩)] Yd.enc YdRd (KeepC B4) (fun xs => xs.map Yd.pr = yieldF (s - 1) ls n) (fun pre => ∃ k, k ≤ n ∧ pre.map Yd.pr = yieldF (s - 1) ls k) n w := by
 intro L J Jx W hL hwL hW hJ hY h0
 have hWs := hW.size
 obtain ⟨i0, hi, hz0, hz1, hz2⟩ := info_parts infoInt
 have kA := hA.below hW
 have HR := Lib.hid (hr.below hW)
 have HL := Lib.hid hr.len
 have HLS := Lib.hid hls
 have HY := Lib.hid hY
 have HJ := Lib.hid hJ
 have HAB := Lib.hid hab
 have k1 := kA.2.1
 have k2 := kA.2.2.1
 have e1 : IntKind.i64.wrap (s - 1) = s - 1 := IntWalk.i64_in _ (by omega)
 clear hls hY hJ hab hr hA kA
 refine callsIn_of_wp Try.func151 rfl trivial ?_ rfl
 simp only [Try.ntmps151, List.size_toArray, List.length_cons, List.length_nil, Nat.reduceAdd, Nat.reduceSub, Array.replicate_succ, Array.replicate_zero, List.push_toArray, List.append_toArray, List.nil_append, List.cons_append]
 gi_wp2_with fail
 refine ⟨trivial, fun e => by simp [Fence.wide] at e, ?_⟩
 gi_at_call 116
 refine (callsIn_wide.2 (follow_new (s - 1) W)).mono ?_
 rintro e w1 ⟨rfl, hw1⟩
 have hbx1 : Boxed w1 W.heap.size 2 (.int .i64 (s - 1)) := by rw [hw1]; exact Boxed.new W 2 _
 have hzw : w1.heap.size = W.heap.size + 1 := by rw [hw1]; simp
 have hK1 : KeepC B4 W w1 := by rw [hw1]; exact (KeepC.refl B4 W).grown (World.grownBy_alloc W _ none) (fun _ e => by cases e)
 have hJ1 : J [] (ownT W.heap.size (.slice none 0 0)) w1 := by
  rw [hw1]
  refine HJ.out.alloc _ (HJ.out.2 _ (fun _ => False) _ _ h0 ?_)
  rintro r (rfl | e)
  ·exact .inr (Nat.le_refl _)
  ·simp [Value.ownBlock] at e
 have k11 := hK1.cell k1 (p := ⟨B1, 0, none⟩) hB1
 have k12 := hK1.cell k2 (p := ⟨B1, 1, none⟩) hB1
 clear hw1 k1 k2 h0
 unfold folV
 gi_wp2
 gi_loopw [3, 18] (fun v i wr => ∃ (k m : Nat) (pre : List Yd), k ≤ n ∧ m ≤ k ∧ i = .int .i64 k ∧ OwnV (W.heap.size + 1) wr v m (forgetL (s - 1) (ls.take k)) ∧ Boxed wr W.heap.size 2 (.int .i64 (placeL (s - 1) (ls.take k))) ∧ J pre (ownT W.heap.size v) wr ∧ pre.map Yd.pr = yieldF (s - 1) ls k ∧ KeepC B4 W wr ∧ W.heap.size + 1 ≤ wr.heap.size) (fun _ i _ => n - (intOf i).toNat)
 case atStart => exact ⟨0, 0, [], Nat.zero_le _, Nat.zero_le _, rfl, OwnV.nil _ _, hbx1, hJ1, rfl, hK1, by omega⟩
 case round =>
  obtain ⟨k, m, pre, hk, hmk, rfl, ho, hbx, hJs, hpre, hkc, hz3⟩ := hrel
  by_cases hlt : k < n
  ·have hkl : k < ls.length := by rw [HL.out]; exact hlt
   obtain ⟨b, off, rfl, hb, hc⟩ := HR.out.cells (by omega)
   obtain ⟨l, hl⟩ : ∃ l, l = ls.getD k 0 := ⟨_, rfl⟩
   have h1 : wr.cell? ⟨b, off + k, none⟩ = some (.int .i64 l) := by rw [hl]; exact hkc.cell (hc _ hlt) (HAB.out ⟨b, off, none⟩ rfl (by omega))
   have hle : Lett s l := HLS.out l (by rw [hl]; exact getD_mem ls k hkl)
   have hpl := placeL_in (n := s) (p := s - 1) (by omega) (by omega) (letts_take HLS.out k)
   have HSTF := Lib.hid (forgetL_step (s - 1) ls k hkl)
   have HSTP := Lib.hid (placeL_step (s - 1) ls k hkl)
   have HYL := Lib.hid (yieldF_len (s - 1) ls k)
   have HYF : Hid (yieldF (s - 1) ls (k + 1) = _) := Lib.hid (yieldF.eq_2 (s - 1) ls k)
   have HRL := Lib.hid (forgetL_lett (n := s) (p := s - 1) (by omega) (by omega) (letts_take HLS.out k))
   rw [← hl] at HSTF HSTP HYF
   have hkb : -1000 < keptV (placeL (s - 1) (ls.take k)) l ∧ keptV (placeL (s - 1) (ls.take k)) l < 1000 := keptV_bd hpl.1 hpl.2 (by omega) hle
   rw [withoutP_eq] at HSTF
   obtain ⟨P, hP⟩ : ∃ P, P = placeL (s - 1) (ls.take k) := ⟨_, rfl⟩
   rw [← hP] at HSTF HSTP hpl hbx hkb HYF
   obtain ⟨xs, hxs⟩ : ∃ xs, xs = forgetL (s - 1) (ls.take k) := ⟨_, rfl⟩
   rw [← hxs] at ho HSTF HYF HRL
   obtain ⟨v', hv⟩ : ∃ v', keptV P l = v' := ⟨_, rfl⟩
   obtain ⟨o, hoo⟩ : ∃ o, keptO P l = o := ⟨_, rfl⟩
   rw [hv] at hkb
   rw [hv, hoo] at HSTF
   have hsm := hle.small (by omega)
   have HLI := Lib.hid ((lett_iff s l).1 hle)
   have HV := Lib.hid hv; have HOO := Lib.hid hoo
   clear hl hP hxs hc hv hoo
   have HO := Lib.hid ho; have HBX := Lib.hid hbx; have HJS := Lib.hid hJs; have HKC := Lib.hid hkc; have HPRE := Lib.hid hpre
   clear ho hbx hJs hkc hpre
   obtain ⟨p1, p2⟩ := hpl
   obtain ⟨u1, u2⟩ := hsm
   gi_wp2_with fail
   refine ⟨trivial, fun e => by simp [Fence.wide] at e, ?_⟩
   refine (callsIn_wide.2 (followed_any W.heap.size P l _ HBX.out u1 u2 p1 (by omega))).mono ?_
   rintro e w2 ⟨rfl, hw2⟩
   have HBX2 : Hid (Boxed w2 W.heap.size 2 (.int .i64 (stepP P l))) := Lib.hid (by rw [hw2]; exact HBX.out.set _)
   have HO2 : Hid (OwnV (W.heap.size + 1) w2 _ m xs) := Lib.hid (by rw [hw2]; exact OwnV.setCell_below HO.out (by omega) _)
   have HJ2 : Hid (J pre _ w2) := Lib.hid (by
    rw [hw2]
    exact HJ.out.1 _ _ _ _ _ HJS.out (grownBy_setCell' wr W.heap.size _) (fun r e => by cases e; exact ⟨.inl rfl, _, HBX.out, rfl⟩))
   have HK2 : Hid (KeepC B4 W w2) := Lib.hid (by rw [hw2]; exact HKC.out.grown (grownBy_setCell' wr W.heap.size _) (fun r e => by cases e; exact Nat.le_refl _))
   have hz4 : W.heap.size + 1 ≤ w2.heap.size := by rw [hw2]; simpa using hz3
   clear hw2 HBX HO HJS HKC
   gi_wp2_with fail
   refine ⟨trivial, fun e => by simp [Fence.wide] at e, ?_⟩
   refine (callsIn_wide.2 (without_any l P _ u1 u2 p1 (by omega) HV.out HOO.out)).mono ?_
   rintro e w3 ⟨rfl, rfl⟩
   cases o with
   | true =>
    have HST := Lib.hid (HSTF.out.trans (by rw [if_pos rfl]))
    have HNY : Hid (yieldF (s - 1) ls (k + 1) = yieldF (s - 1) ls k) := Lib.hid (by
     rw [HYF.out, if_neg ?_, List.append_nil]
     intro hcon
     have h7 := HOO.out
     unfold keptO at h7
     have h8 := HLI.out
     rcases idx_cases l with ⟨e1, e2, _⟩ | ⟨e1, e2, _⟩ <;> rw [e2] at h7 <;> simp at h7 <;> omega)
    gi_wp2_with (gi_at_builtin; refine wpListIn_append_own_at _ rfl _ _ 22 rfl (W.heap.size + 1) 2 i0 (.int .i64 0) 1 8 Try.underlying22 hi hz0 hz1 hz2 rfl (by decide) _ _ _ rfl (World.ownsRow.alloc HO2.out _) ⟨w3.heap.size, 0, none⟩ 1 1 [.int .i64 v'] rfl rfl (one_new w3 v' _) (one_cell _) (by unfold maxLen; omega) (by omega) (by simp; omega) ?_)
    intro v6 w4 hown' hgrow hat
    have HO3 := Lib.hid (OwnV.appended hown')
    have HBX3 : Hid (Boxed w4 W.heap.size 2 (.int .i64 (stepP P l))) := Lib.hid ((HBX2.out.alloc _).kept hgrow (fun e => by have := OwnV.block_ge HO2.out e.symm; omega))
    have HK3 : Hid (KeepC B4 W w4) := Lib.hid ((HK2.out.grown (World.grownBy_alloc w3 _ none) (fun _ e => by cases e)).grown hgrow (fun r e => by have := OwnV.block_ge HO2.out e; omega))
    have HJ3 : Hid (J pre (ownT W.heap.size v6) w4) := Lib.hid (ownT_grow HJ.out HJ2.out HO2.out hgrow (by simpa using hat))
    have hz5 : W.heap.size + 1 ≤ w4.heap.size := by have := hgrow.size; simp at this; omega
    clear hown' hgrow hat
    gi_wp2
    go_roundw
    case rel => exact ⟨k + 1, m + 1, pre, by omega, by omega, by go_num, by rw [HST.out]; exact HO3.out, by rw [HSTP.out]; exact HBX3.out, HJ3.out, HPRE.out.trans HNY.out.symm, HK3.out, hz5⟩
    case measure => simp [intOf]; omega
   | false =>
    have HST := Lib.hid (HSTF.out.trans (by rw [if_neg (by simp)]))
    have eN : IntKind.i64.wrap (-P) = -P := IntWalk.i64_in _ (by omega)
    have eP : IntKind.i64.wrap (P + 1) = P + 1 := IntWalk.i64_in _ (by omega)
    by_cases g1 : l = -P ∨ l = P + 1
    ·have HNY : Hid (yieldF (s - 1) ls (k + 1) = yieldF (s - 1) ls k ++ [(l, xs)]) := Lib.hid (by rw [HYF.out, if_pos g1])
     obtain ⟨a2, c2, rfl, ho2⟩ := HO2.out.form
     have hlen := HO2.out.len
     have hpl : pre.length < n := by
      have h7 := congrArg List.length HPRE.out
      rw [List.length_map] at h7
      have := HYL.out
      omega
     have hli := HLI.out
     obtain ⟨fn, tmps, assign, body, hy, hR⟩ := HY.out pre (ownT W.heap.size (.slice a2 m c2)) ⟨l, a2, m, c2, xs⟩ w3 HJ2.out hpl
      ⟨ho2.reads, (show m ≤ 1000 by omega), fun z hz => by have h9 := (lett_iff _ _).1 (HRL.out z hz); omega, (show -100 < l by omega), (show l < 100 by omega)⟩
      (fun r hr => by
       rcases hr with rfl | hr
       ·omega
       ·exact OwnV.block_lt HO2.out hr)
     have hy' : (Instr.yield L #[.int .i64 l, .slice a2 m c2]).run Try.prog w3 = .ok (.round L fn tmps assign body) w3 := hy
     clear hy ho2
     have HRR := Lib.hid hR; clear hR
     by_cases g2 : l = -P
     ·have t1 : (l == -P) = true := by simp [g2]
      have G2 := Lib.hid g2; clear g1 g2
      gi_wp2
      refine ⟨fun e => by simp [Fence.wide] at e, HRR.out.mono ?_⟩
      rintro e w4 (⟨rfl, hj4, hk4⟩ | ⟨rfl, hjx4⟩)
      ·have HO4 := Lib.hid (hk4.own HO2.out (by omega))
       have HBX4 := Lib.hid (hk4.boxed HBX2.out (by omega))
       gi_wp2
       go_roundw
       case rel => exact ⟨k + 1, m, pre ++ [⟨l, a2, m, c2, xs⟩], by omega, by omega, by go_num, by rw [HST.out, List.append_nil]; exact HO4.out, by rw [HSTP.out]; exact HBX4.out, hj4, by rw [List.map_append, HPRE.out, HNY.out]; rfl, HK2.out.trans hk4, Nat.le_trans hz4 hk4.1⟩
       case measure => simp [intOf]; omega
      ·gi_wp2
       refine bodyPost_ret (results_none rfl _ _ _) rfl ?_
       exact ⟨⟨_, rfl⟩, .inr ⟨pre ++ [⟨l, a2, m, c2, xs⟩], _, ⟨k + 1, by omega, by rw [List.map_append, HPRE.out, HNY.out]; rfl⟩, hjx4⟩⟩
     ·have t1 : (l == -P) = false := by simp [g2]
      have t2 : (l == P + 1) = true := by simp; omega
      have G2 := Lib.hid g2; clear g1 g2
      gi_wp2
      refine ⟨fun e => by simp [Fence.wide] at e, HRR.out.mono ?_⟩
      rintro e w4 (⟨rfl, hj4, hk4⟩ | ⟨rfl, hjx4⟩)
      ·have HO4 := Lib.hid (hk4.own HO2.out (by omega))
       have HBX4 := Lib.hid (hk4.boxed HBX2.out (by omega))
       gi_wp2
       go_roundw
       case rel => exact ⟨k + 1, m, pre ++ [⟨l, a2, m, c2, xs⟩], by omega, by omega, by go_num, by rw [HST.out, List.append_nil]; exact HO4.out, by rw [HSTP.out]; exact HBX4.out, hj4, by rw [List.map_append, HPRE.out, HNY.out]; rfl, HK2.out.trans hk4, Nat.le_trans hz4 hk4.1⟩
       case measure => simp [intOf]; omega
      ·gi_wp2
       refine bodyPost_ret (results_none rfl _ _ _) rfl ?_
       exact ⟨⟨_, rfl⟩, .inr ⟨pre ++ [⟨l, a2, m, c2, xs⟩], _, ⟨k + 1, by omega, by rw [List.map_append, HPRE.out, HNY.out]; rfl⟩, hjx4⟩⟩
    ·have HNY : Hid (yieldF (s - 1) ls (k + 1) = yieldF (s - 1) ls k) := Lib.hid (by rw [HYF.out, if_neg g1, List.append_nil])
     have t1 : (l == -P) = false := by simp; omega
     have t2 : (l == P + 1) = false := by simp; omega
     have G1 := Lib.hid g1; clear g1
     gi_wp2
     go_roundw
     case rel => exact ⟨k + 1, m, pre, by omega, by omega, by go_num, by rw [HST.out, List.append_nil]; exact HO2.out, by rw [HSTP.out]; exact HBX2.out, HJ2.out, HPRE.out.trans HNY.out.symm, HK2.out, hz4⟩
     case measure => simp [intOf]; omega
  ·obtain rfl : k = n := by omega
   gi_wp2
   go_end0
   rw [List.take_of_length_le (by rw [HL.out]; omega)] at ho
   exact ⟨⟨_, rfl⟩, .inl ⟨pre, _, hpre, hJs⟩⟩

end Go.Proofs.Ytehcbamfendbaaa

