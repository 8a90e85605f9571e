/- Laws for the walk: numbers are appended to a slice that is the call's own, beside another slice that stays. No function of the program is spoken of. Words of normal forms: plain functions and lemmas. No program is spoken of. Normal forms: small bounds; equal ones are found equal by the laws' own function. The word of a normal form: the model. The program's words: letters turned one by one, words backwards, words again and again. Words of normal forms: the model and the program. Words of normal forms: the program. The walk of the law of impl.WordOfNormal: the model's answer and the program's are compared, marks are written into what came back and looked for. -/
import Derived.Test.YtkedkleddpnanaaKit5
import Derived.Maps.AppendAt
import Derived.Test.YtkedkleddpnanaaNfP
import Derived.Test.YtkedkleddpnanaaBase7
import Derived.Test.YtkedkleddpnanaaSNorm
import Derived.Test.YtkedkleddpnanaaMapH
import Derived.Test.YtkedkleddpnanaaBase4
import Derived.Test.YtkedkleddpnanaaBase2
import Derived.Test.YtkedkleddpnanaaKit3
import Derived.Deep.RegionHeld3
import Derived.Test.YtkedkleddpnanaaMapG
import Derived.Test.YtkedkleddpnanaaBase8
import Derived.Test.YtkedkleddpnanaaBase5
namespace Go.Proofs.Ytkedkleddpnanaa
open Go.RowKit

/-- The slice at a lies in another block than the growing slice v. -/
def Sep (w : World) (v : Value) (a : Option Addr) : Prop := ∀ x, a = some x → x.block < w.heap.size ∧ v.ownBlock ≠ some x.block

theorem Sep.grown {w w' : World} {v v' : Value} {a : Option Addr} (h : Sep w v a) (hg : w.grownBy w' v.ownBlock) (hv : v'.ownBlock = v.ownBlock ∨ v'.ownBlock = some w.heap.size) : Sep w' v' a := by
  intro x hx
  obtain ⟨h1, h2⟩ := h x hx
  refine ⟨Nat.lt_of_lt_of_le h1 hg.size, fun e => ?_⟩
  rcases hv with hv | hv
  · exact h2 (hv ▸ e)
  · rw [hv] at e
    simp only [Option.some.injEq] at e
    omega

theorem Sep.below {w w' : World} {v : Value} {a : Option Addr} (h : Sep w v a) (hs : w.heap.size ≤ w'.heap.size) : Sep w' v a := fun x hx => ⟨Nat.lt_of_lt_of_le (h x hx).1 hs, (h x hx).2⟩

theorem Reads.sep {w w' : World} {v : Value} {a : Option Addr} {n : Nat} {xs : List Int} (h : Reads w a n xs) (k : Sep w v a) (hg : w.grownBy w' v.ownBlock) : Reads w' a n xs := by
  obtain ⟨h1, h | ⟨b, off, ha, hc⟩⟩ := h
  · exact ⟨h1, .inl h⟩
  · refine ⟨h1, .inr ⟨b, off, ha, fun j hj => ?_⟩⟩
    exact hg.cell (hc j hj) (fun e => (k _ ha).2 e.symm)

theorem wp_append_ints_at {P : Program} {w : World} {o : Oper} {a : Act} {K : Act → World → Prop} {Q : Exit → Act → World → Prop} (s x : Operand) (t : TypeId)
    (ho : o.op = .call { callee := .builtin .append, args := #[s, x], argTypes := #[t, t] })
    (base : Nat) (i : TypeInfo) (ht : P.underlying t = some (.slice 2)) (hi : P.info? 2 = some i) (hz : i.zero = some (.int .i64 0)) (hsize : i.size = 1) (hby : i.bytes = 8)
    (v : Value) (n : Nat) (xs : List Int) (hs : a.eval s = v) (hown : OwnV base w v n xs)
    (ao : Option Addr) (m c : Nat) (ys : List Int) (hx : a.eval x = .slice ao m c) (hr : Reads w ao m ys)
    (hlen : n + m ≤ 4294967296) (hbase : base ≤ w.heap.size)
    (h : ∀ v' w', OwnV base w' v' (n + m) (xs ++ ys) → w.grownBy w' v.ownBlock → (v'.ownBlock = v.ownBlock ∨ v'.ownBlock = some w.heap.size) → K (a.put o.dst v') w') : o.wp P a w K Q := by
  cases ao with
  | some ad =>
    have hl : (ints ys).length = m * 1 := by simp [ints, hr.len]
    obtain ⟨v', w', hrun, h2, h3, h4, h5⟩ := run_append_own_at (P := P) w base t o.type 2 i (.int .i64 0) 1 8 ht hi hz hsize hby rfl (by decide) v n (ints xs) hown ad m c (ints ys) hl hr.news (ints_cells ys) (by unfold maxLen; omega) (by omega) hbase
    unfold Oper.wp execOp
    simp only [ho, resolve, invoke, builtin, Sem.run_bind, Sem.run_pure, Result.andThen_ok, List.map_toArray, List.map_cons, List.map_nil, hs, hx, hrun]
    refine h v' w' ?_ h3 h5
    unfold OwnV ints at *
    rw [List.map_append]
    exact h2
  | none =>
    have hm : m = 0 := by
      rcases hr.2 with h0 | ⟨b, off, ha, _⟩
      · exact h0
      · cases ha
    subst hm
    have hy : ys = [] := List.eq_nil_of_length_eq_zero hr.len
    subst hy
    have hrun := run_append_none (P := P) (w := w) base t o.type 2 i 1 ht hi v n c (ints xs) hown
    unfold Oper.wp
    simp [execOp, ho, resolve, invoke, builtin, hs, hx, hrun, Result.andThen]
    exact h v w (by simpa using hown) (World.grownBy.refl _ _) (.inl rfl)

theorem wpList_append_ints_at {P : Program} {w : World} {ops : Array Oper} {rest : List Oper} {o : Oper} {a : Act} {Q : Exit → Act → World → Prop} (hgd : o.guard = none) (s x : Operand) (t : TypeId)
    (ho : o.op = .call { callee := .builtin .append, args := #[s, x], argTypes := #[t, t] })
    (base : Nat) (i : TypeInfo) (ht : P.underlying t = some (.slice 2)) (hi : P.info? 2 = some i) (hz : i.zero = some (.int .i64 0)) (hsize : i.size = 1) (hby : i.bytes = 8)
    (v : Value) (n : Nat) (xs : List Int) (hs : a.eval s = v) (hown : OwnV base w v n xs)
    (ao : Option Addr) (m c : Nat) (ys : List Int) (hx : a.eval x = .slice ao m c) (hr : Reads w ao m ys)
    (hlen : n + m ≤ 4294967296) (hbase : base ≤ w.heap.size)
    (h : ∀ v' w', OwnV base w' v' (n + m) (xs ++ ys) → w.grownBy w' v.ownBlock → (v'.ownBlock = v.ownBlock ∨ v'.ownBlock = some w.heap.size) → wpList P ops Q rest (a.put o.dst v') w') : wpList P ops Q (o :: rest) a w :=
  wpList_plain hgd fun _ hK => wp_append_ints_at s x t ho base i ht hi hz hsize hby v n xs hs hown ao m c ys hx hr hlen hbase fun v' w' h1 h2 h3 => hK _ _ (h v' w' h1 h2 h3)

theorem step_append_ints_at {P : Program} {w : World} {ops : Array Oper} {o : Oper} {a : Act} {K : Act → World → Prop} {Q : Exit → Act → World → Prop} {E : Prop} (hgd : o.guard = none) (s x : Operand) (t : TypeId)
    (ho : o.op = .call { callee := .builtin .append, args := #[s, x], argTypes := #[t, t] })
    (base : Nat) (i : TypeInfo) (ht : P.underlying t = some (.slice 2)) (hi : P.info? 2 = some i) (hz : i.zero = some (.int .i64 0)) (hsize : i.size = 1) (hby : i.bytes = 8)
    (v : Value) (n : Nat) (xs : List Int) (hs : a.eval s = v) (hown : OwnV base w v n xs)
    (ao : Option Addr) (m c : Nat) (ys : List Int) (hx : a.eval x = .slice ao m c) (hr : Reads w ao m ys)
    (hlen : n + m ≤ 4294967296) (hbase : base ≤ w.heap.size)
    (h : ∀ v' w', OwnV base w' v' (n + m) (xs ++ ys) → w.grownBy w' v.ownBlock → (v'.ownBlock = v.ownBlock ∨ v'.ownBlock = some w.heap.size) → K (a.put o.dst v') w') :
    if Region.wanted o (yielded ops a.tmps) = true then Oper.wp P o a w K Q else E := by
  have hw : Region.wanted o (yielded ops a.tmps) = true := by simp [Region.wanted, hgd]
  rw [if_pos hw]
  exact wp_append_ints_at s x t ho base i ht hi hz hsize hby v n xs hs hown ao m c ys hx hr hlen hbase h

/-- One number's own slice. -/
theorem reads_one (w : World) (x : Int) (t : TypeId) : Reads (w.alloc (.cells #[.int .i64 x] t)) (some ⟨w.heap.size, 0, none⟩) 1 [x] := by
  refine ⟨rfl, .inr ⟨w.heap.size, 0, rfl, fun j hj => ?_⟩⟩
  have : j = 0 := by omega
  subst this
  simp

theorem below_own {B C : Nat} {w wr w1 : World} {v : Value} {n : Nat} {xs : List Int} (hbl : Below B w wr) (hs : B ≤ wr.heap.size) (hc : B ≤ C) (ho : OwnV C wr v n xs) (hg : wr.grownBy w1 v.ownBlock) : Below B w w1 :=
  hbl.grown hg hs (fun k hk => Nat.le_trans hc (World.ownsRow.lt ho k hk).1)

end Go.Proofs.Ytkedkleddpnanaa

namespace Go.Proofs.Ytkedkleddpnanaa

theorem takeF_len (n f : Nat) (v : List Int) (vs : List (List Int)) (hs : ∀ u ∈ v :: vs, Sim n u) : (takeF n f (v :: vs)).length ≤ far v := by
  induction f generalizing v vs with
  | zero => simp [takeF]
  | succ f ih =>
    unfold takeF
    cases hc : common (v :: vs) (n - 1) 0 with
    | none => simp
    | some k =>
      obtain ⟨_, h2, h3, _⟩ := common_some hc
      have hv := hs v (by simp)
      have hd : at8 v (k + 1) < at8 v k := by
        have := h3
        simp [allBeg] at this
        exact this.1
      have hl := far_less hv (show k + 1 < n by omega) hd
      have := ih (thenR n (exR n k) v) (strip n k vs) (fun u hu => by
        rcases List.mem_cons.1 hu with rfl | hu
        · exact thenR_sim (exR_sim n k hv.hi (by omega)) hv
        · obtain ⟨x, hx, rfl⟩ := List.mem_map.1 hu
          exact thenR_sim (exR_sim n k hv.hi (by omega)) (hs x (by simp [hx])))
      have h4 : (takeF n f (strip n k (v :: vs))).length ≤ far (thenR n (exR n k) v) := this
      simp only [List.length_cons]
      omega

theorem word_len {n : Nat} {v : List Int} (h : Sim n v) : (takeR n [v]).length ≤ 196 := by
  have h1 := takeF_len n 200 v [] (fun u hu => by rw [List.mem_singleton.1 hu]; exact h)
  have h2 := far_le h
  unfold takeR
  omega

theorem takeF_letters (n f : Nat) (vs : List (List Int)) : ∀ x ∈ takeF n f vs, 1 ≤ x ∧ x ≤ (n : Int) := by
  induction f generalizing vs with
  | zero => intro x hx; simp [takeF] at hx
  | succ f ih =>
    unfold takeF
    cases hc : common vs (n - 1) 0 with
    | none => intro x hx; simp at hx
    | some k =>
      obtain ⟨_, h2, _, _⟩ := common_some hc
      intro x hx
      rcases List.mem_cons.1 hx with rfl | hx
      · omega
      · exact ih _ x hx

theorem word_small {n : Nat} (h8 : n ≤ 8) (vs : List (List Int)) : Small (takeR n vs) := by
  intro x hx
  have := takeF_letters n 200 vs x hx
  omega

/-- The words of the first k rows. -/
def wordsR (n : Nat) (rs : List (List Int)) (k : Nat) : List Int := ((rs.take k).map fun r => takeR n [r]).flatten

theorem wordsR_zero (n : Nat) (rs : List (List Int)) : wordsR n rs 0 = [] := rfl

theorem wordsR_succ (n : Nat) (rs : List (List Int)) (k : Nat) (h : k < rs.length) : wordsR n rs (k + 1) = wordsR n rs k ++ takeR n [rowAt rs k] := by
  unfold wordsR rowAt
  rw [List.take_succ_eq_append_getElem h, List.map_append, List.flatten_append]
  simp [List.getD, h]

theorem wordsR_len {n : Nat} {rs : List (List Int)} (k : Nat) (hk : k ≤ rs.length) (hs : ∀ j, j < rs.length → Sim n (rowAt rs j)) : (wordsR n rs k).length ≤ 196 * k := by
  induction k with
  | zero => simp [wordsR]
  | succ k ih =>
    rw [wordsR_succ n rs k (by omega), List.length_append]
    have := ih (by omega)
    have := word_len (hs k (by omega))
    omega

/-- The letters again and again. -/
def repW (k : Nat) (xs : List Int) : List Int := (List.replicate k xs).flatten

theorem repW_succ (k : Nat) (xs : List Int) : repW (k + 1) xs = repW k xs ++ xs := by
  simp [repW, List.replicate_succ', List.flatten_append]

theorem repW_len (k : Nat) (xs : List Int) : (repW k xs).length = k * xs.length := by
  induction k with
  | zero => simp [repW]
  | succ k ih => rw [repW_succ, List.length_append, ih, Nat.succ_mul]

theorem repW_small {k m : Nat} {xs : List Int} (h1 : k ≤ 200) (h2 : xs.length ≤ 196) (h3 : m ≤ k) : (repW m xs).length ≤ 39200 := by
  rw [repW_len]
  have := Nat.mul_le_mul (Nat.le_trans h3 h1) h2
  omega

/-- The word of the half turns. -/
def headW (n : Nat) (p : Int) : List Int := if 0 ≤ p then repW p.toNat (takeR n [halfR n]) else repW (-p).toNat (inverse (takeR n [halfR n]))

/-- The word. -/
def wordN (n : Nat) (p : Int) (rs : List (List Int)) : List Int := headW n p ++ wordsR n rs rs.length

/-- What WordOfNormal gives. -/
def mNWord (s p : Int) (rs : List (List Int)) : List Int × Int :=
  if normB s p rs = true then if (wordN s.toNat p rs).length ≤ 200 then (wordN s.toNat p rs, 0) else ([], 3) else ([], 1)

theorem norm_sims {n : Nat} {p : Int} {rs : List (List Int)} (h8 : Rows8 rs) (h : normB n p rs = true) : ∀ j, j < rs.length → Sim n (rowAt rs j) := by
  intro j hj
  have := ((normB_iff _ _ _).1 h).2.2.2.2 j hj
  rw [Int.toNat_natCast] at this
  exact okFac_sim h8 hj this

theorem headW_len (n : Nat) (p : Int) (h1 : 1 ≤ n) (h8 : n ≤ 8) (hp : -200 ≤ p ∧ p ≤ 200) : (headW n p).length ≤ 39200 := by
  have hw := word_len (halfR_sim n h1 h8)
  unfold headW
  split
  · exact repW_small (k := 200) (by omega) hw (by omega)
  · exact repW_small (k := 200) (by omega) (by rw [inverse_length]; exact hw) (by omega)

end Go.Proofs.Ytkedkleddpnanaa

namespace Go.Proofs.Ytkedkleddpnanaa
open Go.RowKit Go.ChangeShapes

theorem norm_small {s p : Int} {rs : List (List Int)} (h : normB s p rs = true) : -200 ≤ p ∧ p ≤ 200 ∧ rs.length ≤ 200 := by
  have := (normB_iff s p rs).1 h
  exact ⟨this.2.1.1, this.2.1.2, this.2.2.1⟩

theorem eqNormal_yesn (s p : Int) (a b : Option Addr) (n m ca cb : Nat) (rs : List (List Int)) (w : World) (ha : ReadsA w a n rs) (hb : ReadsA w b m rs) (hn : n ≤ 1048576) :
    Calls Try.prog 27 #[.agg #[.int .i64 s, .int .i64 p, .slice a n ca], .agg #[.int .i64 s, .int .i64 p, .slice b m cb]] w fun e w' => e = .returned (.bool true) ∧ Below w.heap.size w w' := by
  obtain rfl := ha.same hb
  exact eqNormal_yes s p a b n ca cb rs w ha hb hn

end Go.Proofs.Ytkedkleddpnanaa

namespace Go.Proofs.Ytkedkleddpnanaa
open Go.RowKit Go.ChangeShapes

theorem OwnV.low2 {B B' : Nat} {w : World} {v : Value} {n : Nat} {xs : List Int} (h : OwnV B w v n xs) (hB : B' ≤ B) : OwnV B' w v n xs := by
  obtain ⟨a, cap, rfl, ho⟩ := h.form
  exact ho.mono hB

/-- Where the model's loops have come to. -/
structure AtWord (w wr : World) (m : Nat) (p : Int) (a : Option Addr) (n cap : Nat) (ha : Option Addr) (hm : Nat) (half : List Int) (v : Value) (xs : List Int) : Prop where
  box : At3 wr w.heap.size (.int .i64 m) (.int .i64 p) (.slice a n cap)
  bel : Below w.heap.size w wr
  own : OwnV (w.heap.size + 1) wr v xs.length xs
  half : Reads wr ha hm half
  sep : Sep wr v ha

theorem AtWord.below {w wr W : World} {m : Nat} {p : Int} {a : Option Addr} {n cap : Nat} {ha : Option Addr} {hm : Nat} {half : List Int} {v : Value} {xs : List Int} (h : AtWord w wr m p a n cap ha hm half v xs) (hb : Below wr.heap.size wr W) : AtWord w W m p a n cap ha hm half v xs :=
  ⟨h.box.below hb, below_go h.bel hb h.bel.size, OwnV.drawn h.own hb, h.half.below hb, h.sep.below hb.size⟩

theorem AtWord.size {w wr : World} {m : Nat} {p : Int} {a : Option Addr} {n cap : Nat} {ha : Option Addr} {hm : Nat} {half : List Int} {v : Value} {xs : List Int} (h : AtWord w wr m p a n cap ha hm half v xs) : w.heap.size + 1 ≤ wr.heap.size := h.box.1

theorem AtWord.grown {w wr W : World} {m : Nat} {p : Int} {a : Option Addr} {n cap : Nat} {ha : Option Addr} {hm : Nat} {half : List Int} {v v' : Value} {xs ys : List Int} (h : AtWord w wr m p a n cap ha hm half v xs)
    (ho : OwnV (w.heap.size + 1) W v' (xs.length + ys.length) (xs ++ ys)) (hg : wr.grownBy W v.ownBlock) (hv : v'.ownBlock = v.ownBlock ∨ v'.ownBlock = some wr.heap.size) : AtWord w W m p a n cap ha hm half v' (xs ++ ys) :=
  ⟨h.box.heap hg.size (hg.block _ h.box.1 fun e => by have := (World.ownsRow.lt h.own _ e.symm).1; omega), below_own h.bel h.bel.size (Nat.le_succ _) h.own hg, by rw [List.length_append]; exact ho, h.half.sep h.sep hg, h.sep.grown hg hv⟩

set_option maxRecDepth 100000 in
set_option maxHeartbeats 2000000 in
theorem l03Word_any (m : Nat) (p : Int) (a : Option Addr) (n cap : Nat) (rs : List (List Int)) (w : World) (hr : ReadsA w a n rs) (hB : normB m p rs = true) :
    Calls Try.prog 91 #[.agg #[.int .i64 m, .int .i64 p, .slice a n cap]] w (fun e w' => ∃ a1 n1 c1, e = .returned (.slice a1 n1 c1) ∧ n1 ≤ 1048576 ∧ Own w.heap.size w' a1 n1 c1 (wordN m p rs) ∧ Below w.heap.size w w') := by
  obtain ⟨i0, hi, hz0, hz1, hz2⟩ := info_parts infoInt
  have HL := Lib.hid hr.len
  have H8 := Lib.hid hr.rows
  have HS := Lib.hid (norm_sims H8.out hB)
  obtain ⟨p1, p2, n2⟩ := norm_small hB
  rw [HL.out] at n2
  have m1 : 1 ≤ m := by have := ((normB_iff _ _ _).1 hB).1.1; omega
  have m8 : m ≤ 8 := by have := ((normB_iff _ _ _).1 hB).1.2; omega
  have R := Lib.hid hr
  clear hr hB
  obtain ⟨half, hhalf⟩ : ∃ half, half = takeR m [halfR m] := ⟨_, rfl⟩
  have HH := Lib.hid hhalf
  have HHL : Hid (half.length ≤ 196) := Lib.hid (by rw [hhalf]; exact word_len (halfR_sim m m1 m8))
  clear hhalf
  go_enter Try.func91, Try.ntmps91
  have A := Lib.hid (At3.place w (.int .i64 m) (.int .i64 p) (.slice a n cap) 38 w.heap.size rfl)
  have B := Lib.hid (below1 w (.cells #[.int .i64 m, .int .i64 p, .slice a n cap] 38))
  go_upto_region 1 with fail
  obtain ⟨W, hW⟩ : ∃ W, W = w.alloc (.cells #[.int .i64 m, .int .i64 p, .slice a n cap] 38) := ⟨_, rfl⟩
  have aa := A.out
  have bb := B.out
  rw [← hW] at aa bb ⊢
  clear A B
  have hs1 : w.heap.size + 1 ≤ W.heap.size := by rw [hW]; simp
  clear hW
  have A := Lib.hid aa
  have B := Lib.hid bb
  clear aa bb
  go_cut [3, 4] from 9 to 15 (fun s3 s4 wx => ∃ ha hm hc, s3 = .slice ha hm hc ∧ hm = half.length ∧ AtWord w wx m p a n cap ha hm half s4 [])
  case first =>
    have A0 := Lib.hid A.out.drew
    have hb0 : Below W.heap.size W W.drew := (Below.refl _ _).drew
    have A1 := Lib.hid (A.out.alloc (.cells #[] 2)).drew
    have hb1 : Below W.heap.size W (W.alloc (.cells #[] 2)).drew := ((Below.refl _ _).alloc (Nat.le_refl _) _).drew
    go_region_held3 (fun w' => w'.cell? ⟨w.heap.size, 0, none⟩ = some (.int .i64 m) ∧ w'.cell? ⟨w.heap.size, 1, none⟩ = some (.int .i64 p) ∧ w'.cell? ⟨w.heap.size, 2, none⟩ = some (.slice a n cap)) (first | with_reducible exact A0.out.cells | with_reducible exact A1.out.cells | with_reducible exact AK.out.cells | with_reducible exact (AK.out.alloc _).cells)
      (first
        | (go_at_call 107; refine (l02Half_any m m8 _).mono ?_; rintro e w3 ⟨rfl, gg⟩; (first | with_reducible have AK := Lib.hid (A0.out.below gg) | with_reducible have AK := Lib.hid (A1.out.below gg)))
        | (go_at_call 59; refine (l02Word_any m (halfR m) (halfR_sim m m1 m8) _).mono ?_; rintro e w4 ⟨ah, mh, ch, rfl, hl, ho, gh⟩; (first | with_reducible replace AK := Lib.hid (AK.out.below gh) | with_reducible replace AK := Lib.hid ((AK.out.alloc _).below gh))))
    · have zl := hl
      have hlen := ho.len
      go_wp2_with fail
      go_meet
      exact ⟨ah, mh, ch, rfl, by rw [HH.out]; exact hlen.symm, ⟨AK.out.alloc _, (below_go (below_go B.out.drew gg B.out.size) gh (Nat.le_trans B.out.size gg.size)).alloc (Nat.le_trans B.out.size (Nat.le_trans gg.size gh.size)) _, OwnV.low2 (OwnV.empty w4) (Nat.le_trans hs1 (Nat.le_trans gg.size gh.size)), by rw [HH.out]; exact ho.reads.alloc _, fun x hx => ⟨Nat.lt_of_lt_of_le (ho.lo x hx).2 (by simp), fun e => by have h1 := (ho.lo x hx).2; simp [Value.ownBlock] at e; omega⟩⟩⟩
    · have zl := hl
      have hlen := ho.len
      go_wp2_with fail
      go_meet
      have h3 : W.heap.size ≤ w3.heap.size := gg.size
      exact ⟨ah, mh, ch, rfl, by rw [HH.out]; exact hlen.symm, ⟨AK.out, below_go ((below_go B.out.drew gg B.out.size).alloc (Nat.le_trans B.out.size h3) _) gh (by simp; have := B.out.size; omega), OwnV.low2 (OwnV.drawn (OwnV.empty w3) gh) (Nat.le_trans hs1 h3), by rw [HH.out]; exact ho.reads, fun x hx => ⟨(ho.lo x hx).2, fun e => by have h1 := (ho.lo x hx).1; simp [Value.ownBlock] at e h1; omega⟩⟩⟩
    · have zl := hl
      have hlen := ho.len
      go_wp2_with fail
      go_meet
      have h3 : W.heap.size < w3.heap.size := by have := gg.size; simp at this; omega
      exact ⟨ah, mh, ch, rfl, by rw [HH.out]; exact hlen.symm, ⟨AK.out, below_go (below_go (B.out.alloc B.out.size _).drew gg (by simp; have := B.out.size; omega)) gh (by have := B.out.size; omega), OwnV.low2 (OwnV.drawn (OwnV.drawn (OwnV.drew (OwnV.empty W)) gg) gh) hs1, by rw [HH.out]; exact ho.reads, fun x hx => ⟨(ho.lo x hx).2, fun e => by have h1 := (ho.lo x hx).1; simp [Value.ownBlock] at e; omega⟩⟩⟩
  case rest =>
    obtain ⟨ha, hm, hc, rfl, rfl, hF⟩ := hcut
    clear A B
    have F := Lib.hid hF
    clear hF
    have HHS : Hid (∀ x ∈ half, 1 ≤ x ∧ x ≤ 8) := Lib.hid (by rw [HH.out]; intro x hx; have := takeF_letters m 200 _ x hx; omega)
    have hhl := HHL.out
    go_wp2
    go_loopg [4, 5] p.toNat (fun g v i wx => ∃ k : Nat, k ≤ p.toNat ∧ g + k = p.toNat ∧ i = .int .i64 k ∧ AtWord w wx m p a n cap ha half.length half v (repW k half))
    case atStart => exact ⟨0, Nat.zero_le _, rfl, rfl, F.out⟩
    case round =>
      obtain ⟨k, hk, hgk, rfl, hF⟩ := hrel
      clear F
      have F := Lib.hid hF
      clear hF
      obtain ⟨q1, q2, q3⟩ := F.out.box.cells
      have zb := F.out.box.1
      have HRL : Hid ((repW k half).length ≤ 39200) := Lib.hid (repW_small (k := 200) (by omega) HHL.out (by omega))
      by_cases hlt : (k : Int) < p
      · have hrl := HRL.out
        go_wp2_with (at_builtin; refine wpList_append_ints_at rfl _ _ 23 rfl (w.heap.size + 1) i0 Try.underlying23 hi hz0 hz1 hz2 _ _ _ rfl F.out.own _ _ _ half rfl F.out.half (by omega) (by omega) ?_)
        intro v' w2 ho' hg hv
        have F2 := Lib.hid (F.out.grown ho' hg hv)
        clear ho' hg hv q1 q2 q3
        go_wp2
        go_roundg (gk - 1)
        case measure => omega
        case rel => exact ⟨k + 1, by omega, by omega, by go_num, by rw [repW_succ]; exact F2.out⟩
      · have hkp : k = p.toNat := by omega
        subst hkp
        have HZ : Hid ((repW p.toNat half).length ≤ 39200) := HRL
        have hneg : p < 0 → p.toNat = 0 := by omega
        clear HRL hgk hk
        go_wp2
        clear q1 q2 q3 zb
        go_loopg [4, 6] (-p).toNat (fun g v i wx => ∃ k : Nat, k ≤ (-p).toNat ∧ g + k = (-p).toNat ∧ i = .int .i64 (p + k) ∧ AtWord w wx m p a n cap ha half.length half v (repW p.toNat half ++ repW k (inverse half)))
        case atStart => exact ⟨0, Nat.zero_le _, rfl, by go_num, by simpa [repW] using F.out⟩
        case round =>
          obtain ⟨k, hk, hgk, rfl, hF⟩ := hrel
          clear F
          have F := Lib.hid hF
          clear hF
          obtain ⟨q1, q2, q3⟩ := F.out.box.cells
          have zb := F.out.box.1
          have HRL : Hid ((repW k (inverse half)).length ≤ 39200) := Lib.hid (repW_small (k := 200) (by omega) (by rw [inverse_length]; exact HHL.out) (by omega))
          by_cases hlt2 : p + k < 0
          · obtain ⟨go, hgo⟩ : ∃ go, go = gk := ⟨_, rfl⟩
            go_wp2
            go_loopg [4, 7] half.length (fun g v i wx => ∃ j : Nat, j ≤ half.length ∧ g + j = half.length ∧ i = .int .i64 ((half.length : Int) - 1 - j) ∧ AtWord w wx m p a n cap ha half.length half v (repW p.toNat half ++ repW k (inverse half) ++ (inverse half).take j))
            case atStart => exact ⟨0, Nat.zero_le _, rfl, by go_num, by simpa using F.out⟩
            case round =>
              obtain ⟨j, hj, hgj, rfl, hF⟩ := hrel
              clear F
              have F := Lib.hid hF
              clear hF q1 q2 q3
              have HTL : Hid (((inverse half).take j).length ≤ 196) := Lib.hid (by have := HHL.out; rw [List.length_take]; omega)
              by_cases hlt3 : j < half.length
              · have hrl := HRL.out
                have hzl := HZ.out
                have htl := HTL.out
                have zb := F.out.box.1
                obtain ⟨X, hX⟩ : ∃ X, X = repW p.toNat half ++ repW k (inverse half) ++ (inverse half).take j := ⟨_, rfl⟩
                have hxl : X.length ≤ 80000 := by rw [hX]; simp only [List.length_append]; omega
                have f0 := F.out
                rw [← hX] at f0
                have HXX := Lib.hid hX
                clear hX F
                have F := Lib.hid f0
                clear f0
                obtain ⟨b, off, rfl, -, hcs⟩ := F.out.half.cells (by omega)
                obtain ⟨x, hx⟩ : ∃ x, x = half.getD (half.length - 1 - j) 0 := ⟨_, rfl⟩
                have hm := HHS.out _ (getD_mem half (half.length - 1 - j) (by omega))
                have h1 := hcs (half.length - 1 - j) (by omega)
                rw [← hx] at hm h1
                have HX := Lib.hid hx
                clear hx hcs
                obtain ⟨hm1, hm2⟩ := hm
                have hlo := HHL.out
                go_wp2_with (at_builtin; refine wpList_append_ints_at rfl _ _ 23 rfl (w.heap.size + 1) i0 Try.underlying23 hi hz0 hz1 hz2 _ _ _ rfl (F.out.below ((Below.refl _ _).alloc (Nat.le_refl _) _)).own _ _ _ [-x] rfl (reads_one _ _ _) (by omega) (by simp; omega) ?_)
                intro v' w2 ho' hg hv
                have F2 := Lib.hid ((F.out.below ((Below.refl _ _).alloc (Nat.le_refl _) _)).grown ho' hg (by simpa using hv))
                clear ho' hg hv
                go_wp2
                go_roundg (gk - 1)
                case measure => omega
                case rel =>
                  refine ⟨j + 1, by omega, by omega, by go_num, ?_⟩
                  rw [inverse_step half j hlt3, ← HX.out, ← List.append_assoc, ← HXX.out]
                  exact F2.out
              · have hje : j = half.length := by omega
                subst hje
                go_wp2
                go_roundg (go - 1)
                case measure => omega
                case rel =>
                  refine ⟨k + 1, by omega, by omega, by go_num, ?_⟩
                  rw [repW_succ, ← List.append_assoc]
                  have h9 := F.out
                  rw [List.take_of_length_le (show (inverse half).length ≤ half.length by rw [inverse_length]; exact Nat.le_refl _)] at h9
                  exact h9
          · have hkp : k = (-p).toNat := by omega
            subst hkp
            have HN : Hid ((repW (-p).toNat (inverse half)).length ≤ 39200) := HRL
            have HHD : Hid (repW p.toNat half ++ repW (-p).toNat (inverse half) = headW m p) := Lib.hid (by
              unfold headW
              rw [← HH.out]
              split
              · rw [show (-p).toNat = 0 by omega]; simp [repW]
              · rw [show p.toNat = 0 by omega]; simp [repW])
            clear HRL hgk hk
            go_wp2
            clear q1 q2 q3 zb
            go_loopg [4, 8] n (fun g v i wx => ∃ k : Nat, k ≤ n ∧ g + k = n ∧ i = .int .i64 k ∧ AtWord w wx m p a n cap ha half.length half v (repW p.toNat half ++ repW (-p).toNat (inverse half) ++ wordsR m rs k))
            case atStart => exact ⟨0, Nat.zero_le _, rfl, by go_num, by simpa [wordsR_zero] using F.out⟩
            case round =>
              obtain ⟨k, hk, hgk, rfl, hF⟩ := hrel
              clear F
              have F := Lib.hid hF
              clear hF
              obtain ⟨q1, q2, q3⟩ := F.out.box.cells
              have zb := F.out.box.1
              by_cases hlt4 : k < n
              · obtain ⟨b, off, rfl, hbl, hcl⟩ := R.out.cells (Nat.lt_of_le_of_lt (Nat.zero_le _) hlt4)
                obtain ⟨row, hrow⟩ : ∃ row, row = rowAt rs k := ⟨_, rfl⟩
                have HROW := Lib.hid hrow
                have SR : Hid (Sim m row) := Lib.hid (by rw [hrow]; exact HS.out k (by rw [HL.out]; exact hlt4))
                have HCP : Hid (∀ W, Below w.heap.size w W → Cells8 W b (off + k * 8) row) := Lib.hid fun W h => by rw [HROW.out]; exact fun i hi => (h.cell (by exact hbl)).trans (hcl k hlt4 i hi)
                clear hbl hcl hrow
                have hzl := HZ.out
                have hnl := HN.out
                have hwl := wordsR_len k (Nat.le_of_lt (by rw [HL.out]; exact hlt4)) HS.out
                go_wp2_with fail
                replace F := Lib.hid (F.out.below (Below.refl _ _).drew)
                clear q1 q2 q3
                refine wp_region_held_drew (S := (fun w' => (w'.cell? ⟨w.heap.size, 0, none⟩ = some (.int .i64 m) ∧ w'.cell? ⟨w.heap.size, 1, none⟩ = some (.int .i64 p) ∧ w'.cell? ⟨w.heap.size, 2, none⟩ = some (.slice (some ⟨b, off, none⟩) n cap)) ∧ (w'.cell? ⟨b, off + k * 8, none⟩ = some (.int .u8 (at8 row 0)) ∧ w'.cell? ⟨b, off + k * 8 + 1, none⟩ = some (.int .u8 (at8 row 1)) ∧ w'.cell? ⟨b, off + k * 8 + 2, none⟩ = some (.int .u8 (at8 row 2)) ∧ w'.cell? ⟨b, off + k * 8 + 3, none⟩ = some (.int .u8 (at8 row 3)) ∧ w'.cell? ⟨b, off + k * 8 + 4, none⟩ = some (.int .u8 (at8 row 4)) ∧ w'.cell? ⟨b, off + k * 8 + 5, none⟩ = some (.int .u8 (at8 row 5)) ∧ w'.cell? ⟨b, off + k * 8 + 6, none⟩ = some (.int .u8 (at8 row 6)) ∧ w'.cell? ⟨b, off + k * 8 + 7, none⟩ = some (.int .u8 (at8 row 7))))) (by kernel_rfl) ?_ (fun hHeld => ?_)
                · with_reducible exact ⟨F.out.box.cells, (HCP.out _ F.out.bel).flat⟩
                refine wpAnyH_take (i := 0) (oi := { dst := some 53, op := Op.move (Operand.tmp 4), type := 23, pos := "l03_normal.go:220", after := #[], guard := none }) (v := ?_) rfl (by kernel_rfl) (by kernel_rfl) (by kernel_rfl) (fun _ _ _ h => h) (Or.inl ⟨by rfl, ?_⟩) (by assumption) ?_
                rotate_left
                · intro w hSw
                  (try dsimp only at hSw)
                  go_simp
                  try with_reducible rfl
                try simp only [Act.put, List.setIfInBounds_toArray, List.set_cons_zero, List.set_cons_succ]
                refine wpAnyH_take (i := 1) (oi := { dst := some 54, op := Op.fieldAddr 38 (Operand.tmp 1) 0, type := 0, pos := "l03_normal.go:220", after := #[], guard := none }) (v := ?_) rfl (by kernel_rfl) (by kernel_rfl) (by kernel_rfl) (fun _ _ _ h => h) (Or.inl ⟨by rfl, ?_⟩) (by assumption) ?_
                rotate_left
                · intro w hSw
                  (try dsimp only at hSw)
                  go_simp
                  try with_reducible rfl
                try simp only [Act.put, List.setIfInBounds_toArray, List.set_cons_zero, List.set_cons_succ]
                refine wpAnyH_take (i := 2) (oi := { dst := some 55, op := Op.load 2 (Operand.tmp 54), type := 2, pos := "l03_normal.go:220", after := #[{ on := 1, ground := Ground.data }], guard := none }) (v := ?_) rfl (by kernel_rfl) (by kernel_rfl) (by kernel_rfl) (fun _ _ _ h => h) (Or.inl ⟨by rfl, ?_⟩) (by assumption) ?_
                rotate_left
                · intro w hSw
                  (try dsimp only at hSw)
                  go_simp
                  try with_reducible rfl
                try simp only [Act.put, List.setIfInBounds_toArray, List.set_cons_zero, List.set_cons_succ]
                refine wpAnyH_take (i := 3) (oi := { dst := some 56, op := Op.fieldAddr 38 (Operand.tmp 1) 2, type := 0, pos := "l03_normal.go:220", after := #[], guard := none }) (v := ?_) rfl (by kernel_rfl) (by kernel_rfl) (by kernel_rfl) (fun _ _ _ h => h) (Or.inl ⟨by rfl, ?_⟩) (by assumption) ?_
                rotate_left
                · intro w hSw
                  (try dsimp only at hSw)
                  go_simp
                  try with_reducible rfl
                try simp only [Act.put, List.setIfInBounds_toArray, List.set_cons_zero, List.set_cons_succ]
                refine wpAnyH_take (i := 4) (oi := { dst := some 57, op := Op.load 36 (Operand.tmp 56), type := 36, pos := "l03_normal.go:220", after := #[{ on := 3, ground := Ground.data }], guard := none }) (v := ?_) rfl (by kernel_rfl) (by kernel_rfl) (by kernel_rfl) (fun _ _ _ h => h) (Or.inl ⟨by rfl, ?_⟩) (by assumption) ?_
                rotate_left
                · intro w hSw
                  (try dsimp only at hSw)
                  go_simp
                  try with_reducible rfl
                try simp only [Act.put, List.setIfInBounds_toArray, List.set_cons_zero, List.set_cons_succ]
                refine wpAnyH_take (i := 5) (oi := { dst := some 58, op := Op.move (Operand.tmp 8), type := 3, pos := "l03_normal.go:220", after := #[], guard := none }) (v := ?_) rfl (by kernel_rfl) (by kernel_rfl) (by kernel_rfl) (fun _ _ _ h => h) (Or.inl ⟨by rfl, ?_⟩) (by assumption) ?_
                rotate_left
                · intro w hSw
                  (try dsimp only at hSw)
                  go_simp
                  try with_reducible rfl
                try simp only [Act.put, List.setIfInBounds_toArray, List.set_cons_zero, List.set_cons_succ]
                refine wpAnyH_take (i := 6) (oi := { dst := some 59, op := Op.indexAddr 36 (Operand.tmp 57) (Operand.tmp 58), type := 0, pos := "l03_normal.go:220", after := #[{ on := 4, ground := Ground.data }, { on := 5, ground := Ground.data }], guard := none }) (v := ?_) rfl (by kernel_rfl) (by kernel_rfl) (by kernel_rfl) (fun _ _ _ h => h) (Or.inl ⟨by rfl, ?_⟩) (by assumption) ?_
                rotate_left
                · intro w hSw
                  (try dsimp only at hSw)
                  go_simp
                  try with_reducible rfl
                try simp only [Act.put, List.setIfInBounds_toArray, List.set_cons_zero, List.set_cons_succ]
                refine wpAnyH_take (i := 7) (oi := { dst := some 60, op := Op.load 26 (Operand.tmp 59), type := 26, pos := "l03_normal.go:220", after := #[{ on := 6, ground := Ground.data }], guard := none }) (v := ?_) rfl (by kernel_rfl) (by kernel_rfl) (by kernel_rfl) (fun _ _ _ h => h) (Or.inl ⟨by rfl, ?_⟩) (by assumption) ?_
                rotate_left
                · intro w hSw
                  (try dsimp only at hSw)
                  go_simp
                  try with_reducible rfl
                try simp only [Act.put, List.setIfInBounds_toArray, List.set_cons_zero, List.set_cons_succ]
                refine wpAnyH_ready (rs := [8]) (by kernel_rfl) (by simp) ?_
                refine AllReadyH.cons (o := { dst := some 61, op := Op.call { callee := Callee.value (Operand.func 59), args := #[Operand.tmp 55, Operand.tmp 60], argTypes := #[2, 26] }, type := 23, pos := "l03_normal.go:220", after := #[{ on := 2, ground := Ground.data }, { on := 7, ground := Ground.data }], guard := none }) rfl (fun K hK => ?_) AllReadyH.nil
                go_simp
                (refine (l02Word_any m row SR.out _).mono ?_; rintro e w3 ⟨a1, mm, c1, rfl, hl, ho, gg⟩; replace F := Lib.hid (F.out.below gg); have HO := Lib.hid ho; obtain rfl : mm = (takeR m [row]).length := ho.len.symm; clear ho gg)
                go_wp2_with fail
                refine hK.out _ _ ?_ (fun hHeld => ?_)
                · with_reducible exact ⟨F.out.box.cells, (HCP.out _ F.out.bel).flat⟩
                clear hK K
                try simp only [Act.put, List.setIfInBounds_toArray, List.set_cons_zero, List.set_cons_succ]
                refine wpAnyH_ready (rs := [9]) (by kernel_rfl) (by simp) ?_
                refine AllReadyH.cons (o := { dst := some 62, op := Op.call { callee := Callee.builtin Builtin.append, args := #[Operand.tmp 53, Operand.tmp 61], argTypes := #[23, 23] }, type := 23, pos := "l03_normal.go:220", after := #[{ on := 0, ground := Ground.data }, { on := 8, ground := Ground.data }, { on := 8, ground := Ground.chain }], guard := none }) rfl (fun K hK => ?_) AllReadyH.nil
                refine step_append_ints_at rfl _ _ 23 rfl (w.heap.size + 1) i0 Try.underlying23 hi hz0 hz1 hz2 _ _ _ rfl F.out.own _ _ _ (takeR m [row]) rfl HO.out.reads (by simp only [List.length_append]; omega) F.out.size ?_
                intro v' w4 ho' hg hv
                replace F := Lib.hid (F.out.grown ho' hg hv)
                clear ho' hg hv
                refine hK.out _ _ ?_ (fun hHeld => ?_)
                · with_reducible exact ⟨F.out.box.cells, (HCP.out _ F.out.bel).flat⟩
                clear hK K
                try simp only [Act.put, List.setIfInBounds_toArray, List.set_cons_zero, List.set_cons_succ]
                refine wpAnyH_take (i := 10) (oi := { dst := some 4, op := Op.assign (Operand.tmp 62), type := 23, pos := "l03_normal.go:220", after := #[{ on := 9, ground := Ground.data }, { on := 9, ground := Ground.chain }, { on := 0, ground := Ground.phase }, { on := 1, ground := Ground.phase }, { on := 2, ground := Ground.phase }, { on := 3, ground := Ground.phase }, { on := 4, ground := Ground.phase }, { on := 5, ground := Ground.phase }, { on := 6, ground := Ground.phase }, { on := 7, ground := Ground.phase }, { on := 8, ground := Ground.phase }, { on := 9, ground := Ground.phase }], guard := none }) (v := ?_) rfl (by kernel_rfl) (by kernel_rfl) (by kernel_rfl) (fun _ _ _ h => h) (Or.inl ⟨by rfl, ?_⟩) (by assumption) ?_
                rotate_left
                · intro w hSw
                  (try dsimp only at hSw)
                  go_simp
                  try with_reducible rfl
                try simp only [Act.put, List.setIfInBounds_toArray, List.set_cons_zero, List.set_cons_succ]
                refine wpAnyH_done (by kernel_rfl) ?_ _
                go_wp2
                go_roundg (gk - 1)
                case measure => omega
                case rel =>
                  refine ⟨k + 1, by omega, by omega, by go_num, ?_⟩
                  rw [wordsR_succ m rs k (by rw [HL.out]; exact hlt4), ← HROW.out, ← List.append_assoc]
                  exact F.out
              · have hkn : k = n := by omega
                subst hkn
                go_wp2
                go_ret
                have h9 := F.out
                rw [HHD.out] at h9
                obtain ⟨a', c', rfl, ho'⟩ := h9.own.form
                have e1 := headW_len m p m1 m8 ⟨p1, p2⟩
                have e2 := wordsR_len k (Nat.le_of_eq HL.out.symm) HS.out
                exact ⟨a', _, c', rfl, by rw [List.length_append]; omega, by unfold wordN; rw [HL.out]; exact ho'.mono (Nat.le_succ _), F.out.bel⟩

end Go.Proofs.Ytkedkleddpnanaa

namespace Go.Proofs.Ytkedkleddpnanaa
open Go.RowKit Go.ChangeShapes

theorem inverse_any (x : Int) (w : World) (h1 : -1000 < x) (h2 : x < 1000) :
    Calls Try.prog 93 #[.int .i64 x] w fun e w' => e = .returned (.int .i64 (-x)) ∧ w = w' := by
  go_enter Try.func93, Try.ntmps93
  go_wp2
  go_ret
  exact ⟨rfl, rfl⟩

theorem At2.grown {w w' : World} {g : Nat} {u v : Value} (h : At2 w g u v) (k : w.grownBy w' none) : At2 w' g u v := h.below (Below.ofGrown k)

set_option maxHeartbeats 1000000 in
theorem changed_any (F : FuncId) (caps : Array Value) (g : Int → Int) (s t : Int) (a : Option Addr) (n cap : Nat) (xs : List Int) (w : World) (hr : Reads w a n xs) (hsm : Small xs) (hn : n ≤ 1048576)
    (hcall : ∀ (args : Array Value) (W : World), Sem.run Try.prog (callFunc F args) W = .ok (.enter F args) W)
    (hF : ∀ x W, Below w.heap.size w W → -1000 < x → x < 1000 → Calls Try.prog F (#[.int .i64 x] ++ caps) W fun e w' => e = .returned (.int .i64 (g x)) ∧ Below W.heap.size W w') :
    Calls Try.prog 92 #[.agg #[.int .i64 s, .slice a n cap], .int .i64 t, .func (.func F) #[] caps] w (MadeBraid w t (xs.map g)) := by
  obtain ⟨i0, hi, hz0, hz1, hz2⟩ := info_parts infoInt
  have HL := Lib.hid hr.len
  have HSM := Lib.hid hsm; clear hsm
  have HFF := Lib.hid hF; clear hF
  have HCALL := Lib.hid hcall; clear hcall
  have R := Lib.hid hr; clear hr
  rcases Nat.eq_zero_or_pos n with h0 | h0
  · subst h0
    go_enter Try.func92, Try.ntmps92
    replace R := Lib.hid (R.out.alloc (.cells #[.int .i64 s, .slice a 0 cap] 47))
    have A := Lib.hid (At2.new w (.int .i64 s) (.slice a 0 cap) 47)
    have BB := Lib.hid (below1 w (.cells #[.int .i64 s, .slice a 0 cap] 47))
    replace R := Lib.hid (R.out.alloc (.cells #[.int .i64 0, .slice none 0 0] 47))
    replace A := Lib.hid (A.out.alloc (.cells #[.int .i64 0, .slice none 0 0] 47))
    have Z := Lib.hid (At2.place (w.alloc (.cells #[.int .i64 s, .slice a 0 cap] 47)) (.int .i64 0) (.slice none 0 0) 47 (w.heap.size + 1) (by simp))
    replace BB := Lib.hid (BB.out.alloc (by simp; try omega) (.cells #[.int .i64 0, .slice none 0 0] 47))
    go_wp2_with (at_make; refine wpList_make_full ((w.alloc (.cells #[.int .i64 s, .slice a 0 cap] 47)).alloc (.cells #[.int .i64 0, .slice none 0 0] 47)) rfl _ _ 23 rfl (w.heap.size + 1 + 1) 2 i0 (.int .i64 0) 1 Try.underlying23 hi hz0 hz1 .i64 .i64 _ _ 0 rfl rfl (by rfl) (by rfl) (by rw [hz2]; omega) (by unfold maxLen; omega) (by simp) ?_)
    intro w1 hown hgrow
    have hown1 := own_made hown
    have hb := Below.ofGrown hgrow
    clear hown hgrow
    replace R := Lib.hid (R.out.below hb)
    replace A := Lib.hid (A.out.below hb)
    replace Z := Lib.hid (Z.out.below hb)
    have z1 : w.heap.size + 2 ≤ w1.heap.size := by have := hb.size; simp at this; omega
    replace BB := Lib.hid (below_go BB.out hb (by simp; omega))
    clear hb
    obtain ⟨qA1, qA2, qA3, qA4, qA5⟩ := A.out
    obtain ⟨qZ1, qZ2, qZ3, qZ4, qZ5⟩ := Z.out
    have B3 : w.heap.size + 2 ≤ w1.heap.size := z1
    go_wp2
    refine wp_loop_rounds 1 ?_; rw [rounds_succ]
    go_wp2
    obtain ⟨_, e2, e3, _, _⟩ := Z.out.fill (.int .i64 t) (.slice (some ⟨w.heap.size + 1 + 1, 0, none⟩) 0 0)
    have hx : xs = [] := List.eq_nil_of_length_eq_zero HL.out
    rw [hx]
    refine bodyPost_ret (v := .agg #[.int .i64 t, .slice (some ⟨w.heap.size + 1 + 1, 0, none⟩) 0 0]) (by simp [results, Try.results92, go_sem, e2, e3]) rfl ⟨_, 0, 0, rfl, ?_, ?_⟩
    · exact ((hown1.setCell_below (by simp) _).setCell_below (by simp) _).mono (by omega)
    · exact (BB.out.setCell (p := ⟨w.heap.size + 1, 0, none⟩) (by simp) _).setCell (p := ⟨w.heap.size + 1, 1, none⟩) (by simp) _
  · obtain ⟨b, off, rfl, hb0, hc⟩ := R.out.cells h0
    have HC := Lib.hid hc; clear hc
    go_enter Try.func92, Try.ntmps92
    replace R := Lib.hid (R.out.alloc (.cells #[.int .i64 s, .slice (some ⟨b, off, none⟩) n cap] 47))
    have A := Lib.hid (At2.new w (.int .i64 s) (.slice (some ⟨b, off, none⟩) n cap) 47)
    have BB := Lib.hid (below1 w (.cells #[.int .i64 s, .slice (some ⟨b, off, none⟩) n cap] 47))
    replace R := Lib.hid (R.out.alloc (.cells #[.int .i64 0, .slice none 0 0] 47))
    replace A := Lib.hid (A.out.alloc (.cells #[.int .i64 0, .slice none 0 0] 47))
    have Z := Lib.hid (At2.place (w.alloc (.cells #[.int .i64 s, .slice (some ⟨b, off, none⟩) n cap] 47)) (.int .i64 0) (.slice none 0 0) 47 (w.heap.size + 1) (by simp))
    replace BB := Lib.hid (BB.out.alloc (by simp; try omega) (.cells #[.int .i64 0, .slice none 0 0] 47))
    go_wp2_with (at_make; refine wpList_make_full ((w.alloc (.cells #[.int .i64 s, .slice (some ⟨b, off, none⟩) n cap] 47)).alloc (.cells #[.int .i64 0, .slice none 0 0] 47)) rfl _ _ 23 rfl (w.heap.size + 1 + 1) 2 i0 (.int .i64 0) 1 Try.underlying23 hi hz0 hz1 .i64 .i64 _ _ n rfl rfl (by omega) (by omega) (by rw [hz2]; omega) (by unfold maxLen; omega) (by simp) ?_)
    intro w1 hown hgrow
    have hown1 := own_made hown
    have hb := Below.ofGrown hgrow
    clear hown hgrow
    replace R := Lib.hid (R.out.below hb)
    replace A := Lib.hid (A.out.below hb)
    replace Z := Lib.hid (Z.out.below hb)
    have z1 : w.heap.size + 2 ≤ w1.heap.size := by have := hb.size; simp at this; omega
    replace BB := Lib.hid (below_go BB.out hb (by simp; omega))
    clear hb
    obtain ⟨qA1, qA2, qA3, qA4, qA5⟩ := A.out
    obtain ⟨qZ1, qZ2, qZ3, qZ4, qZ5⟩ := Z.out
    have B3 : w.heap.size + 2 ≤ w1.heap.size := z1
    go_wp2
    clear qA1 qA2 qA3 qA4 qA5 qZ1 qZ2 qZ3 qZ4 qZ5
    clear z1
    go_loopw [17] (fun i wr => ∃ k : Nat, k ≤ n ∧ i = .int .i64 k ∧ Own (w.heap.size + 1 + 1) wr (some ⟨w.heap.size + 1 + 1, 0, none⟩) n n ((xs.map g).take k ++ List.replicate (n - k) 0) ∧ Below (w.heap.size + 1 + 1) w1 wr) (fun i _ => n - (intOf i).toNat)
    case atStart => exact ⟨0, Nat.zero_le _, rfl, by simpa using hown1, Below.refl _ _⟩
    case round =>
      obtain ⟨k, hk, rfl, ho, hbl⟩ := hrel
      clear hown1
      have hA := A.out.heap hbl.size (hbl.block _ (by omega))
      have hZ := Z.out.heap hbl.size (hbl.block _ (by omega))
      have HB0 := Lib.hid (BB.out.trans (hbl.mono (by omega)))
      have HZ := Lib.hid hZ
      obtain ⟨qA1, qA2, qA3, qA4, qA5⟩ := hA
      obtain ⟨qZ1, qZ2, qZ3, qZ4, qZ5⟩ := hZ
      by_cases hlt : k < n
      · have hm := HSM.out _ (getD_mem xs k (by rw [HL.out]; exact hlt))
        obtain ⟨x, hx⟩ : ∃ x, x = xs.getD k 0 := ⟨_, rfl⟩
        have h1 : wr.cell? ⟨b, off + k, none⟩ = some (.int .i64 x) := by rw [hx]; exact (HB0.out.cell (by exact hb0)).trans (HC.out k hlt)
        rw [← hx] at hm
        have HX := Lib.hid hx; clear hx
        obtain ⟨hm1, hm2⟩ := hm
        have HO := Lib.hid ho; clear ho
        have HBL := Lib.hid hbl; clear hbl
        have hcall := HCALL.out
        go_wp2_with fail
        clear hcall
        refine (HFF.out x _ HB0.out hm1 hm2).mono ?_
        rintro e w2 ⟨rfl, hb⟩
        have ho2 := HO.out.below hb
        have c1 := ho2.cellAt k hlt
        have c2 := ho2.frozenAt k
        have HO2 := Lib.hid ho2; clear ho2
        have HBL2 := Lib.hid (below_go HBL.out hb (by omega)); clear hb
        clear qA1 qA2 qA3 qA4 qA5 qZ1 qZ2 qZ3 qZ4 qZ5 h1
        go_wp2
        go_roundw
        case rel =>
          have hst := HO2.out.store k (g x)
          have e1 : g x = (xs.map g).getD k 0 := by rw [HX.out]; simp [List.getD, show k < xs.length by rw [HL.out]; exact hlt]
          rw [e1, set_prefix (xs.map g) n k (by simpa using HL.out) hlt, ← e1] at hst
          exact ⟨k + 1, by omega, by go_num, by simpa using hst.1, by simpa using HBL2.out.setCell (p := ⟨w.heap.size + 1 + 1, k, none⟩) (Nat.le_refl _) _⟩
        case measure => simp [intOf]; omega
      · have hkn : k = n := by omega
        have HK := Lib.hid hkn; clear hkn
        have hh := HL.out
        rw [HK.out, Nat.sub_self, List.replicate_zero, List.append_nil, List.take_of_length_le (by simp; omega)] at ho
        go_wp2
        obtain ⟨_, e2, e3, _, _⟩ := HZ.out.fill (.int .i64 t) (.slice (some ⟨w.heap.size + 1 + 1, 0, none⟩) n n)
        refine bodyPost_ret (v := .agg #[.int .i64 t, .slice (some ⟨w.heap.size + 1 + 1, 0, none⟩) n n]) (by simp [results, Try.results92, go_sem, e2, e3]) rfl ⟨_, n, n, rfl, ?_, ?_⟩
        · exact ((ho.setCell_below (by simp) _).setCell_below (by simp) _).mono (by omega)
        · exact (HB0.out.setCell (p := ⟨w.heap.size + 1, 0, none⟩) (by simp) _).setCell (p := ⟨w.heap.size + 1, 1, none⟩) (by simp) _

theorem set_back (xs : List Int) (n k : Nat) (hl : xs.length = n) (h : k < n) :
    (List.replicate (n - k) (0 : Int) ++ (xs.take k).reverse).set (n - 1 - k) (xs.getD k 0) = List.replicate (n - (k + 1)) (0 : Int) ++ (xs.take (k + 1)).reverse := by
  rw [take_snoc xs k (by omega), List.reverse_append, show n - k = (n - (k + 1)) + 1 by omega, List.replicate_succ', List.append_assoc, List.set_append, if_neg (by simp; omega), List.length_replicate,
    show n - 1 - k - (n - (k + 1)) = 0 by omega]
  rfl

set_option maxHeartbeats 1000000 in
theorem backwards_any (s : Int) (a : Option Addr) (n cap : Nat) (xs : List Int) (w : World) (hr : Reads w a n xs) (hn : n ≤ 1048576) :
    Calls Try.prog 80 #[.agg #[.int .i64 s, .slice a n cap]] w (MadeBraid w s xs.reverse) := by
  obtain ⟨i0, hi, hz0, hz1, hz2⟩ := info_parts infoInt
  have HL := Lib.hid hr.len
  have R := Lib.hid hr; clear hr
  rcases Nat.eq_zero_or_pos n with h0 | h0
  · subst h0
    go_enter Try.func80, Try.ntmps80
    replace R := Lib.hid (R.out.alloc (.cells #[.int .i64 s, .slice a 0 cap] 47))
    have A := Lib.hid (At2.new w (.int .i64 s) (.slice a 0 cap) 47)
    have BB := Lib.hid (below1 w (.cells #[.int .i64 s, .slice a 0 cap] 47))
    replace R := Lib.hid (R.out.alloc (.cells #[.int .i64 0, .slice none 0 0] 47))
    replace A := Lib.hid (A.out.alloc (.cells #[.int .i64 0, .slice none 0 0] 47))
    have Z := Lib.hid (At2.place (w.alloc (.cells #[.int .i64 s, .slice a 0 cap] 47)) (.int .i64 0) (.slice none 0 0) 47 (w.heap.size + 1) (by simp))
    replace BB := Lib.hid (BB.out.alloc (by simp; try omega) (.cells #[.int .i64 0, .slice none 0 0] 47))
    go_wp2_with (at_make; refine wpList_make_full ((w.alloc (.cells #[.int .i64 s, .slice a 0 cap] 47)).alloc (.cells #[.int .i64 0, .slice none 0 0] 47)) rfl _ _ 23 rfl (w.heap.size + 1 + 1) 2 i0 (.int .i64 0) 1 Try.underlying23 hi hz0 hz1 .i64 .i64 _ _ 0 rfl rfl (by rfl) (by rfl) (by rw [hz2]; omega) (by unfold maxLen; omega) (by simp) ?_)
    intro w1 hown hgrow
    have hown1 := own_made hown
    have hb := Below.ofGrown hgrow
    clear hown hgrow
    replace R := Lib.hid (R.out.below hb)
    replace A := Lib.hid (A.out.below hb)
    replace Z := Lib.hid (Z.out.below hb)
    have z1 : w.heap.size + 2 ≤ w1.heap.size := by have := hb.size; simp at this; omega
    replace BB := Lib.hid (below_go BB.out hb (by simp; omega))
    clear hb
    obtain ⟨qA1, qA2, qA3, qA4, qA5⟩ := A.out
    obtain ⟨qZ1, qZ2, qZ3, qZ4, qZ5⟩ := Z.out
    have B3 : w.heap.size + 2 ≤ w1.heap.size := z1
    go_wp2
    refine wp_loop_rounds 1 ?_; rw [rounds_succ]
    go_wp2
    obtain ⟨_, e2, e3, _, _⟩ := Z.out.fill (.int .i64 s) (.slice (some ⟨w.heap.size + 1 + 1, 0, none⟩) 0 0)
    have hx : xs = [] := List.eq_nil_of_length_eq_zero HL.out
    rw [hx]
    refine bodyPost_ret (v := .agg #[.int .i64 s, .slice (some ⟨w.heap.size + 1 + 1, 0, none⟩) 0 0]) (by simp [results, Try.results80, go_sem, e2, e3]) rfl ⟨_, 0, 0, rfl, ?_, ?_⟩
    · exact ((hown1.setCell_below (by simp) _).setCell_below (by simp) _).mono (by omega)
    · exact (BB.out.setCell (p := ⟨w.heap.size + 1, 0, none⟩) (by simp) _).setCell (p := ⟨w.heap.size + 1, 1, none⟩) (by simp) _
  · obtain ⟨b, off, rfl, hb0, hc⟩ := R.out.cells h0
    have HC := Lib.hid hc; clear hc
    go_enter Try.func80, Try.ntmps80
    replace R := Lib.hid (R.out.alloc (.cells #[.int .i64 s, .slice (some ⟨b, off, none⟩) n cap] 47))
    have A := Lib.hid (At2.new w (.int .i64 s) (.slice (some ⟨b, off, none⟩) n cap) 47)
    have BB := Lib.hid (below1 w (.cells #[.int .i64 s, .slice (some ⟨b, off, none⟩) n cap] 47))
    replace R := Lib.hid (R.out.alloc (.cells #[.int .i64 0, .slice none 0 0] 47))
    replace A := Lib.hid (A.out.alloc (.cells #[.int .i64 0, .slice none 0 0] 47))
    have Z := Lib.hid (At2.place (w.alloc (.cells #[.int .i64 s, .slice (some ⟨b, off, none⟩) n cap] 47)) (.int .i64 0) (.slice none 0 0) 47 (w.heap.size + 1) (by simp))
    replace BB := Lib.hid (BB.out.alloc (by simp; try omega) (.cells #[.int .i64 0, .slice none 0 0] 47))
    go_wp2_with (at_make; refine wpList_make_full ((w.alloc (.cells #[.int .i64 s, .slice (some ⟨b, off, none⟩) n cap] 47)).alloc (.cells #[.int .i64 0, .slice none 0 0] 47)) rfl _ _ 23 rfl (w.heap.size + 1 + 1) 2 i0 (.int .i64 0) 1 Try.underlying23 hi hz0 hz1 .i64 .i64 _ _ n rfl rfl (by omega) (by omega) (by rw [hz2]; omega) (by unfold maxLen; omega) (by simp) ?_)
    intro w1 hown hgrow
    have hown1 := own_made hown
    have hb := Below.ofGrown hgrow
    clear hown hgrow
    replace R := Lib.hid (R.out.below hb)
    replace A := Lib.hid (A.out.below hb)
    replace Z := Lib.hid (Z.out.below hb)
    have z1 : w.heap.size + 2 ≤ w1.heap.size := by have := hb.size; simp at this; omega
    replace BB := Lib.hid (below_go BB.out hb (by simp; omega))
    clear hb
    obtain ⟨qA1, qA2, qA3, qA4, qA5⟩ := A.out
    obtain ⟨qZ1, qZ2, qZ3, qZ4, qZ5⟩ := Z.out
    have B3 : w.heap.size + 2 ≤ w1.heap.size := z1
    go_wp2
    clear qA1 qA2 qA3 qA4 qA5 qZ1 qZ2 qZ3 qZ4 qZ5
    clear z1
    go_loopw [13] (fun i wr => ∃ k : Nat, k ≤ n ∧ i = .int .i64 k ∧ Own (w.heap.size + 1 + 1) wr (some ⟨w.heap.size + 1 + 1, 0, none⟩) n n (List.replicate (n - k) 0 ++ (xs.take k).reverse) ∧ Below (w.heap.size + 1 + 1) w1 wr) (fun i _ => n - (intOf i).toNat)
    case atStart => exact ⟨0, Nat.zero_le _, rfl, by simpa using hown1, Below.refl _ _⟩
    case round =>
      obtain ⟨k, hk, rfl, ho, hbl⟩ := hrel
      clear hown1
      have hA := A.out.heap hbl.size (hbl.block _ (by omega))
      have hZ := Z.out.heap hbl.size (hbl.block _ (by omega))
      have HB0 := Lib.hid (BB.out.trans (hbl.mono (by omega)))
      have HZ := Lib.hid hZ
      obtain ⟨qA1, qA2, qA3, qA4, qA5⟩ := hA
      obtain ⟨qZ1, qZ2, qZ3, qZ4, qZ5⟩ := hZ
      by_cases hlt : k < n
      · obtain ⟨x, hx⟩ : ∃ x, x = xs.getD k 0 := ⟨_, rfl⟩
        have h1 : wr.cell? ⟨b, off + k, none⟩ = some (.int .i64 x) := by rw [hx]; exact (HB0.out.cell (by exact hb0)).trans (HC.out k hlt)
        have HX := Lib.hid hx; clear hx
        have c1 := ho.cellAt (n - 1 - k) (by omega)
        have c2 := ho.frozenAt (n - 1 - k)
        obtain ⟨y, hy⟩ : ∃ y, y = (List.replicate (n - k) (0 : Int) ++ (xs.take k).reverse).getD (n - 1 - k) 0 := ⟨_, rfl⟩
        rw [← hy] at c1; clear hy
        have HO := Lib.hid ho; clear ho
        have HBL := Lib.hid hbl; clear hbl
        go_wp2
        go_roundw
        case rel =>
          have hst := HO.out.store (n - 1 - k) x
          rw [HX.out, set_back xs n k HL.out hlt, ← HX.out] at hst
          exact ⟨k + 1, by omega, by go_num, hst.1, HBL.out.setCell (p := ⟨w.heap.size + 1 + 1, n - 1 - k, none⟩) (Nat.le_refl _) _⟩
        case measure => simp [intOf]; omega
      · have hkn : k = n := by omega
        have HK := Lib.hid hkn; clear hkn
        have hh := HL.out
        rw [HK.out, Nat.sub_self, List.replicate_zero, List.nil_append, List.take_of_length_le (by omega)] at ho
        go_wp2
        obtain ⟨_, e2, e3, _, _⟩ := HZ.out.fill (.int .i64 s) (.slice (some ⟨w.heap.size + 1 + 1, 0, none⟩) n n)
        refine bodyPost_ret (v := .agg #[.int .i64 s, .slice (some ⟨w.heap.size + 1 + 1, 0, none⟩) n n]) (by simp [results, Try.results80, go_sem, e2, e3]) rfl ⟨_, n, n, rfl, ?_, ?_⟩
        · exact ((ho.setCell_below (by simp) _).setCell_below (by simp) _).mono (by omega)
        · exact (HB0.out.setCell (p := ⟨w.heap.size + 1, 0, none⟩) (by simp) _).setCell (p := ⟨w.heap.size + 1, 1, none⟩) (by simp) _

theorem enter_inverse (args : Array Value) (W : World) : Sem.run Try.prog (callFunc 93 args) W = .ok (.enter 93 args) W := by
  kernel_rfl

def rep (k : Nat) (xs : List Int) : List Int := (List.replicate k xs).flatten

theorem rep_succ (k : Nat) (xs : List Int) : rep (k + 1) xs = rep k xs ++ xs := by
  simp [rep, List.replicate_succ', List.flatten_append]

theorem rep_one (xs : List Int) : rep 1 xs = xs := by simp [rep]

theorem rep_len (k : Nat) (xs : List Int) : (rep k xs).length = k * xs.length := by
  induction k with
  | zero => simp [rep]
  | succ k ih => rw [rep_succ, List.length_append, ih, Nat.succ_mul]

set_option maxHeartbeats 1000000 in
theorem repeated_any (s : Int) (a : Option Addr) (n cap : Nat) (xs : List Int) (t : Nat) (w : World) (hr : Reads w a n xs) (hn : n ≤ 1048576) (ht : t ≤ 1048576) (htn : t * n ≤ 1048576) :
    Calls Try.prog 94 #[.agg #[.int .i64 s, .slice a n cap], .int .i64 t] w (MadeBraid w s (rep t xs)) := by
  obtain ⟨i0, hi, hz0, hz1, hz2⟩ := info_parts infoInt
  have HL := Lib.hid hr.len
  have HT := Lib.hid htn; clear htn
  have R := Lib.hid hr; clear hr
  go_enter Try.func94, Try.ntmps94
  replace R := Lib.hid (R.out.alloc (.cells #[.int .i64 s, .slice a n cap] 47))
  have A := Lib.hid (At2.new w (.int .i64 s) (.slice a n cap) 47)
  have BB := Lib.hid (below1 w (.cells #[.int .i64 s, .slice a n cap] 47))
  replace R := Lib.hid (R.out.alloc (.cells #[.int .i64 0, .slice none 0 0] 47))
  replace A := Lib.hid (A.out.alloc (.cells #[.int .i64 0, .slice none 0 0] 47))
  have Z := Lib.hid (At2.place (w.alloc (.cells #[.int .i64 s, .slice a n cap] 47)) (.int .i64 0) (.slice none 0 0) 47 (w.heap.size + 1) (by simp))
  replace BB := Lib.hid (BB.out.alloc (by first | omega | (simp; done) | (simp; omega)) (.cells #[.int .i64 0, .slice none 0 0] 47))
  obtain ⟨w1, hw1⟩ : ∃ w1, w1 = ((w.alloc (.cells #[.int .i64 s, .slice a n cap] 47)).alloc (.cells #[.int .i64 0, .slice none 0 0] 47)) := ⟨_, rfl⟩
  rw [← hw1] at R A Z BB
  have z1 : w.heap.size + 2 = w1.heap.size := by rw [hw1]; simp
  go_wp2
  rw [← hw1]
  have HW := Lib.hid hw1; clear hw1
  go_loopw [5, 7] (fun v i wr => ∃ k : Nat, k ≤ t ∧ i = .int .i64 k ∧ (∃ m, OwnV w1.heap.size wr v m (rep k xs)) ∧ Below w1.heap.size w1 wr) (fun _ i _ => t - (intOf i).toNat)
  case atStart => exact ⟨0, Nat.zero_le _, rfl, ⟨0, OwnV.nil _ _⟩, Below.refl _ _⟩
  case round =>
    obtain ⟨k, hk, rfl, ⟨m, ho⟩, hbl⟩ := hrel
    have hA := A.out.below hbl
    have hZ := Z.out.below hbl
    have R1 := Lib.hid (R.out.below hbl)
    have HZ1 := Lib.hid hZ
    obtain ⟨qA1, qA2, qA3, qA4, qA5⟩ := hA
    obtain ⟨qZ1, qZ2, qZ3, qZ4, qZ5⟩ := hZ
    have hzs : w1.heap.size ≤ wr.heap.size := hbl.size
    have hml : m ≤ 1048576 := by have h1 := ho.len; rw [rep_len, HL.out] at h1; have h2 := HT.out; have h3 := Nat.mul_le_mul_right n hk; omega
    have HO := Lib.hid ho; clear ho
    have HB := Lib.hid hbl; clear hbl
    by_cases hlt : k < t
    · go_wp2_with (at_builtin; refine wpList_append_ints rfl _ _ 23 rfl w1.heap.size i0 Try.underlying23 hi hz0 hz1 hz2 _ _ _ rfl HO.out _ _ _ xs rfl R1.out (by omega) hzs ?_)
      intro v' w2 ho' hg
      have HB' := Lib.hid (below_appended5 HB.out hzs HO.out hg)
      have HO' := Lib.hid ho'; clear ho' hg
      go_wp2
      go_roundw
      case rel => exact ⟨k + 1, by omega, by go_num, ⟨m + n, by rw [rep_succ]; exact HO'.out⟩, HB'.out⟩
      case measure => simp [intOf]; omega
    · have hkt : k = t := by omega
      have HK := Lib.hid hkt; clear hkt
      obtain ⟨av, cv, hv, _⟩ := HO.out.form
      rw [hv]
      have ho := HO.out
      rw [hv, HK.out] at ho
      clear hv
      go_wp2
      obtain ⟨_, e2, e3, _, _⟩ := HZ1.out.fill (.int .i64 s) (.slice av m cv)
      refine bodyPost_ret (v := .agg #[.int .i64 s, .slice av m cv]) (by simp [results, Try.results94, go_sem, e2, e3]) rfl ⟨av, m, cv, rfl, ?_, ?_⟩
      · exact ((Own.setCell_below ho (by simp; omega) _).setCell_below (by simp; omega) _).mono (by omega)
      · exact ((BB.out.trans (HB.out.mono (by omega))).setCell (p := ⟨w.heap.size + 1, 0, none⟩) (by simp) _).setCell (p := ⟨w.heap.size + 1, 1, none⟩) (by simp) _

end Go.Proofs.Ytkedkleddpnanaa

namespace Go.Proofs.Ytkedkleddpnanaa
open Go.RowKit Go.ChangeShapes

theorem norm_strands {s p : Int} {rs : List (List Int)} (h : normB s p rs = true) : ∃ m : Nat, s = m ∧ 1 ≤ m ∧ m ≤ 8 := by
  have := ((normB_iff s p rs).1 h).1
  exact ⟨s.toNat, by omega, by omega, by omega⟩

theorem mNWord_bad {s p : Int} {rs : List (List Int)} (h : normB s p rs = false) : mNWord s p rs = ([], 1) := by unfold mNWord; rw [h]; rfl
theorem mNWord_long {m : Nat} {p : Int} {rs : List (List Int)} (h : normB m p rs = true) (h2 : 200 < (wordN m p rs).length) : mNWord m p rs = ([], 3) := by
  unfold mNWord; rw [if_pos h, if_neg (by rw [Int.toNat_natCast]; omega)]
theorem mNWord_fits {m : Nat} {p : Int} {rs : List (List Int)} (h : normB m p rs = true) (h2 : (wordN m p rs).length ≤ 200) : mNWord m p rs = (wordN m p rs, 0) := by
  unfold mNWord; rw [if_pos h, if_pos (by rw [Int.toNat_natCast]; omega), Int.toNat_natCast]

set_option maxHeartbeats 1000000 in
theorem specWordOfNormal_any (s p : Int) (a : Option Addr) (n cap : Nat) (rs : List (List Int)) (w : World) (hr : ReadsA w a n rs) (hy : BytesA rs) (hn : n ≤ 1048576) (fxs : List Int) (fc : Int) (hM : mNWord s p rs = (fxs, fc)) :
    Calls Try.prog 46 #[.agg #[.int .i64 s, .int .i64 p, .slice a n cap]] w (RetInts w fxs fc) := by
  have HR := Lib.hid hr; clear hr
  have HY := Lib.hid hy; clear hy
  cases hB : normB s p rs with
  | true =>
    obtain ⟨m, rfl, m1, m8⟩ := norm_strands hB
    have HM := Lib.hid hM; clear hM
    go_enter Try.func46, Try.ntmps46
    have A := Lib.hid (At3.place w (.int .i64 m) (.int .i64 p) (.slice a n cap) 38 w.heap.size rfl)
    have B := Lib.hid (below1 w (.cells #[.int .i64 m, .int .i64 p, .slice a n cap] 38))
    replace HR := Lib.hid (HR.out.alloc (.cells #[.int .i64 m, .int .i64 p, .slice a n cap] 38))
    obtain ⟨q1, q2, q3⟩ := A.out.cells
    go_wp2_with fail
    refine (l03Is_any m p a n cap rs _ HR.out HY.out hn).mono ?_
    rw [hB]
    rintro e w1 ⟨rfl, hb⟩
    clear q1 q2 q3
    replace A := Lib.hid (A.out.below hb)
    replace B := Lib.hid (below_go B.out hb B.out.size)
    replace HR := Lib.hid (HR.out.below hb)
    clear hb
    have HB := Lib.hid hB
    clear hB
    obtain ⟨q1, q2, q3⟩ := A.out.cells
    go_wp2_with fail
    refine (l03Word_any m p a n cap rs _ HR.out HB.out).mono ?_
    rintro e w2 ⟨a2, n2, c2, rfl, hl, ho, hb⟩
    clear q1 q2 q3
    replace A := Lib.hid (A.out.below hb)
    have HO := Lib.hid (ho.mono B.out.size)
    have hlen := ho.len
    replace B := Lib.hid (below_go B.out hb B.out.size)
    clear ho hb
    by_cases h200 : n2 ≤ 200
    · have hM := HM.out
      rw [mNWord_fits HB.out (by omega)] at hM
      obtain ⟨rfl, rfl⟩ := Prod.mk.inj hM
      clear hM HM
      have HLn := Lib.hid hlen; clear hlen
      go_wp2
      go_ret2
      exact ⟨a2, _, c2, rfl, hl, HO.out, B.out⟩
    · have hM := HM.out
      rw [mNWord_long HB.out (by omega)] at hM
      obtain ⟨rfl, rfl⟩ := Prod.mk.inj hM
      clear hM HM
      have HLn := Lib.hid hlen; clear hlen
      go_wp2
      go_ret2
      exact ⟨none, 0, 0, rfl, by omega, Own.nil _ _, B.out⟩
  | false =>
    rw [mNWord_bad hB] at hM
    obtain ⟨rfl, rfl⟩ := Prod.mk.inj hM
    clear hM
    go_enter Try.func46, Try.ntmps46
    have B := Lib.hid (below1 w (.cells #[.int .i64 s, .int .i64 p, .slice a n cap] 38))
    go_wp2_with fail
    refine (l03Is_any s p a n cap rs _ (HR.out.alloc _) HY.out hn).mono ?_
    rw [hB]
    rintro e w1 ⟨rfl, hb⟩
    replace B := Lib.hid (below_go B.out hb B.out.size)
    clear hb
    go_wp2
    go_ret2
    exact ⟨none, 0, 0, rfl, by omega, Own.nil _ _, B.out⟩

end Go.Proofs.Ytkedkleddpnanaa

namespace Go.Proofs.Ytkedkleddpnanaa
open Go.RowKit Go.ChangeShapes

set_option maxRecDepth 100000 in
set_option maxHeartbeats 2000000 in
theorem implWordOfNormal_any (s p : Int) (a : Option Addr) (n cap : Nat) (rs : List (List Int)) (w : World) (hr : ReadsA w a n rs) (_hy : BytesA rs) (hn : n ≤ 1048576) (fxs : List Int) (fc : Int) (hM : mNWord s p rs = (fxs, fc)) :
    Calls Try.prog 47 #[.agg #[.int .i64 s, .int .i64 p, .slice a n cap]] w (RetInts w fxs fc) := by
  have HR := Lib.hid hr; clear hr
  have R := Lib.hid HR.out
  obtain ⟨i0, hi, hz0, hz1, hz2⟩ := info_parts infoInt
  cases hB : normB s p rs with
  | true =>
    obtain ⟨m, rfl, m1, m8⟩ := norm_strands hB
    have HM := Lib.hid hM; clear hM
    have HL := Lib.hid HR.out.len
    have H8 := Lib.hid HR.out.rows
    have HS := Lib.hid (norm_sims H8.out hB)
    obtain ⟨p1, p2, n2⟩ := norm_small hB
    rw [HL.out] at n2
    go_enter Try.func47, Try.ntmps47
    have A := Lib.hid (At3.place w (.int .i64 m) (.int .i64 p) (.slice a n cap) 38 w.heap.size rfl)
    have B := Lib.hid (below1 w (.cells #[.int .i64 m, .int .i64 p, .slice a n cap] 38))
    replace HR := Lib.hid (HR.out.alloc (.cells #[.int .i64 m, .int .i64 p, .slice a n cap] 38))
    obtain ⟨q1, q2, q3⟩ := A.out.cells
    go_wp2_with fail
    refine (implIsNormal_any m p a n cap rs _ HR.out hn).mono ?_
    rw [hB]
    rintro e w1 ⟨rfl, hb⟩
    clear q1 q2 q3
    replace A := Lib.hid (A.out.below hb)
    replace B := Lib.hid (below_go B.out hb B.out.size)
    replace HR := Lib.hid (HR.out.below hb)
    have z1 : w.heap.size + 1 ≤ w1.heap.size := by have := hb.size; simpa using this
    clear hb
    have HB := Lib.hid hB
    clear hB
    obtain ⟨q1, q2, q3⟩ := A.out.cells
    go_wp2_with fail
    refine (halfTurn_any m m8 _).mono ?_
    rintro e w2 ⟨rfl, hb⟩
    clear q1 q2 q3
    replace A := Lib.hid (A.out.below hb)
    have z2 : w1.heap.size ≤ w2.heap.size := hb.size
    replace B := Lib.hid (below_go B.out hb (by omega))
    replace HR := Lib.hid (HR.out.below hb)
    clear hb
    obtain ⟨half, hhalf⟩ : ∃ half, half = takeR m [halfR m] := ⟨_, rfl⟩
    have hwl := word_len (halfR_sim m m1 m8)
    obtain ⟨q1, q2, q3⟩ := A.out.cells
    go_wp2_with fail
    refine (word_any m (halfR m) (halfR_sim m m1 m8) _).mono ?_
    rw [← hhalf] at hwl ⊢
    have HH := Lib.hid hhalf
    have HSM : Hid (Small half) := Lib.hid (by rw [hhalf]; exact word_small m8 _)
    clear hhalf
    rintro e w3 ⟨a3, n3, c3, rfl, hm3, ho, hb⟩
    clear q1 q2 q3
    obtain rfl : half.length = n3 := ho.len
    replace A := Lib.hid (A.out.below hb)
    have z3 : w2.heap.size ≤ w3.heap.size := hb.size
    replace B := Lib.hid (below_go B.out hb (by omega))
    replace HR := Lib.hid (HR.out.below hb)
    clear hb
    have O := Lib.hid ho.reads
    clear ho
    replace A := Lib.hid (A.out.alloc (.cells #[.int .i64 m, .slice a3 half.length c3] 47))
    replace B := Lib.hid (B.out.alloc (by omega) (.cells #[.int .i64 m, .slice a3 half.length c3] 47))
    replace O := Lib.hid (O.out.alloc (.cells #[.int .i64 m, .slice a3 half.length c3] 47))
    have Z := Lib.hid (At2.place w3 (.int .i64 m) (.slice a3 half.length c3) 47 w3.heap.size rfl)
    clear HR
    obtain ⟨q1, q2, q3⟩ := A.out.cells
    go_upto_region 5 with fail
    obtain ⟨W, hW⟩ : ∃ W, W = w3.alloc (.cells #[.int .i64 m, .slice a3 half.length c3] 47) := ⟨_, rfl⟩
    have fa := A.out
    have fb := B.out
    have fo := O.out
    have fz := Z.out
    rw [← hW] at fa fb fo fz ⊢
    clear q1 q2 q3 A B O Z
    have A := Lib.hid fa
    have B := Lib.hid fb
    have O := Lib.hid fo
    have Z := Lib.hid fz
    obtain ⟨g, hg⟩ : ∃ g, g = w3.heap.size := ⟨_, rfl⟩
    have zg : w.heap.size + 1 ≤ g := by omega
    have zW : g < W.heap.size := by rw [hW, hg]; simp
    rw [← hg] at fz Z ⊢
    clear hW hg fa fb fo fz
    obtain ⟨qZ1, qZ2, qZ3, qZ4, qZ5⟩ := Z.out
    obtain ⟨q1, q2, q3⟩ := A.out.cells
    rcases Int.lt_or_le p 0 with hp | hp
    case' inl =>
      have hl1 : half.length ≤ 1048576 := by omega
      go_wp2_with fail
      refine (changed_any 93 #[] (fun x => -x) _ _ _ _ _ _ _ O.out HSM.out hl1 enter_inverse (fun x W _ h1 h2 => (inverse_any x W h1 h2).mono fun _ _ ⟨he, hw⟩ => ⟨he, hw ▸ Below.refl _ _⟩)).mono ?_
      rintro e w4 ⟨a4, n4, c4, rfl, ho, hb⟩
      clear qZ1 qZ2 qZ3 qZ4 qZ5 q1 q2 q3
      replace A := Lib.hid (A.out.below hb)
      replace Z := Lib.hid (Z.out.below hb)
      have z4 : W.heap.size ≤ w4.heap.size := hb.size
      replace B := Lib.hid (below_go B.out hb (by omega))
      clear hb O
      have hl4 : n4 ≤ 1048576 := by have := ho.len; simp at this; omega
      obtain ⟨qZ1, qZ2, qZ3, qZ4, qZ5⟩ := Z.out
      obtain ⟨q1, q2, q3⟩ := A.out.cells
      go_wp2_with fail
      refine (backwards_any _ _ _ _ _ _ ho.reads hl4).mono ?_
      clear ho
      rintro e w5 ⟨ah, n5, ch, rfl, ho, hb⟩
      clear qZ1 qZ2 qZ3 qZ4 qZ5 q1 q2 q3
      replace A := Lib.hid (A.out.below hb)
      replace Z := Lib.hid (Z.out.below hb)
      have z5 : w4.heap.size ≤ w5.heap.size := hb.size
      replace B := Lib.hid (below_go B.out hb (by omega))
      have hl5 : half.length = n5 := by have := ho.len; simpa using this
      subst hl5
      clear hb hl4
      obtain ⟨qZ1, qZ2, qZ3, qZ4, qZ5⟩ := Z.out
      obtain ⟨q1, q2, q3⟩ := A.out.cells
      go_upto_region 7 with fail
      clear qZ1 qZ2 qZ3 qZ4 qZ5 q1 q2 q3
      have Fz := Z.out.fill (.int .i64 m) (.slice ah half.length ch)
      have Fb := (B.out.setCell (p := ⟨g, 0, none⟩) (by simp; omega) (.int .i64 m)).setCell (p := ⟨g, 1, none⟩) (by simp; omega) (.slice ah half.length ch)
      have Fa := (A.out.setCell (p := ⟨g, 0, none⟩) (by simp; omega) (.int .i64 m)).setCell (p := ⟨g, 1, none⟩) (by simp; omega) (.slice ah half.length ch)
      have Fo := ((ho.setCell_below (p := ⟨g, 0, none⟩) (by simp; omega) (.int .i64 m)).setCell_below (p := ⟨g, 1, none⟩) (by simp; omega) (.slice ah half.length ch)).reads
      obtain ⟨hw, hhw⟩ : ∃ hw, hw = (half.map fun x => -x).reverse := ⟨_, rfl⟩
      have HT : Hid (headW m p = rep p.natAbs hw) := Lib.hid (by unfold headW; rw [if_neg (by omega), ← HH.out, hhw, show (-p).toNat = p.natAbs by omega]; rfl)
      rw [← hhw] at Fo
      clear hhw ho A B Z z5 z4 zW
      obtain ⟨V, hV⟩ : ∃ V, V = (w5.setCell ⟨g, 0, none⟩ (.int .i64 m)).setCell ⟨g, 1, none⟩ (.slice ah half.length ch) := ⟨_, rfl⟩
      rw [← hV] at Fz Fb Fa Fo ⊢
      clear hV
    case' inr =>
      go_upto_region 7 with fail
      clear qZ1 qZ2 qZ3 qZ4 qZ5 q1 q2 q3
      obtain ⟨ah, hah⟩ : ∃ ah, ah = a3 := ⟨_, rfl⟩
      subst hah
      obtain ⟨ch, hch⟩ : ∃ ch, ch = c3 := ⟨_, rfl⟩
      subst hch
      have Fz := Z.out
      have Fb := B.out
      have Fa := A.out
      obtain ⟨hw, hhw⟩ : ∃ hw, hw = half := ⟨_, rfl⟩
      have Fo : Reads W ah half.length hw := by rw [hhw]; exact O.out
      have HT : Hid (headW m p = rep p.natAbs hw) := Lib.hid (by unfold headW; rw [if_pos hp, ← HH.out, hhw, show p.toNat = p.natAbs by omega]; rfl)
      clear O A B Z zW
      obtain ⟨V, hV⟩ : ∃ V, V = W := ⟨_, rfl⟩
      rw [← hV] at Fz Fb Fa Fo ⊢
      clear hV
    all_goals
      have HPM : Hid (max p (-p) = (p.natAbs : Int)) := Lib.hid (by omega)
      have HHW : Hid (hw.length ≤ 196) := Lib.hid (by have := Fo.len; omega)
      have hlm := Fo.len
      have A := Lib.hid Fa
      have B := Lib.hid Fb
      have Z := Lib.hid Fz
      have O := Lib.hid Fo
      clear Fa Fb Fz Fo
      obtain ⟨qZ1, qZ2, qZ3, qZ4, qZ5⟩ := Z.out
      obtain ⟨q1, q2, q3⟩ := A.out.cells
      go_wp2_with fail
      clear q1 q2 q3 qZ1 qZ2 qZ3 qZ4 qZ5
      have hrep := repeated_any (m : Int) ah half.length ch hw p.natAbs V O.out (by omega) (by omega) (Nat.le_trans (Nat.mul_le_mul (show p.natAbs ≤ 200 by omega) (show half.length ≤ 196 by omega)) (by omega))
      (first | rw [show ((p.natAbs : Nat) : Int) = p by omega] at hrep | rw [show ((p.natAbs : Nat) : Int) = -p by omega] at hrep)
      refine hrep.mono ?_
      clear hrep
      rintro e v1 ⟨a6, n6, c6, rfl, ho, hb⟩
      replace A := Lib.hid (A.out.below hb)
      have zV := B.out.size
      have zA := A.out.1
      replace B := Lib.hid (below_go B.out hb zV)
      rw [← HT.out] at ho
      obtain rfl : (headW m p).length = n6 := ho.len
      have hg1 : w.heap.size + 1 ≤ V.heap.size := by have := Z.out.1; omega
      have F : Hid (AtWord w v1 m p a n cap none 0 [] (.slice a6 (headW m p).length c6) (headW m p)) := Lib.hid ⟨A.out, B.out, ho.mono hg1, ⟨rfl, .inl rfl⟩, fun x hx => by cases hx⟩
      clear A B Z O ho hb zV zA hg1 HPM HHW hlm
      obtain ⟨q1, q2, q3⟩ := F.out.box.cells
      have hfd : ∀ v : World, (Instr.field 47 (.agg #[.int .i64 m, .slice a6 (headW m p).length c6]) 1).run Try.prog v = .ok (.slice a6 (headW m p).length c6) v := fun _ => by kernel_rfl
      go_wp2
      clear q1 q2 q3 hfd
      go_loopg [6, 39] n (fun g v i wx => ∃ k : Nat, k ≤ n ∧ g + k = n ∧ i = .int .i64 k ∧ AtWord w wx m p a n cap none 0 [] v (headW m p ++ wordsR m rs k))
      case atStart => exact ⟨0, Nat.zero_le _, rfl, rfl, by simpa [wordsR_zero] using F.out⟩
      case round =>
        obtain ⟨k, hk, hgk, rfl, hF⟩ := hrel
        clear F
        have F := Lib.hid hF
        clear hF
        have hhl := headW_len m p m1 m8 ⟨p1, p2⟩
        have hwl := wordsR_len k (by rw [HL.out]; exact hk) HS.out
        by_cases hlt : k < n
        · obtain ⟨b, off, rfl, hbl, hcl⟩ := R.out.cells (Nat.lt_of_le_of_lt (Nat.zero_le _) hlt)
          have hC : Cells8 wr b (off + k * 8) (rowAt rs k) := fun i hi => (F.out.bel.cell (by exact hbl)).trans (hcl k hlt i hi)
          clear hbl hcl
          have HR8 := Lib.hid (H8.out.at (j := k) (by rw [HL.out]; exact hlt))
          obtain ⟨row, hrow⟩ : ∃ row, row = rowAt rs k := ⟨_, rfl⟩
          have SR : Hid (Sim m row) := Lib.hid (by rw [hrow]; exact HS.out k (by rw [HL.out]; exact hlt))
          rw [← hrow] at hC HR8
          have HROW := Lib.hid hrow
          clear hrow
          obtain ⟨c0, c1, c2, c3', c4, c5, c6', c7⟩ := hC.flat
          clear hC
          obtain ⟨X, hX⟩ : ∃ X, X = headW m p ++ wordsR m rs k := ⟨_, rfl⟩
          have hxl : X.length ≤ 80000 := by rw [hX, List.length_append]; omega
          have f0 := F.out
          rw [← hX] at f0
          have HXX := Lib.hid hX
          clear hX F
          have RI := Lib.hid (Row8.place wr .u8 row 26 wr.heap.size rfl HR8.out)
          have F := Lib.hid (f0.below ((Below.refl _ _).alloc (Nat.le_refl _) (.cells #[.int .u8 (at8 row 0), .int .u8 (at8 row 1), .int .u8 (at8 row 2), .int .u8 (at8 row 3), .int .u8 (at8 row 4), .int .u8 (at8 row 5), .int .u8 (at8 row 6), .int .u8 (at8 row 7)] 26)))
          clear f0
          obtain ⟨⟨r0, r1, r2, r3⟩, r4, r5, r6, r7⟩ := RI.out.all
          go_wp2_with fail
          refine (word_any m row SR.out _).mono ?_
          rintro e v2 ⟨a7, n7, c7', rfl, hm7, ho7, hb⟩
          clear c0 c1 c2 c3' c4 c5 c6' c7 r0 r1 r2 r3 r4 r5 r6 r7 RI
          replace F := Lib.hid (F.out.below hb)
          have hl7 := word_len SR.out
          have HO := Lib.hid ho7.reads
          obtain rfl : (takeR m [row]).length = n7 := ho7.len
          clear ho7 hb
          go_wp2_with (at_builtin; refine wpList_append_ints_at rfl _ _ 23 rfl (w.heap.size + 1) i0 Try.underlying23 hi hz0 hz1 hz2 _ _ _ rfl F.out.own _ _ _ (takeR m [row]) rfl HO.out (by omega) F.out.size ?_)
          intro v' v3 ho' hg hv
          have F2 := Lib.hid (F.out.grown ho' hg hv)
          clear ho' hg hv
          go_wp2
          go_roundg (gk - 1)
          case measure => omega
          case rel =>
            refine ⟨k + 1, by omega, by omega, by go_num, ?_⟩
            rw [wordsR_succ m rs k (by rw [HL.out]; exact hlt), ← HROW.out, ← List.append_assoc, ← HXX.out]
            exact F2.out
        · have hkn : k = n := by omega
          subst hkn
          have HE : Hid (wordN m p rs = headW m p ++ wordsR m rs k) := Lib.hid (by unfold wordN; rw [HL.out])
          obtain ⟨X, hX⟩ : ∃ X, X = headW m p ++ wordsR m rs k := ⟨_, rfl⟩
          have hxl : X.length ≤ 80000 := by rw [hX, List.length_append]; omega
          have f0 := F.out
          rw [← hX] at f0 HE
          clear hX F
          obtain ⟨a', c', rfl, ho'⟩ := f0.own.form
          have HO' := Lib.hid (ho'.mono (Nat.le_succ _))
          have B := Lib.hid f0.bel
          clear ho' f0
          by_cases h200 : X.length ≤ 200
          · have hM := HM.out
            rw [mNWord_fits HB.out (by rw [HE.out]; exact h200)] at hM
            obtain ⟨rfl, rfl⟩ := Prod.mk.inj hM
            clear hM HM
            go_wp2
            go_ret2
            exact ⟨a', _, c', rfl, by omega, by rw [HE.out]; exact HO'.out, B.out⟩
          · have hM := HM.out
            rw [mNWord_long HB.out (by rw [HE.out]; omega)] at hM
            obtain ⟨rfl, rfl⟩ := Prod.mk.inj hM
            clear hM HM
            go_wp2
            go_ret2
            exact ⟨none, 0, 0, rfl, by omega, Own.nil _ _, B.out⟩
  | false =>
    rw [mNWord_bad hB] at hM
    obtain ⟨rfl, rfl⟩ := Prod.mk.inj hM
    clear hM
    go_enter Try.func47, Try.ntmps47
    have B := Lib.hid (below1 w (.cells #[.int .i64 s, .int .i64 p, .slice a n cap] 38))
    go_wp2_with fail
    refine (implIsNormal_any s p a n cap rs _ (HR.out.alloc _) hn).mono ?_
    rw [hB]
    rintro e w1 ⟨rfl, hb⟩
    replace B := Lib.hid (below_go B.out hb B.out.size)
    clear hb
    go_wp2
    go_ret2
    exact ⟨none, 0, 0, rfl, by omega, Own.nil _ _, B.out⟩

end Go.Proofs.Ytkedkleddpnanaa

namespace Go.Proofs.Ytkedkleddpnanaa
open Go.RowKit Go.ChangeShapes

set_option maxRecDepth 100000 in
set_option maxHeartbeats 4000000 in
theorem fnExactWordOfNormal_walk {s p : Int} {a : Option Addr} {n cap : Nat} {rs : List (List Int)} {w : World} (hr : ReadsA w a n rs) (hy : BytesA rs) (hn : n ≤ maxLen) :
    Calls Try.prog 11 #[.agg #[.int .i64 s, .int .i64 p, .slice a n cap]] w fun e w' => e = .returned (.bool true) ∧ Below w.heap.size w w' := by
  have R := Lib.hid hr.old; clear hr
  have HY := Lib.hid hy; clear hy
  by_cases h20 : n ≤ 1048576
  · obtain ⟨fxs, fc, hM⟩ : ∃ fxs fc, mNWord s p rs = (fxs, fc) := ⟨_, _, rfl⟩
    have HM := Lib.hid hM; clear hM
    have t1 : (fc != fc) = false := by simp
    go_enter Try.func11, Try.ntmps11
    replace R := Lib.hid (R.out.alloc (.cells #[.int .i64 s, .int .i64 p, .slice a n cap] 33))
    have A := Lib.hid (At3.place w (.int .i64 s) (.int .i64 p) (.slice a n cap) 33 w.heap.size rfl)
    have B := Lib.hid (below1 w (.cells #[.int .i64 s, .int .i64 p, .slice a n cap] 33))
    obtain ⟨qA1, qA2, qA3⟩ := A.out.cells
    go_wp2_with fail
    refine (szNormal_fit _ _ _ _ _ _ _ (by omega) (by omega)).mono ?_
    rintro e v1 ⟨rfl, hb⟩
    clear qA1 qA2 qA3
    replace R := Lib.hid (R.out.below hb)
    replace A := Lib.hid (A.out.below hb)
    replace B := Lib.hid (below_go B.out hb B.out.size)
    have z1 : w.heap.size + 1 ≤ v1.heap.size := by have := hb.size; (try simp at this); omega
    clear hb
    obtain ⟨qA1, qA2, qA3⟩ := A.out.cells
    go_wp2_with fail
    refine (toNormal_any _ _ _ _ _ rs _ R.out.1 h20).mono ?_
    rintro e v2 ⟨a2, n2, c2, rfl, ho, hb⟩
    clear qA1 qA2 qA3
    have hn2 : n2 ≤ 1048576 := by have := ho.len; have := R.out.1.len; omega
    have O2 : Hid (OwnAIn (v1.heap.size) v2.heap.size v2 a2 n2 c2 rs) := Lib.hid (by have := ho.within; simpa using this); clear ho
    replace R := Lib.hid (R.out.below hb)
    replace A := Lib.hid (A.out.below hb)
    replace B := Lib.hid (below_go B.out hb B.out.size)
    have z2 : v1.heap.size + 0 ≤ v2.heap.size := by have := hb.size; (try simp at this); omega
    clear hb
    obtain ⟨qA1, qA2, qA3⟩ := A.out.cells
    go_wp2_with fail
    refine (specWordOfNormal_any s p _ _ _ rs _ O2.out.reads HY.out hn2 _ _ HM.out).mono ?_
    rintro e v3 ⟨b3, m3, d3, rfl, hl3, ho, hb⟩
    clear qA1 qA2 qA3
    have P3 : Hid (OwnIn (v2.heap.size) v3.heap.size v3 b3 m3 d3 fxs) := Lib.hid (by have := ho.within; simpa using this); clear ho
    replace R := Lib.hid (R.out.below hb)
    replace A := Lib.hid (A.out.below hb)
    replace O2 := Lib.hid (O2.out.below hb)
    replace B := Lib.hid (below_go B.out hb B.out.size)
    have z3 : v2.heap.size + 0 ≤ v3.heap.size := by have := hb.size; (try simp at this); omega
    clear hb
    obtain ⟨qA1, qA2, qA3⟩ := A.out.cells
    go_wp2_with fail
    refine (toNormal_any _ _ _ _ _ rs _ R.out.1 h20).mono ?_
    rintro e v4 ⟨a4, n4, c4, rfl, ho, hb⟩
    clear qA1 qA2 qA3
    have hn4 : n4 ≤ 1048576 := by have := ho.len; have := R.out.1.len; omega
    have O4 : Hid (OwnAIn (v3.heap.size) v4.heap.size v4 a4 n4 c4 rs) := Lib.hid (by have := ho.within; simpa using this); clear ho
    replace R := Lib.hid (R.out.below hb)
    replace A := Lib.hid (A.out.below hb)
    replace O2 := Lib.hid (O2.out.below hb)
    replace P3 := Lib.hid (P3.out.below hb)
    replace B := Lib.hid (below_go B.out hb B.out.size)
    have z4 : v3.heap.size + 0 ≤ v4.heap.size := by have := hb.size; (try simp at this); omega
    clear hb
    replace R := Lib.hid (R.out.alloc (.cells #[.int .i64 s, .int .i64 p, .slice a4 n4 c4] 38))
    replace A := Lib.hid (A.out.alloc (.cells #[.int .i64 s, .int .i64 p, .slice a4 n4 c4] 38))
    replace O2 := Lib.hid (O2.out.alloc (.cells #[.int .i64 s, .int .i64 p, .slice a4 n4 c4] 38))
    replace P3 := Lib.hid (P3.out.alloc (.cells #[.int .i64 s, .int .i64 p, .slice a4 n4 c4] 38))
    replace O4 := Lib.hid (O4.out.alloc (.cells #[.int .i64 s, .int .i64 p, .slice a4 n4 c4] 38))
    have X := Lib.hid (At3.place v4 (.int .i64 s) (.int .i64 p) (.slice a4 n4 c4) 38 v4.heap.size rfl)
    replace B := Lib.hid (B.out.alloc B.out.size (.cells #[.int .i64 s, .int .i64 p, .slice a4 n4 c4] 38))
    obtain ⟨qA1, qA2, qA3⟩ := A.out.cells
    obtain ⟨qX1, qX2, qX3⟩ := X.out.cells
    go_wp2_with fail
    refine (implWordOfNormal_any s p _ _ _ rs _ O4.out.reads HY.out hn4 _ _ HM.out).mono ?_
    rintro e v5 ⟨b5, m5, d5, rfl, hl5, ho, hb⟩
    clear qA1 qA2 qA3 qX1 qX2 qX3
    have P5 : Hid (OwnIn (v4.heap.size + 1) v5.heap.size v5 b5 m5 d5 fxs) := Lib.hid (by have := ho.within; simpa using this); clear ho
    replace R := Lib.hid (R.out.below hb)
    replace A := Lib.hid (A.out.below hb)
    replace O2 := Lib.hid (O2.out.below hb)
    replace P3 := Lib.hid (P3.out.below hb)
    replace O4 := Lib.hid (O4.out.below hb)
    replace X := Lib.hid (X.out.below hb)
    replace B := Lib.hid (below_go B.out hb B.out.size)
    have z5 : v4.heap.size + 1 ≤ v5.heap.size := by have := hb.size; (try simp at this); omega
    clear hb
    obtain ⟨qA1, qA2, qA3⟩ := A.out.cells
    obtain ⟨qX1, qX2, qX3⟩ := X.out.cells
    go_wp2_with fail
    refine (eqInt64S_yes _ _ _ _ _ _ fxs _ P5.out.reads P3.out.reads hl5).mono ?_
    rintro e v6 ⟨rfl, hb⟩
    clear qA1 qA2 qA3 qX1 qX2 qX3
    replace R := Lib.hid (R.out.below hb)
    replace A := Lib.hid (A.out.below hb)
    replace O2 := Lib.hid (O2.out.below hb)
    replace P3 := Lib.hid (P3.out.below hb)
    replace O4 := Lib.hid (O4.out.below hb)
    replace X := Lib.hid (X.out.below hb)
    replace P5 := Lib.hid (P5.out.below hb)
    replace B := Lib.hid (below_go B.out hb B.out.size)
    have z6 : v5.heap.size + 0 ≤ v6.heap.size := by have := hb.size; (try simp at this); omega
    clear hb
    go_wp2
    replace R := Lib.hid R.out.drew
    replace A := Lib.hid A.out.drew
    replace O2 := Lib.hid O2.out.drew
    replace P3 := Lib.hid P3.out.drew
    replace O4 := Lib.hid O4.out.drew
    replace X := Lib.hid X.out.drew
    replace P5 := Lib.hid P5.out.drew
    replace B := Lib.hid B.out.drew
    go_region_held3 (fun w' => (w'.cell? ⟨w.heap.size, 0, none⟩ = some (.int .i64 s) ∧ w'.cell? ⟨w.heap.size, 1, none⟩ = some (.int .i64 p) ∧ w'.cell? ⟨w.heap.size, 2, none⟩ = some (.slice a n cap)) ∧ (w'.cell? ⟨v4.heap.size, 0, none⟩ = some (.int .i64 s) ∧ w'.cell? ⟨v4.heap.size, 1, none⟩ = some (.int .i64 p) ∧ w'.cell? ⟨v4.heap.size, 2, none⟩ = some (.slice a4 n4 c4))) (first | with_reducible exact ⟨A.out.cells, X.out.cells⟩)
      (first
        | (go_at_call 25; refine (toNormal_any _ _ _ _ _ rs _ R.out.1 h20).mono ?_; rintro e u1 ⟨ax, nx, cx, rfl, ho6, hb⟩; have OX := Lib.hid ho6.reads; have zx1 := hb.size; replace R := Lib.hid (R.out.below hb); replace A := Lib.hid (A.out.below hb); replace O2 := Lib.hid (O2.out.below hb); replace P3 := Lib.hid (P3.out.below hb); replace O4 := Lib.hid (O4.out.below hb); replace X := Lib.hid (X.out.below hb); replace P5 := Lib.hid (P5.out.below hb); replace B := Lib.hid (below_go B.out hb B.out.size))
        | (go_at_call 27; refine (eqNormal_yesn _ _ _ _ _ _ _ _ rs _ O4.out.reads OX.out hn4).mono ?_; rintro e u2 ⟨rfl, hb⟩; have zx2 := hb.size; replace R := Lib.hid (R.out.below hb); replace A := Lib.hid (A.out.below hb); replace O2 := Lib.hid (O2.out.below hb); replace P3 := Lib.hid (P3.out.below hb); replace O4 := Lib.hid (O4.out.below hb); replace X := Lib.hid (X.out.below hb); replace P5 := Lib.hid (P5.out.below hb); replace B := Lib.hid (below_go B.out hb B.out.size)))
    have zx : v6.heap.size + 0 ≤ u2.heap.size := by (try simp at zx1 zx2); omega
    clear zx1 zx2 OX
    obtain ⟨qA1, qA2, qA3⟩ := A.out.cells
    obtain ⟨qX1, qX2, qX3⟩ := X.out.cells
    go_wp2_with fail
    refine (markNormal_in _ _ _ _ _ _ _ rs _ _ O4.out hn4 (by omega) (by omega)).mono ?_
    rintro e v7 ⟨rfl, ho, hb⟩
    clear qA1 qA2 qA3 qX1 qX2 qX3
    replace R := Lib.hid (R.out.wrote hb (by omega))
    replace A := Lib.hid (A.out.wrote hb (by omega))
    replace O2 := Lib.hid (O2.out.wrote hb (by omega))
    replace P3 := Lib.hid (P3.out.wrote hb (by omega))
    replace X := Lib.hid (X.out.wrote hb (by omega))
    replace P5 := Lib.hid (P5.out.wrote hb (by omega))
    replace B := Lib.hid (below_write B.out hb (by omega) B.out.size)
    have z7 : u2.heap.size + 0 ≤ v7.heap.size := by have := hb.size; (try simp at this); omega
    replace O4 := Lib.hid ho; clear ho hb
    obtain ⟨qA1, qA2, qA3⟩ := A.out.cells
    obtain ⟨qX1, qX2, qX3⟩ := X.out.cells
    go_wp2_with fail
    refine (eqInt64S_yes _ _ _ _ _ _ fxs _ P5.out.reads P3.out.reads hl5).mono ?_
    rintro e v8 ⟨rfl, hb⟩
    clear qA1 qA2 qA3 qX1 qX2 qX3
    replace R := Lib.hid (R.out.below hb)
    replace A := Lib.hid (A.out.below hb)
    replace O2 := Lib.hid (O2.out.below hb)
    replace P3 := Lib.hid (P3.out.below hb)
    replace X := Lib.hid (X.out.below hb)
    replace P5 := Lib.hid (P5.out.below hb)
    replace B := Lib.hid (below_go B.out hb B.out.size)
    have z8 : v7.heap.size + 0 ≤ v8.heap.size := by have := hb.size; (try simp at this); omega
    clear hb
    obtain ⟨qA1, qA2, qA3⟩ := A.out.cells
    obtain ⟨qX1, qX2, qX3⟩ := X.out.cells
    go_wp2_with fail
    refine (markInt64S_in _ _ _ _ _ fxs _ _ P5.out hl5 (by omega) (by omega)).mono ?_
    rintro e v9 ⟨rfl, ho, hb⟩
    clear qA1 qA2 qA3 qX1 qX2 qX3
    replace R := Lib.hid (R.out.wrote hb (by omega))
    replace A := Lib.hid (A.out.wrote hb (by omega))
    replace O2 := Lib.hid (O2.out.wrote hb (by omega))
    replace P3 := Lib.hid (P3.out.wrote hb (by omega))
    replace X := Lib.hid (X.out.wrote hb (by omega))
    replace B := Lib.hid (below_write B.out hb (by omega) B.out.size)
    have z9 : v8.heap.size + 0 ≤ v9.heap.size := by have := hb.size; (try simp at this); omega
    replace P5 := Lib.hid ho; clear ho hb
    have t3 : ((1 + (m5 : Int)) != (1 + (m5 : Int))) = false := by simp
    obtain ⟨qA1, qA2, qA3⟩ := A.out.cells
    obtain ⟨qX1, qX2, qX3⟩ := X.out.cells
    go_wp2_with fail
    refine (heldInt64S_be _ _ _ _ _ P5.out.reads hl5 (by omega) (by omega)).mono ?_
    rintro e v10 ⟨rfl, hb⟩
    clear qA1 qA2 qA3 qX1 qX2 qX3
    replace R := Lib.hid (R.out.below hb)
    replace A := Lib.hid (A.out.below hb)
    replace O2 := Lib.hid (O2.out.below hb)
    replace P3 := Lib.hid (P3.out.below hb)
    replace X := Lib.hid (X.out.below hb)
    replace P5 := Lib.hid (P5.out.below hb)
    replace B := Lib.hid (below_go B.out hb B.out.size)
    have z10 : v9.heap.size + 0 ≤ v10.heap.size := by have := hb.size; (try simp at this); omega
    clear hb
    obtain ⟨qA1, qA2, qA3⟩ := A.out.cells
    obtain ⟨qX1, qX2, qX3⟩ := X.out.cells
    go_wp2_with fail
    refine (toNormal_any _ _ _ _ _ rs _ R.out.1 h20).mono ?_
    rintro e v11 ⟨a11, n11, c11, rfl, ho, hb⟩
    clear qA1 qA2 qA3 qX1 qX2 qX3
    have hn11 : n11 ≤ 1048576 := by have := ho.len; have := R.out.1.len; omega
    have O11 : Hid (OwnAIn (v10.heap.size) v11.heap.size v11 a11 n11 c11 rs) := Lib.hid (by have := ho.within; simpa using this); clear ho
    replace R := Lib.hid (R.out.below hb)
    replace A := Lib.hid (A.out.below hb)
    replace O2 := Lib.hid (O2.out.below hb)
    replace P3 := Lib.hid (P3.out.below hb)
    replace X := Lib.hid (X.out.below hb)
    replace P5 := Lib.hid (P5.out.below hb)
    replace B := Lib.hid (below_go B.out hb B.out.size)
    have z11 : v10.heap.size + 0 ≤ v11.heap.size := by have := hb.size; (try simp at this); omega
    clear hb
    obtain ⟨qA1, qA2, qA3⟩ := A.out.cells
    obtain ⟨qX1, qX2, qX3⟩ := X.out.cells
    go_wp2_with fail
    refine (implWordOfNormal_any s p _ _ _ rs _ O11.out.reads HY.out hn11 _ _ HM.out).mono ?_
    rintro e v12 ⟨b12, m12, d12, rfl, hl12, ho, hb⟩
    clear qA1 qA2 qA3 qX1 qX2 qX3
    have P12 : Hid (OwnIn (v11.heap.size) v12.heap.size v12 b12 m12 d12 fxs) := Lib.hid (by have := ho.within; simpa using this); clear ho
    replace R := Lib.hid (R.out.below hb)
    replace A := Lib.hid (A.out.below hb)
    replace O2 := Lib.hid (O2.out.below hb)
    replace P3 := Lib.hid (P3.out.below hb)
    replace X := Lib.hid (X.out.below hb)
    replace P5 := Lib.hid (P5.out.below hb)
    replace O11 := Lib.hid (O11.out.below hb)
    replace B := Lib.hid (below_go B.out hb B.out.size)
    have z12 : v11.heap.size + 0 ≤ v12.heap.size := by have := hb.size; (try simp at this); omega
    clear hb
    obtain ⟨qA1, qA2, qA3⟩ := A.out.cells
    obtain ⟨qX1, qX2, qX3⟩ := X.out.cells
    go_wp2_with fail
    refine (eqInt64S_yes _ _ _ _ _ _ fxs _ P12.out.reads P3.out.reads hl12).mono ?_
    rintro e v13 ⟨rfl, hb⟩
    clear qA1 qA2 qA3 qX1 qX2 qX3
    replace R := Lib.hid (R.out.below hb)
    replace A := Lib.hid (A.out.below hb)
    replace O2 := Lib.hid (O2.out.below hb)
    replace P3 := Lib.hid (P3.out.below hb)
    replace X := Lib.hid (X.out.below hb)
    replace P5 := Lib.hid (P5.out.below hb)
    replace O11 := Lib.hid (O11.out.below hb)
    replace P12 := Lib.hid (P12.out.below hb)
    replace B := Lib.hid (below_go B.out hb B.out.size)
    have z13 : v12.heap.size + 0 ≤ v13.heap.size := by have := hb.size; (try simp at this); omega
    clear hb
    obtain ⟨qA1, qA2, qA3⟩ := A.out.cells
    obtain ⟨qX1, qX2, qX3⟩ := X.out.cells
    go_wp2_with fail
    refine (heldInt64S_be _ _ _ _ _ P5.out.reads hl5 (by omega) (by omega)).mono ?_
    rintro e v14 ⟨rfl, hb⟩
    clear qA1 qA2 qA3 qX1 qX2 qX3
    replace R := Lib.hid (R.out.below hb)
    replace A := Lib.hid (A.out.below hb)
    replace O2 := Lib.hid (O2.out.below hb)
    replace P3 := Lib.hid (P3.out.below hb)
    replace X := Lib.hid (X.out.below hb)
    replace P5 := Lib.hid (P5.out.below hb)
    replace O11 := Lib.hid (O11.out.below hb)
    replace P12 := Lib.hid (P12.out.below hb)
    replace B := Lib.hid (below_go B.out hb B.out.size)
    have z14 : v13.heap.size + 0 ≤ v14.heap.size := by have := hb.size; (try simp at this); omega
    clear hb
    go_wp2
    go_ret
    exact ⟨rfl, B.out⟩
  · have h0 : (1048576 : Int) < (n : Int) := by omega
    go_enter Try.func11, Try.ntmps11
    go_wp2_with (go_at_call 23; refine (szNormal_big _ _ _ _ _ _ _ h0 (by omega) hn).mono ?_; rintro e w1 ⟨rfl, hb1⟩)
    go_ret
    exact ⟨rfl, (below1 w _).trans (hb1.mono (by simp))⟩
end Go.Proofs.Ytkedkleddpnanaa
