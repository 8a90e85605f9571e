/- BLet, MapZ, ProM, PIn2, MatS, MatL, in one. -/
import Derived.Test.YtelmdfkcclhhjaaBurP
import Derived.Test.YtelmdfkcclhhjaaZCct
import Derived.Test.YtelmdfkcclhhjaaGAdd
import Derived.Maps.RangeRun
import Derived.Carry
import Derived.Test.YtelmdfkcclhhjaaMTm
import Derived.Test.YtelmdfkcclhhjaaPInv
import Derived.Test.YtelmdfkcclhhjaaLetters
import Derived.OwnWalk

namespace Go.Proofs.Ytelmdfkcclhhjaa
open Go.RowKit Go.ChangeShapes

theorem minus_any (x y : Int) (w : World) (hx : 0 ≤ x ∧ x < 10007) (hy : 0 ≤ y ∧ y < 10007) : Calls Try.prog 104 #[.int .i64 x, .int .i64 y] w fun e w' => e = .returned (.int .i64 ((x - y) % 10007)) ∧ w = w' := by
  have b1 : 0 ≤ oppF y ∧ oppF y < 10007 := by unfold oppF; omega
  have HO : Hid ((x + oppF y) % 10007 = (x - y) % 10007) := Lib.hid (by unfold oppF; omega)
  have m1 : 0 ≤ x + oppF y := by omega
  have m2 : x + oppF y < 1000000000 := by omega
  go_enter Try.func104, Try.ntmps104
  go_wp2_with fail
  refine (opp_any y _ hy.1 hy.2).mono ?_
  rintro e w1 ⟨rfl, rfl⟩
  go_wp2_with fail
  refine (plus_any x (oppF y) _ m1 m2).mono ?_
  rw [HO.out]
  rintro e w1 ⟨rfl, rfl⟩
  go_wp2
  go_ret
  exact ⟨rfl, rfl⟩

set_option maxRecDepth 100000 in
set_option maxHeartbeats 2000000 in
theorem burauLetter_any (d n : Nat) (t : Int) (w : World) (hd : d + 1 < n) (hn : n ≤ 8) (ht : 0 < t ∧ t < 10007) :
    Calls Try.prog 76 #[.int .i64 ((d : Int) + 1), .int .i64 n, .int .i64 t] w (RetMxC w n n (burF t d)) := by
  go_enter Try.func76, Try.ntmps76
  go_wp2_with fail
  refine (diagonalMatrix_cap n 1 _ (by omega)).mono ?_
  rintro e w1 ⟨g, b, s, c, cap, rfl, hcap, hO, hb⟩
  have OO := Lib.hid hO; have BB := Lib.hid hb
  clear hO hb
  have wd : IntKind.i64.wrap ((d : Int) + 1 - 1) = (d : Int) := (IntWalk.i64_in _ (by omega)).trans (by omega)
  have wd2 : IntKind.i64.wrap (d : Int) = (d : Int) := IntWalk.i64_in _ (by omega)
  have d0 : 0 ≤ (d : Int) + 1 := by omega
  have d1 : (d : Int) + 1 < (n : Int) := by omega
  have d2 : (d : Int) < (n : Int) := by omega
  have d3 : ((d : Int) + 1).toNat = d + 1 := by omega
  go_upto_region 2 with fail
  obtain ⟨v, hvv⟩ : ∃ v, v = (1 - t) % 10007 := ⟨_, rfl⟩
  have HV := Lib.hid hvv; clear hvv
  have M1 : Hid (∀ W, Calls Try.prog 104 #[.int .i64 1, .int .i64 t] W fun e w' => e = .returned (.int .i64 v) ∧ W = w') := Lib.hid fun W => by rw [HV.out]; exact minus_any 1 t W ⟨by decide, by decide⟩ ⟨Int.le_of_lt ht.1, ht.2⟩
  go_cut [] from 10 to 27 (fun wx => OMx w.heap.size wx g n (fun _ => n) b s c (updF (updF (diaF 1) d d v) d (d + 1) t) ∧ Below w.heap.size w wx)
  case first =>
    have c0 := OO.out.hd (d) (by omega)
    have x0 := OO.out.el (d) d (by omega) (by omega)
    have x1 := OO.out.el (d) (d + 1) (by omega) hd
    have f0 := OO.out.fr (d) (s (d) + d) (by omega)
    have f1 := OO.out.fr (d) (s (d) + (d + 1)) (by omega)
    have z1 : w.heap.size ≤ b (d) := by have := (OO.out.lb (d) (by omega)).1; have := OO.out.lg.1; omega
    have O2 := Lib.hid (((OO.out.set (i := d) (j := d) (by omega) (by omega) (v)).set (i := d) (j := d + 1) (by omega) hd (t)).below (Below.refl _ _).drew)
    have B2 := Lib.hid (((BB.out.setCell (p := ⟨b (d), s (d) + d, none⟩) z1 (.int .i64 (v))).setCell (p := ⟨b (d), s (d) + (d + 1), none⟩) z1 (.int .i64 (t))).drew)
    obtain ⟨p, hp⟩ : ∃ p, p = b (d) := ⟨_, rfl⟩
    obtain ⟨sp, hsp⟩ : ∃ p, p = s (d) := ⟨_, rfl⟩
    obtain ⟨cp, hcp⟩ : ∃ x, x = c (d) := ⟨_, rfl⟩
    rw [← hp, ← hcp, ← hsp] at c0
    rw [← hp, ← hsp] at x0 x1 f0 f1 O2 B2
    rw [← hp] at z1
    clear hp hsp hcp
    go_region_with (go_at_call 104; refine (M1.out _).mono ?_; rintro e w' ⟨rfl, rfl⟩)
    all_goals
      go_wp2_with fail
      go_meet
      exact ⟨O2.out, B2.out⟩
  case rest =>
    obtain ⟨hO, hb⟩ := hcut
    obtain ⟨V, hV⟩ : ∃ x, x = wc := ⟨_, rfl⟩
    subst hV
    clear OO BB M1
    have OO := Lib.hid hO; have BB := Lib.hid hb
    clear hO hb
    go_upto_region 3 with fail
    go_cut [] from 28 to 40 (fun wx => OMx w.heap.size wx g n (fun _ => n) b s c (updF (updF (updF (updF (diaF 1) d d v) d (d + 1) t) (d + 1) d 1) (d + 1) (d + 1) 0) ∧ Below w.heap.size w wx)
    case first =>
      have c0 := OO.out.hd (d + 1) (by omega)
      have x0 := OO.out.el (d + 1) d (by omega) (by omega)
      have x1 := OO.out.el (d + 1) (d + 1) (by omega) hd
      have f0 := OO.out.fr (d + 1) (s (d + 1) + d) (by omega)
      have f1 := OO.out.fr (d + 1) (s (d + 1) + (d + 1)) (by omega)
      have z1 : w.heap.size ≤ b (d + 1) := by have := (OO.out.lb (d + 1) (by omega)).1; have := OO.out.lg.1; omega
      have O2 := Lib.hid (((OO.out.set (i := d + 1) (j := d) (by omega) (by omega) (1)).set (i := d + 1) (j := d + 1) (by omega) hd (0)).below (Below.refl _ _).drew)
      have B2 := Lib.hid (((BB.out.setCell (p := ⟨b (d + 1), s (d + 1) + d, none⟩) z1 (.int .i64 (1))).setCell (p := ⟨b (d + 1), s (d + 1) + (d + 1), none⟩) z1 (.int .i64 (0))).drew)
      obtain ⟨p, hp⟩ : ∃ p, p = b (d + 1) := ⟨_, rfl⟩
      obtain ⟨sp, hsp⟩ : ∃ p, p = s (d + 1) := ⟨_, rfl⟩
      obtain ⟨cp, hcp⟩ : ∃ x, x = c (d + 1) := ⟨_, rfl⟩
      rw [← hp, ← hcp, ← hsp] at c0
      rw [← hp, ← hsp] at x0 x1 f0 f1 O2 B2
      rw [← hp] at z1
      clear hp hsp hcp
      go_region_with (fail)
      all_goals
        go_wp2_with fail
        go_meet
        exact ⟨O2.out, B2.out⟩
    case rest =>
      obtain ⟨hO, hb⟩ := hcut
      rw [HV.out] at hO
      have OX := Lib.hid hO; have BX := Lib.hid hb
      clear hO hb OO BB
      go_wp2
      go_ret
      exact ⟨g, b, s, c, cap, rfl, hcap, OX.out, BX.out⟩

end Go.Proofs.Ytelmdfkcclhhjaa

namespace Go.Proofs.Ytelmdfkcclhhjaa
open Go.RowKit Go.ChangeShapes
open Go.ChangeMaps (setBlock)

def zents : Nat → List (Int × Value) → List MapEntry
  | _, [] => []
  | i, x :: L => { key := .int .i64 x.1, val := x.2, born := i } :: zents (i + 1) L

/-- The block b is a map with these entries. -/
def MapZ (w : World) (b : Nat) (L : List (Int × Value)) : Prop := w.heap[b]? = some (.map (zents 0 L).toArray L.length)

theorem MapZ.lt {w : World} {b : Nat} {L : List (Int × Value)} (h : MapZ w b L) : b < w.heap.size := (Array.getElem?_eq_some_iff.1 h).1
theorem MapZ.heap {w w' : World} {b : Nat} {L : List (Int × Value)} (h : MapZ w b L) (hb : w'.heap[b]? = w.heap[b]?) : MapZ w' b L := hb.trans h
theorem MapZ.below {w w' : World} {b : Nat} {L : List (Int × Value)} (h : MapZ w b L) (k : Below w.heap.size w w') : MapZ w' b L := h.heap (k.block b h.lt)

/-- Where a key stands. -/
def findZ (k : Int) : List (Int × Value) → Nat → Option (Nat × Value)
  | [], _ => none
  | x :: L, i => if k = x.1 then some (i, x.2) else findZ k L (i + 1)

theorem findNowZ (k : Int) (L : List (Int × Value)) (i j : Nat) : Instr.findNow (.int .i64) (.int .i64 k) (zents j L) i = some (findZ k L i) := by
  induction L generalizing i j with
  | nil => rfl
  | cons x L ih =>
    unfold zents Instr.findNow findZ
    simp only [Instr.sameNow, if_true]
    by_cases e : k = x.1
    · rw [if_pos e, show (k == x.1) = true by simp [e]]
    · rw [if_neg e, show (k == x.1) = false by simp [e]]
      exact ih (i + 1) (j + 1)

theorem run_findZ (k : Int) (L : List (Int × Value)) (w : World) : (Instr.findKey 2 (.int .i64 k) (zents 0 L)).run Try.prog w = .ok (findZ k L 0) w := by
  have hu : ∀ w, (underlying 2).run Try.prog w = .ok (.int .i64) w := fun _ => by kernel_rfl
  unfold Instr.findKey
  simp only [Sem.run_bind, hu, Result.andThen_ok, findNowZ, Sem.run_pure]

theorem checkZ_at (e : Bool) (d : Nat) (k : Int) (w : World) : (Instr.checkKey e (d + 1) 2 (.int .i64 k)).run Try.prog w = .ok () w := by
  have he : ∀ w, (underlying 2).run Try.prog w = .ok (.int .i64) w := fun _ => by kernel_rfl
  simp [Instr.checkKey, he]

theorem checkZ (e : Bool) (k : Int) (w : World) : (Instr.checkKey e 10000 2 (.int .i64 k)).run Try.prog w = .ok () w := checkZ_at e 9999 k w

theorem zents_snoc (L : List (Int × Value)) (x : Int × Value) (i : Nat) : zents i (L ++ [x]) = zents i L ++ [{ key := .int .i64 x.1, val := x.2, born := i + L.length }] := by
  induction L generalizing i with
  | nil => simp [zents]
  | cons y L ih =>
    simp only [List.cons_append, zents, ih, List.length_cons]
    rw [show i + 1 + L.length = i + (L.length + 1) by omega]

theorem run_updZ {w : World} {b : Nat} {L : List (Int × Value)} (h : MapZ w b L) (k : Int) (v : Value) (hn : findZ k L 0 = none) :
    (Instr.mapUpdate 101 (.map (some b)) (.int .i64 k) v).run Try.prog w = .ok () (setBlock w b (.map (zents 0 (L ++ [(k, v)])).toArray (L ++ [(k, v)]).length)) := by
  have hu : ∀ w, (underlying 101).run Try.prog w = .ok (.map 2 59) w := fun _ => by kernel_rfl
  have h' : w.heap[b]? = some (.map (zents 0 L).toArray L.length) := h
  have hf := run_findZ k L w
  rw [hn] at hf
  simp only [Instr.mapUpdate, Sem.run_bind, hu, Result.andThen_ok, MapKept.run_getObj_map h', checkZ, hf, MapKept.run_setObj_map _ h']
  rw [zents_snoc]
  simp [setBlock]

theorem run_lookZ {w : World} {b : Nat} {L : List (Int × Value)} (h : MapZ w b L) (k : Int) (ok : Bool) {i : Nat} {v : Value} (hn : findZ k L 0 = some (i, v)) :
    (Instr.lookup 101 (.map (some b)) (.int .i64 k) ok).run Try.prog w = .ok (if ok then .tuple #[v, .bool true] else v) w := by
  have hu : ∀ w, (underlying 101).run Try.prog w = .ok (.map 2 59) w := fun _ => by kernel_rfl
  have h' : w.heap[b]? = some (.map (zents 0 L).toArray L.length) := h
  have hf := run_findZ k L w
  rw [hn] at hf
  simp only [Instr.lookup, Sem.run_bind, hu, Result.andThen_ok, MapKept.run_getObj_map h', checkZ, hf, Sem.run_pure]

theorem run_missZ {w : World} {b : Nat} {L : List (Int × Value)} (h : MapZ w b L) (k : Int) (hn : findZ k L 0 = none) :
    (Instr.lookup 101 (.map (some b)) (.int .i64 k) true).run Try.prog w = .ok (.tuple #[.slice none 0 0, .bool false]) w := by
  have hu : ∀ w, (underlying 101).run Try.prog w = .ok (.map 2 59) w := fun _ => by kernel_rfl
  have hz : ∀ w, (zeroValue 59).run Try.prog w = .ok (.slice none 0 0) w := fun _ => by kernel_rfl
  have h' : w.heap[b]? = some (.map (zents 0 L).toArray L.length) := h
  have hf := run_findZ k L w
  rw [hn] at hf
  simp only [Instr.lookup, Sem.run_bind, hu, Result.andThen_ok, MapKept.run_getObj_map h', checkZ, hf, hz, Sem.run_pure, if_true]

theorem findZ_snoc (k : Int) (L : List (Int × Value)) (x : Int × Value) (i : Nat) : findZ k (L ++ [x]) i = match findZ k L i with
    | some r => some r
    | none => if k = x.1 then some (i + L.length, x.2) else none := by
  induction L generalizing i with
  | nil => simp [findZ]
  | cons y L ih =>
    simp only [List.cons_append, findZ, ih, List.length_cons]
    by_cases e : k = y.1
    · simp [e]
    · rw [if_neg e, if_neg e, show i + 1 + L.length = i + (L.length + 1) by omega]

theorem setBlockZ_same {w : World} {b : Nat} (o : Obj) (hb : b < w.heap.size) : (setBlock w b o).heap[b]? = some o := by simp [setBlock, hb]
theorem setBlockZ_other {w : World} {b g : Nat} (o : Obj) (h : g ≠ b) : (setBlock w b o).heap[g]? = w.heap[g]? := by
  simp [setBlock, Array.getElem?_setIfInBounds_ne (Ne.symm h)]
theorem setBlockZ_size (w : World) (b : Nat) (o : Obj) : (setBlock w b o).heap.size = w.heap.size := by simp [setBlock]

theorem MapZ.put {w : World} {b : Nat} {L : List (Int × Value)} (h : MapZ w b L) (x : Int × Value) : MapZ (setBlock w b (.map (zents 0 (L ++ [x])).toArray (L ++ [x]).length)) b (L ++ [x]) := setBlockZ_same _ h.lt

end Go.Proofs.Ytelmdfkcclhhjaa

namespace Go.Proofs.Ytelmdfkcclhhjaa
open Go.RowKit Go.ChangeShapes

/-- The products of the first matrices. -/
def prF (m : Nat) (f0 : Nat → Nat → Int) (fs : Nat → Nat → Nat → Int) : Nat → Nat → Nat → Int
  | 0 => f0
  | j + 1 => mulF m (prF m f0 fs j) (fs j)

theorem prF_rem {m : Nat} {f0 : Nat → Nat → Int} (h : Rem m m f0) (fs : Nat → Nat → Nat → Int) : ∀ j, Rem m m (prF m f0 fs j)
  | 0 => h
  | _ + 1 => mulF_rem _ _ _

theorem MxV.below {w w' : World} {v : Value} {m k : Nat} {f : Nat → Nat → Int} (h : MxV w v m k f) (q : Below w.heap.size w w') : MxV w' v m k f := by
  obtain ⟨g, b, s, c, cap, rfl, hr⟩ := h
  exact ⟨g, b, s, c, cap, rfl, hr.below q⟩

set_option maxRecDepth 100000 in
set_option maxHeartbeats 2000000 in
theorem productOfM_any (one : Value) (f0 : Nat → Nat → Int) (a : Option Addr) (n m cap : Nat) (fs : Nat → Nat → Nat → Int) (w : World) (h1 : MxV w one m m f0) (h0 : Rem m m f0) (ha : n = 0 ∨ ∃ g o, a = some ⟨g, o, none⟩ ∧ ∀ j, j < n → ∃ v, w.cell? ⟨g, o + j, none⟩ = some v ∧ MxV w v m m (fs j)) (hf : ∀ j, j < n → Rem m m (fs j)) (hm : m ≤ 28) (hn : n ≤ 1048576) :
    Calls Try.prog 103 #[one, .slice a n cap] w fun e w' => ∃ v, e = .returned v ∧ MxV w' v m m (prF m f0 fs n) ∧ Below w.heap.size w w' := by
  have HA := Lib.hid ha; have HF := Lib.hid hf; have H0 := Lib.hid h0; have H1 := Lib.hid h1
  clear ha hf h0 h1
  go_enter Try.func103, Try.ntmps103
  go_wp2
  go_loopw [5, 11] (fun pv jv wr => ∃ j : Nat, j ≤ n ∧ jv = .int .i64 j ∧ MxV wr pv m m (prF m f0 fs j) ∧ Below w.heap.size w wr) (fun _ jv _ => n - (intOf jv).toNat)
  case atStart => exact ⟨0, Nat.zero_le _, rfl, H1.out, Below.refl _ _⟩
  case round =>
    obtain ⟨j, hj, rfl, hP, hb⟩ := hrel
    have BB := Lib.hid hb
    obtain ⟨W, hW⟩ : ∃ x, x = wr := ⟨_, rfl⟩
    subst hW
    clear hb H1
    by_cases hlt : j < n
    · obtain ⟨g, o, rfl, hc⟩ := HA.out.resolve_left (by omega)
      obtain ⟨v, hv, hV⟩ := hc j hlt
      have hz := World.block_lt_of_cell? _ _ hv
      have c0 : W.cell? ⟨g, o + j, none⟩ = some v := (BB.out.cell (p := ⟨g, o + j, none⟩) hz).trans hv
      obtain ⟨gv, bv, sv, cv, kv, rfl, hRv⟩ := hV.below BB.out
      obtain ⟨gp, bp, sp, cp, kp, rfl, hRp⟩ := hP
      have RV := Lib.hid hRv; have RP := Lib.hid hRp
      have HR := Lib.hid (HF.out j hlt); have HP := Lib.hid (prF_rem H0.out fs j)
      have zb := BB.out.size
      clear hRv hRp hc hv hz hV
      have j1' : (j : Int) < (n : Int) := by omega
      have j0' : 0 ≤ (j : Int) := by omega
      go_wp2_with fail
      refine (mxTimes_any gp gv m kp kv bp sp cp bv sv cv (prF m f0 fs j) (fs j) W RP.out RV.out hm HP.out HR.out).mono ?_
      rintro e w2 ⟨g2, b2, s2, c2, cp2, rfl, hO, hb⟩
      have PX : Hid (MxV w2 (.slice (some ⟨g2, 0, none⟩) m cp2) m m (prF m f0 fs (j + 1))) := Lib.hid ⟨g2, b2, s2, c2, cp2, rfl, hO.toRMx⟩
      have BX := Lib.hid (below_go BB.out hb zb)
      clear hO hb
      go_wp2
      go_roundw
      case rel => exact ⟨j + 1, by omega, by go_num, PX.out, BX.out⟩
      case measure => simp [intOf]; omega
    · have hjn : j = n := by omega
      subst hjn
      have PP := Lib.hid hP; clear hP
      go_wp2
      go_ret
      exact ⟨_, rfl, PP.out, BB.out⟩

end Go.Proofs.Ytelmdfkcclhhjaa

namespace Go.Proofs.Ytelmdfkcclhhjaa
open Go.RowKit Go.ChangeShapes

/-- What the program's inverse gives: its own blocks. -/
def RetInvQ (w : World) (m : Nat) (A : Nat → Nat → Int) (e : Ending) (w' : World) : Prop :=
  Below w.heap.size w w' ∧ ((e = .returned (.tuple #[.slice none 0 0, .bool false]) ∧ Stuck m (2 * m) (augF m A)) ∨
    ∃ d h g b s c cap, e = .returned (.tuple #[.slice (some ⟨g, 0, none⟩) m cap, .bool true]) ∧ GJ m (2 * m) (augF m A) m h d ∧ RMx w' g m (fun _ => m) b s c (fun i t => h i (m + t)) ∧ w.heap.size ≤ g ∧ ∀ i, i < m → w.heap.size ≤ b i)

set_option maxRecDepth 100000 in
set_option maxHeartbeats 4000000 in
theorem mxInvQ_any (ga m ca : Nat) (ba sa ka : Nat → Nat) (A : Nat → Nat → Int) (w : World) (ha : RMx w ga m (fun _ => m) ba sa ka A) (h1 : 1 ≤ m) (hm : m ≤ 28) (hA : Rem m m A) :
    Calls Try.prog 61 #[.slice (some ⟨ga, 0, none⟩) m ca] w (RetInvQ w m A) := by
  have HA := Lib.hid ha; have HR := Lib.hid (augF_rem hA)
  clear ha hA
  go_enter Try.func61, Try.ntmps61
  go_wp2_with fail
  refine (diagonalMatrix_cap m 1 _ hm).mono ?_
  rintro e w1 ⟨g, b0, s0, c0, cp, rfl, hcp, hO, hb⟩
  have O0 : Hid (OMx w.heap.size w1 g m (bothK m 0) b0 s0 c0 (bothF m A 0)) := Lib.hid ((hO.congr fun i j _ _ => bothF_zero m A i j).congrK fun i _ => by unfold bothK; rw [if_neg (by omega)])
  have B0 := Lib.hid hb
  have hlg := hO.lg
  clear hO hb
  go_wp2
  go_loopw [16] (fun xv wr => ∃ x : Nat, x ≤ m ∧ xv = .int .i64 x ∧ (∃ b s c, OMx w.heap.size wr g m (bothK m x) b s c (bothF m A x) ∧ ∀ y, y < x → 2 * m ≤ c y) ∧ w1.heap.size ≤ wr.heap.size ∧ Below w.heap.size w wr) (fun xv _ => m - (intOf xv).toNat)
  case atStart => exact ⟨0, Nat.zero_le _, rfl, ⟨_, _, _, O0.out, fun y hy => absurd hy (Nat.not_lt_zero y)⟩, Nat.le_refl _, B0.out⟩
  case round =>
    obtain ⟨x, hx, rfl, ⟨b, s, c, hO, hcc⟩, hzr, hb⟩ := hrel
    clear O0 B0
    have OO := Lib.hid hO; have BB := Lib.hid hb; clear hO hb
    obtain ⟨W, hW⟩ : ∃ x, x = wr := ⟨_, rfl⟩
    subst hW
    by_cases hlt : x < m
    · have A1 := HA.out.below BB.out
      have hda : W.cell? ⟨ga, x, none⟩ = some (.slice (some ⟨ba x, sa x, none⟩) m (ka x)) := A1.hd x hlt
      have hkx : bothK m x x = m := by unfold bothK; rw [if_neg (by omega)]
      have hdo := OO.out.hd x hlt
      rw [hkx] at hdo
      have HU : Hid (∀ j, j < m → W.cell? ⟨ba x, sa x + j, none⟩ = some (.int .i64 (A x j))) := Lib.hid fun j hj => A1.el x j hlt hj
      have HV : Hid (∀ j, j < m → W.cell? ⟨b x, s x + j, none⟩ = some (.int .i64 (diaF 1 x j))) := Lib.hid fun j hj => by
        have := OO.out.el x j hlt (by rw [hkx]; exact hj)
        rwa [show bothF m A x x j = diaF 1 x j by unfold bothF; rw [if_neg (by omega)]] at this
      obtain ⟨bx, hbx⟩ : ∃ z, z = ba x := ⟨_, rfl⟩
      obtain ⟨sx, hsx⟩ : ∃ z, z = sa x := ⟨_, rfl⟩
      obtain ⟨cx, hcx⟩ : ∃ z, z = ka x := ⟨_, rfl⟩
      obtain ⟨bo, hbo⟩ : ∃ z, z = b x := ⟨_, rfl⟩
      obtain ⟨so, hso⟩ : ∃ z, z = s x := ⟨_, rfl⟩
      obtain ⟨co, hco⟩ : ∃ z, z = c x := ⟨_, rfl⟩
      rw [← hbx, ← hsx] at hda HU
      rw [← hcx] at hda
      rw [← hbo, ← hso] at hdo HV
      rw [← hco] at hdo
      clear hbx hsx hcx hbo hso hco A1 hkx
      have x0' : 0 ≤ (x : Int) := by omega
      have x1' : (x : Int) < (m : Int) := by omega
      have zW := BB.out.size
      have hbA := (Below.refl W.heap.size W).alloc (Nat.le_refl _) (.cells #[.slice (some ⟨bx, sx, none⟩) m cx, .slice (some ⟨bo, so, none⟩) m co] 72)
      have O2 := Lib.hid (OO.out.below hbA)
      have B2 := Lib.hid (BB.out.trans (hbA.mono zW))
      have HU2 : Hid (∀ j, j < m → (W.alloc (.cells #[.slice (some ⟨bx, sx, none⟩) m cx, .slice (some ⟨bo, so, none⟩) m co] 72)).cell? ⟨bx, sx + j, none⟩ = some (.int .i64 (A x j))) := Lib.hid fun j hj => (hbA.cell (World.block_lt_of_cell? _ _ (HU.out j hj))).trans (HU.out j hj)
      have HV2 : Hid (∀ j, j < m → (W.alloc (.cells #[.slice (some ⟨bx, sx, none⟩) m cx, .slice (some ⟨bo, so, none⟩) m co] 72)).cell? ⟨bo, so + j, none⟩ = some (.int .i64 (diaF 1 x j))) := Lib.hid fun j hj => (hbA.cell (World.block_lt_of_cell? _ _ (HV.out j hj))).trans (HV.out j hj)
      have hdV := (hbA.cell (p := ⟨g, x, none⟩) OO.out.lg.2).trans hdo
      clear hbA OO BB HU HV
      go_wp2_with fail
      obtain ⟨V, hV⟩ : ∃ V, V = W.alloc (.cells #[.slice (some ⟨bx, sx, none⟩) m cx, .slice (some ⟨bo, so, none⟩) m co] 72) := ⟨_, rfl⟩
      have zV : V.heap.size = W.heap.size + 1 := by rw [hV]; simp
      have cV0 : V.cell? ⟨W.heap.size, 0, none⟩ = some (.slice (some ⟨bx, sx, none⟩) m cx) := by rw [hV]; simp
      have cV1 : V.cell? ⟨W.heap.size, 1, none⟩ = some (.slice (some ⟨bo, so, none⟩) m co) := by rw [hV]; simp
      rw [← hV] at O2 B2 HU2 HV2 hdV ⊢
      clear hV
      refine (concatZ_any W.heap.size bx sx cx bo so co m m (A x) (diaF 1 x) _ (by omega) cV0 cV1 HU2.out HV2.out (by omega) (by omega) (by omega) (by omega)).mono ?_
      rintro e w5 ⟨gc, cc, rfl, hown, hb⟩
      have z5 := hb.size
      have hgc := World.ownsRow.lt hown gc rfl
      have hcap := ownsRow_cap hown
      have O5 := O2.out.below hb
      have hlx : ∀ y, y < m → b y < gc := fun y hy => by have := (O2.out.lb y hy).2; omega
      have hg5 := O5.lg
      have hrp := O5.repl (f' := bothF m A (x + 1)) (i := x) (bn := gc) (sn := 0) (cn := cc) (kn := m + m) hlt (by have := O2.out.lg.2; omega) hgc.2 (fun y hy _ => by have := hlx y hy; omega) (fun j => World.ownsRow.frozenAt hown j) (fun j hj => by
        rw [Nat.zero_add, World.ownsRow.cellAt hown j (by omega), rowV_both hj]
        unfold bothF
        rw [if_pos (Nat.lt_succ_self x)]) (fun y j hy hne _ => by
        unfold bothF
        by_cases e : y < x
        · rw [if_pos e, if_pos (by omega)]
        · rw [if_neg e, if_neg (by omega)])
      have H6 : Hid (∃ b s c, OMx w.heap.size (w5.setCell ⟨g, x, none⟩ (.slice (some ⟨gc, 0, none⟩) (m + m) cc)) g m (bothK m (x + 1)) b s c (bothF m A (x + 1)) ∧ ∀ y, y < x + 1 → 2 * m ≤ c y) := Lib.hid ⟨_, _, _, hrp.congrK fun y _ => by
        unfold bothK
        by_cases e : y = x
        · rw [if_pos e, if_pos (by omega)]; omega
        · rw [if_neg e]
          by_cases e2 : y < x
          · rw [if_pos e2, if_pos (by omega)]
          · rw [if_neg e2, if_neg (by omega)], fun y hy => by
        by_cases e : y = x
        · simp only [if_pos e]; omega
        · simp only [if_neg e]; exact hcc y (by omega)⟩
      have B6 := Lib.hid ((below_go B2.out hb B2.out.size).setCell (p := ⟨g, x, none⟩) hlg.1 (.slice (some ⟨gc, 0, none⟩) (m + m) cc))
      have cd5 : w5.cell? ⟨g, x, none⟩ = some (.slice (some ⟨bo, so, none⟩) m co) := (hb.cell (p := ⟨g, x, none⟩) O2.out.lg.2).trans hdV
      have fd5 := O5.fg x
      have z6 : w1.heap.size ≤ (w5.setCell ⟨g, x, none⟩ (.slice (some ⟨gc, 0, none⟩) (m + m) cc)).heap.size := by simp [World.setCell]; omega
      clear hrp hown hb O5 hdo hda hlx hdV hcap
      go_wp2
      go_roundw
      case rel => exact ⟨x + 1, by omega, by go_num, H6.out, z6, B6.out⟩
      case measure => simp [intOf]; omega
    · have hxm : m = x := by omega
      subst hxm
      have O2 := Lib.hid ((OO.out.congrK (K' := fun _ => 2 * m) fun y hy => by unfold bothK; rw [if_pos hy]).congr (f' := augF m A) fun y j hy _ => by unfold bothF; rw [if_pos hy])
      have zW := BB.out.size
      clear OO
      go_wp2_with fail
      refine (solve_any w.heap.size g m cp (2 * m) b s c (augF m A) W O2.out HR.out (by omega) hcp hm (by omega) zW).mono ?_
      rintro e w3 ⟨d, rfl, hb3, hr⟩
      have B3 := Lib.hid (BB.out.trans hb3)
      rcases hr with ⟨rfl, hst⟩ | ⟨hd, h, hJ, hO⟩
      · have ST := Lib.hid hst
        clear hst hb3
        go_wp2
        go_ret2
        exact ⟨B3.out, .inl ⟨rfl, ST.out⟩⟩
      · have t0 : (d == 0) = false := by simp; omega
        have J3 := Lib.hid hJ; have O3 := Lib.hid hO
        have HB3 := Lib.hid hO.toRMx
        have HLG := Lib.hid hO.lg.1
        clear hJ hO hb3 O2
        go_wp2
        have hfg := O3.out.fg
        have hlb3 := O3.out.lb
        have HLB := Lib.hid (fun y (hy : y < m) => (hlb3 y hy).1)
        have HFG := Lib.hid hfg
        have HHD : Hid (∀ y, y < m → w3.cell? ⟨g, y, none⟩ = some (.slice (some ⟨b y, s y, none⟩) (2 * m) (c y))) := Lib.hid fun y hy => O3.out.hd y hy
        have HCC := Lib.hid hcc
        clear hfg hlb3 O3 hcc t0
        go_loopw [37] (fun xv wr => ∃ x : Nat, x ≤ m ∧ xv = .int .i64 x ∧ (∀ y, y < m → wr.cell? ⟨g, y, none⟩ = some (if y < x then .slice (some ⟨b y, s y + m, none⟩) m (c y - m) else .slice (some ⟨b y, s y, none⟩) (2 * m) (c y))) ∧ (∀ j, wr.frozen? ⟨g, j, none⟩ = false) ∧ (∀ u, u ≠ g → wr.heap[u]? = w3.heap[u]?) ∧ Below w.heap.size w wr) (fun xv _ => m - (intOf xv).toNat)
        case atStart => exact ⟨0, Nat.zero_le _, rfl, fun y hy => by rw [if_neg (Nat.not_lt_zero y)]; exact HHD.out y hy, HFG.out, fun _ _ => rfl, B3.out⟩
        case round =>
          obtain ⟨x, hx, rfl, hhd, hfz, hhp, hb⟩ := hrel
          have HD := Lib.hid hhd; have FZ := Lib.hid hfz; have HP := Lib.hid hhp; have B5 := Lib.hid hb
          clear B3 hhd hfz hhp hb
          obtain ⟨W5, hW5⟩ : ∃ x, x = wr := ⟨_, rfl⟩
          subst hW5
          by_cases hlx : x < m
          · have x0' : 0 ≤ (x : Int) := by omega
            have x1' : (x : Int) < (m : Int) := by omega
            have hdx := HD.out x hlx
            rw [if_neg (Nat.lt_irrefl x)] at hdx
            have hcx := HCC.out x hlx
            have l0 : 0 ≤ (m : Int) := by omega
            have l1 : (m : Int) ≤ ((2 * m : Nat) : Int) := by omega
            have l2 : (m : Int) ≤ (c x : Int) := by omega
            have l3 : ((2 * m : Nat) : Int) ≤ (c x : Int) := by omega
            have l4 : 2 * m - m = m := by omega
            have hfx := FZ.out x
            have zg5 := World.block_lt_of_cell? _ _ hdx
            have HX : Hid (∀ v, v = Value.slice (some ⟨b x, s x + m, none⟩) m (c x - m) → (∀ y, y < m → (W5.setCell ⟨g, x, none⟩ v).cell? ⟨g, y, none⟩ = some (if y < x + 1 then .slice (some ⟨b y, s y + m, none⟩) m (c y - m) else .slice (some ⟨b y, s y, none⟩) (2 * m) (c y))) ∧ (∀ j, (W5.setCell ⟨g, x, none⟩ v).frozen? ⟨g, j, none⟩ = false) ∧ (∀ u, u ≠ g → (W5.setCell ⟨g, x, none⟩ v).heap[u]? = w3.heap[u]?) ∧ Below w.heap.size w (W5.setCell ⟨g, x, none⟩ v)) := Lib.hid fun v hv => by
              subst hv
              refine ⟨fun y hy => ?_, fun j => by rw [World.frozen?_setCell]; exact FZ.out j, fun u hu => (Below.heap_setCell W5 _ _ u hu).trans (HP.out u hu), B5.out.setCell (p := ⟨g, x, none⟩) hlg.1 _⟩
              by_cases e : y = x
              · subst e
                rw [if_pos (Nat.lt_succ_self y)]
                exact World.cell?_setCell_same _ _ _ hdx
              · rw [World.cell?_setCell_other _ _ _ _ (by intro e3; injection e3 with e4 e5; omega), HD.out y hy]
                by_cases e2 : y < x
                · rw [if_pos e2, if_pos (by omega)]
                · rw [if_neg e2, if_neg (by omega)]
            obtain ⟨bx, hbx⟩ : ∃ z, z = b x := ⟨_, rfl⟩
            obtain ⟨sx, hsx⟩ : ∃ z, z = s x := ⟨_, rfl⟩
            obtain ⟨cx, hcx2⟩ : ∃ z, z = c x := ⟨_, rfl⟩
            rw [← hbx, ← hsx, ← hcx2] at hdx HX
            rw [← hcx2] at l2 l3
            clear hbx hsx hcx2 hcx
            go_wp2
            obtain ⟨q1, q2, q3, q4⟩ := HX.out _ rfl
            go_roundw
            case rel => exact ⟨x + 1, by omega, by go_num, q1, q2, q3, q4⟩
            case measure => simp [intOf]; omega
          · have hxm : x = m := by omega
            have RX : Hid (RMx W5 g m (fun _ => m) b (fun i => s i + m) (fun i => c i - m) (fun i t => h i (m + t))) := Lib.hid ⟨fun y hy => by
              have := HD.out y hy
              rwa [if_pos (by omega)] at this, fun y j hy hj => by
              have e1 := HB3.out.el y (m + j) hy (by omega)
              rw [← Nat.add_assoc] at e1
              exact (World.cell?_of_block (w := w3) (HP.out _ (by have := HLB.out y hy; show b y ≠ g; omega))).trans e1⟩
            clear hxm
            go_wp2
            go_ret2
            exact ⟨B5.out, .inr ⟨d, h, g, b, _, _, _, rfl, J3.out, RX.out, HLG.out, fun i hi => by have := HLB.out i hi; have := HLG.out; omega⟩⟩

end Go.Proofs.Ytelmdfkcclhhjaa

namespace Go.Proofs.Ytelmdfkcclhhjaa
open Go.RowKit Go.ChangeShapes
open Go.ChangeMaps (setBlock)

/-- The matrix of a letter. -/
noncomputable def letG (n : Nat) (G : Nat → Nat → Nat → Int) (x : Int) : Nat → Nat → Int := if x < 0 then invM n (G (-x - 1).toNat) else G (x - 1).toNat

theorem RMx.atb {w w' : World} {g m : Nat} {K b s c : Nat → Nat} {f : Nat → Nat → Int} (h : RMx w g m K b s c f) (kg : w'.heap[g]? = w.heap[g]?) (kb : ∀ i, i < m → w'.heap[b i]? = w.heap[b i]?) : RMx w' g m K b s c f :=
  ⟨fun i hi => (World.cell?_of_block (w := w) kg).trans (h.hd i hi), fun i j hi hj => (World.cell?_of_block (w := w) (kb i hi)).trans (h.el i j hi hj)⟩

/-- A matrix apart from the block gm and from the block of fv. -/
def MxK (w : World) (gm : Nat) (fv v : Value) (n : Nat) (f : Nat → Nat → Int) : Prop := ∃ g b s c cap, v = .slice (some ⟨g, 0, none⟩) n cap ∧ RMx w g n (fun _ => n) b s c f ∧ g ≠ gm ∧ (∀ i, i < n → b i ≠ gm) ∧ fv.ownBlock ≠ some g ∧ ∀ i, i < n → fv.ownBlock ≠ some (b i)

theorem MxK.mx {w : World} {gm : Nat} {fv v : Value} {n : Nat} {f : Nat → Nat → Int} (h : MxK w gm fv v n f) : MxV w v n n f := by
  obtain ⟨g, b, s, c, cap, rfl, h1, _⟩ := h
  exact ⟨g, b, s, c, cap, rfl, h1⟩

theorem MxK.go {w w' : World} {gm : Nat} {fv fv' v : Value} {n : Nat} {f : Nat → Nat → Int} (h : MxK w gm fv v n f) (hn : 1 ≤ n) (k : ∀ u, u < w.heap.size → u ≠ gm → fv.ownBlock ≠ some u → w'.heap[u]? = w.heap[u]?) (hfv : ∀ u, fv'.ownBlock = some u → fv.ownBlock = some u ∨ w.heap.size ≤ u) : MxK w' gm fv' v n f := by
  obtain ⟨g, b, s, c, cap, rfl, h1, h2, h3, h4, h5⟩ := h
  have l1 : g < w.heap.size := World.block_lt_of_cell? _ _ (h1.hd 0 (by omega))
  have l2 : ∀ i, i < n → b i < w.heap.size := fun i hi => World.block_lt_of_cell? _ _ (h1.el i 0 hi (by omega))
  refine ⟨g, b, s, c, cap, rfl, h1.atb (k g l1 h2 h4) fun i hi => k _ (l2 i hi) (h3 i hi) (h5 i hi), h2, h3, fun e => ?_, fun i hi e => ?_⟩
  · rcases hfv _ e with e2 | e2
    · exact h4 e2
    · omega
  · rcases hfv _ e with e2 | e2
    · exact h5 i hi e2
    · have := l2 i hi; omega

/-- The state: the map gm, the factors fv. -/
structure StM (B n : Nat) (lG : Int → Nat → Nat → Int) (w : World) (gm : Nat) (fv : Value) (L : List (Int × Value)) (vals : List Value) (fs : Nat → Nat → Nat → Int) (j : Nat) : Prop where
  mp : MapZ w gm L
  sy : ∀ k, findZ k L 0 = none → findZ (-k) L 0 = none
  kn : ∀ k i v, findZ k L 0 = some (i, v) → MxK w gm fv v n (lG k)
  ow : w.ownsRow B 59 1 fv j vals
  fa : ∀ i, i < j → ∃ v, vals[i]? = some v ∧ MxK w gm fv v n (fs i)
  df : fv.ownBlock ≠ some gm
  lo : B ≤ gm

theorem StM.below {B n : Nat} {lG : Int → Nat → Nat → Int} {w w' : World} {gm : Nat} {fv : Value} {L : List (Int × Value)} {vals : List Value} {fs : Nat → Nat → Nat → Int} {j : Nat} (h : StM B n lG w gm fv L vals fs j) (hn : 1 ≤ n) (k : Below w.heap.size w w') : StM B n lG w' gm fv L vals fs j where
  mp := h.mp.below k
  sy := h.sy
  kn := fun x i v e => (h.kn x i v e).go hn (fun u hu _ _ => k.block u hu) fun u hu => .inl hu
  ow := ownsRow_heap h.ow fun u hu => k.block u (World.ownsRow.lt h.ow u hu).2
  fa := fun i hi => by
    obtain ⟨v, h1, h2⟩ := h.fa i hi
    exact ⟨v, h1, h2.go hn (fun u hu _ _ => k.block u hu) fun u hu => .inl hu⟩
  df := h.df
  lo := h.lo

/-- The map gets a letter, but not yet its inverse. -/
theorem MxK.put {w : World} {gm : Nat} {fv v : Value} {n : Nat} {f : Nat → Nat → Int} {o : Obj} (h : MxK w gm fv v n f) (hn : 1 ≤ n) : MxK (setBlock w gm o) gm fv v n f :=
  h.go hn (fun _ _ h1 _ => setBlockZ_other o h1) fun _ hu => .inl hu

theorem below_put {B : Nat} {w w' : World} {gm : Nat} {o : Obj} (h : Below B w w') (hg : B ≤ gm) : Below B w (setBlock w' gm o) :=
  h.trans ⟨rfl, rfl, rfl, by rw [setBlockZ_size]; exact Nat.le_refl _, fun u hu => setBlockZ_other o (by omega)⟩

/-- A factor is appended. -/
theorem StM.app {B n : Nat} {lG : Int → Nat → Nat → Int} {w w1 : World} {gm : Nat} {fv fv' v : Value} {L : List (Int × Value)} {vals : List Value} {fs : Nat → Nat → Nat → Int} {j : Nat} {o : Obj} (h : StM B n lG w gm fv L vals fs j) (hn : 1 ≤ n)
    (hv : MxK w gm fv v n (fs j)) (hown : w1.ownsRow B 59 1 fv' (j + 1) (vals ++ [v])) (hgr : (w.alloc o).grownBy w1 fv.ownBlock) (hat : ∀ u, fv'.ownBlock = some u → fv.ownBlock = some u ∨ w.heap.size ≤ u) (hlen : vals.length = j) : StM B n lG w1 gm fv' L (vals ++ [v]) fs (j + 1) := by
  have hk : ∀ u, u < w.heap.size → fv.ownBlock ≠ some u → w1.heap[u]? = w.heap[u]? := fun u hu hne => by
    rw [hgr.block u (by simp; omega) (fun e => hne e.symm)]
    exact ((Below.refl w.heap.size w).alloc (Nat.le_refl _) o).block u hu
  exact {
    mp := h.mp.heap (hk gm h.mp.lt h.df)
    sy := h.sy
    kn := fun x i u e => (h.kn x i u e).go hn (fun u hu _ h2 => hk u hu h2) hat
    ow := hown
    fa := fun i hi => by
      by_cases e : i = j
      · subst e
        exact ⟨v, by rw [List.getElem?_append_right (by omega), hlen]; simp, hv.go hn (fun u hu _ h2 => hk u hu h2) hat⟩
      · obtain ⟨u, h1, h2⟩ := h.fa i (by omega)
        exact ⟨u, by rw [List.getElem?_append_left (by omega)]; exact h1, h2.go hn (fun u hu _ h2 => hk u hu h2) hat⟩
    df := fun e => by
      rcases hat _ e with e2 | e2
      · exact h.df e2
      · have := h.mp.lt; omega
    lo := h.lo }

/-- A letter and its inverse are put into the map. -/
theorem StM.add {B n : Nat} {lG : Int → Nat → Nat → Int} {w w' : World} {gm : Nat} {fv : Value} {L : List (Int × Value)} {vals : List Value} {fs : Nat → Nat → Nat → Int} {j : Nat} {k : Int} {v1 v2 : Value} (h : StM B n lG w gm fv L vals fs j) (hn : 1 ≤ n)
    (hk : ∀ u, u < w.heap.size → u ≠ gm → w'.heap[u]? = w.heap[u]?) (m : MapZ w' gm (L ++ [(k, v1)] ++ [(-k, v2)])) (h1 : MxK w' gm fv v1 n (lG k)) (h2 : MxK w' gm fv v2 n (lG (-k))) : StM B n lG w' gm fv (L ++ [(k, v1)] ++ [(-k, v2)]) vals fs j where
  mp := m
  sy := fun x e => by
    rw [findZ_snoc, findZ_snoc] at e ⊢
    cases hL : findZ x L 0 with
    | some r => rw [hL] at e; simp at e
    | none =>
      rw [hL] at e
      rw [h.sy x hL]
      by_cases e1 : x = k
      · simp [e1] at e
      · by_cases e2 : x = -k
        · simp [e2] at e
          split at e <;> simp at e
        · have e3 : ¬ (-x = k) := by omega
          have e4 : ¬ (-x = -k) := by omega
          simp [e3, e4]
  kn := fun x i v e => by
    rw [findZ_snoc, findZ_snoc] at e
    cases hL : findZ x L 0 with
    | some r =>
      rw [hL] at e
      simp only [Option.some.injEq] at e
      exact (h.kn x i v (by rw [hL, e])).go hn (fun u hu h1 _ => hk u hu h1) fun u hu => .inl hu
    | none =>
      rw [hL] at e
      by_cases e1 : x = k
      · subst e1
        simp only [if_pos, Option.some.injEq, Prod.mk.injEq] at e
        rw [← e.2]; exact h1
      · by_cases e2 : x = -k
        · subst e2
          simp only [if_neg e1, if_pos, Option.some.injEq, Prod.mk.injEq] at e
          rw [← e.2]; exact h2
        · simp [e1, e2] at e
  ow := ownsRow_heap h.ow fun u hu => hk u (World.ownsRow.lt h.ow u hu).2 fun e => h.df (e ▸ hu)
  fa := fun i hi => by
    obtain ⟨v, h1, h2⟩ := h.fa i hi
    exact ⟨v, h1, h2.go hn (fun u hu h1 _ => hk u hu h1) fun u hu => .inl hu⟩
  df := h.df
  lo := h.lo

theorem find_two {x k : Int} {L : List (Int × Value)} {v1 v2 : Value} (hx : x = k ∨ x = -k) : ∃ i v, findZ x (L ++ [(k, v1)] ++ [(-k, v2)]) 0 = some (i, v) := by
  rw [findZ_snoc, findZ_snoc]
  cases findZ x L 0 with
  | some r => exact ⟨r.1, r.2, rfl⟩
  | none =>
    by_cases e : x = k
    · simp only [if_pos e]; exact ⟨_, _, rfl⟩
    · simp only [if_neg e, if_pos (hx.resolve_left e)]; exact ⟨_, _, rfl⟩

end Go.Proofs.Ytelmdfkcclhhjaa

namespace Go.Proofs.Ytelmdfkcclhhjaa
open Go.RowKit Go.ChangeShapes
open Go.ChangeMaps (setBlock)

theorem infoMx : (Try.prog.info? 59).map (fun i => (i.zero, i.size, i.bytes)) = some (some (.slice none 0 0), 1, 24) := by kernel_rfl

theorem one_newV (w : World) (x : Value) (t : TypeId) : ∀ j u, [x][j]? = some u → (w.alloc (.cells #[x] t)).cell? ((⟨w.heap.size, 0, none⟩ : Addr).add j) = some u := by
  intro j u hj
  match j, hj with
  | 0, hj => simp at hj; subst hj; simp [Addr.add]

theorem one_cellV (a : Option Addr) (n c : Nat) : ∀ u ∈ [Value.slice a n c], u.oneCell' = true := by
  intro u hu
  simp at hu
  subst hu
  rfl

/-- The matrices that the program multiplies. -/
noncomputable def facF (n : Nat) (G : Nat → Nat → Nat → Int) (xs : List Int) (j : Nat) : Nat → Nat → Int := letG n G (xs.getD j 0)

theorem letG_rem {n : Nat} {G : Nat → Nat → Nat → Int} (h : ∀ d, Rem n n (G d)) (x : Int) : Rem n n (letG n G x) := by
  unfold letG
  split
  · exact invM_rem (h _)
  · exact h _

set_option maxRecDepth 100000 in
set_option maxHeartbeats 4000000 in
theorem matrixOfLetters_any (F : FuncId) (caps : Array Value) (G : Nat → Nat → Nat → Int) (n lim ln cap : Nat) (ad : Option Addr) (xs : List Int) (w : World) (hr : Reads w ad ln xs) (hx : ∀ i, i < xs.length → xs.getD i 0 ≠ 0 ∧ -(lim : Int) < xs.getD i 0 ∧ xs.getD i 0 < lim) (hl : ln ≤ 200) (hn1 : 1 ≤ n) (hn : n ≤ 28) (hlim : lim ≤ 100) (hG : ∀ d, Rem n n (G d)) (hS : ∀ d, d + 1 < lim → ¬ Stuck n (2 * n) (augF n (G d)))
    (hcall : ∀ (args : Array Value) (W : World), Sem.run Try.prog (callFunc F args) W = .ok (.enter F args) W)
    (hF : ∀ d W, d + 1 < lim → Below w.heap.size w W → Calls Try.prog F (#[.int .i64 ((d : Int) + 1)] ++ caps) W (RetMxC W n n (G d))) :
    Calls Try.prog 74 #[.slice ad ln cap, .int .i64 n, .func (.func F) #[] caps] w fun e w' => ∃ v, e = .returned v ∧ MxV w' v n n (prF n (diaF 1) (facF n G xs) ln) ∧ Below w.heap.size w w' := by
  obtain ⟨i0, hi, hz0, hz1, hz2⟩ := info_parts infoMx
  have HL := Lib.hid hr.len
  have R := Lib.hid hr; have HX := Lib.hid hx; have HG := Lib.hid hG; have HS := Lib.hid hS; have HCALL := Lib.hid hcall; have HFF := Lib.hid hF
  clear hr hx hG hS hcall hF
  have hmk : (Instr.makeMap 101 none).run Try.prog w = .ok (.map (some w.heap.size)) (w.alloc (.map #[] 0)) := run_makeMap _ _
  go_enter Try.func74, Try.ntmps74
  go_wp2
  have P0 : MapZ (w.alloc (.map #[] 0)) w.heap.size [] := by unfold MapZ; exact Array.getElem?_push_size
  have S0 : Hid (StM w.heap.size n (letG n G) (w.alloc (.map #[] 0)) w.heap.size (.slice none 0 0) [] [] (facF n G xs) 0) := Lib.hid { mp := P0, sy := fun _ _ => rfl, kn := fun k i v e => by simp [findZ] at e, ow := World.ownsRow_nil _ _ _ _, fa := fun i hi => absurd hi (Nat.not_lt_zero i), df := by simp [Value.ownBlock], lo := Nat.le_refl _ }
  have B0 := Lib.hid (below1 w (.map #[] 0))
  clear hmk P0
  go_loopw [8, 17] (fun fv jv wr => ∃ j : Nat, j ≤ ln ∧ jv = .int .i64 j ∧ (∃ a cc L vals, fv = .slice a j cc ∧ StM w.heap.size n (letG n G) wr w.heap.size (.slice a j cc) L vals (facF n G xs) j) ∧ Below w.heap.size w wr) (fun _ jv _ => ln - (intOf jv).toNat)
  case atStart => exact ⟨0, Nat.zero_le _, rfl, ⟨none, 0, [], [], rfl, S0.out⟩, B0.out⟩
  case round =>
    obtain ⟨j, hj, rfl, ⟨a, cc, L, vals, rfl, hSt⟩, hb⟩ := hrel
    clear S0 B0
    have SS := Lib.hid hSt; have BB := Lib.hid hb; clear hSt hb
    obtain ⟨W, hW⟩ : ∃ x, x = wr := ⟨_, rfl⟩
    subst hW
    by_cases hlt : j < ln
    · obtain ⟨lb, off, rfl, hlb, hc⟩ := R.out.cells (by omega)
      have k0 := (BB.out.cell (p := ⟨lb, off + j, none⟩) hlb).trans (hc j hlt)
      obtain ⟨x0, x1, x2⟩ := HX.out j (by rw [HL.out]; exact hlt)
      have HFJ : Hid (facF n G xs j = letG n G (xs.getD j 0)) := Lib.hid rfl
      obtain ⟨x, hx⟩ : ∃ x, x = xs.getD j 0 := ⟨_, rfl⟩
      rw [← hx] at k0 HFJ x0 x1 x2
      clear hx hc
      have zB := BB.out.size
      have j1 : (j : Int) < (ln : Int) := by omega
      have j0 : 0 ≤ (j : Int) := by omega
      have zg := SS.out.mp.lt
      cases hfd : findZ x L 0 with
      | some r =>
        obtain ⟨i, v⟩ := r
        have hlk := fun ok => run_lookZ SS.out.mp x ok hfd
        have hl1 := hlk true
        have hl2 := hlk false
        have hvK := SS.out.kn x i v hfd
        rw [← HFJ.out] at hvK
        rw [if_pos rfl] at hl1
        rw [if_neg (by decide)] at hl2
        obtain ⟨gv, bv, sv, cv, kv, rfl, hv1⟩ := id hvK
        have VK := Lib.hid hvK
        clear hlk hvK hv1 hfd
        have DOW := Lib.hid SS.out.ow
        have HVL : Hid (vals.length = j) := Lib.hid (by have := SS.out.ow.1; omega)
        go_wp2_with (at_builtin; refine wpList_append_lies _ rfl _ _ 102 rfl w.heap.size 59 i0 (.slice none 0 0) 1 24 Try.underlying102 hi hz0 hz1 hz2 rfl (by decide) _ _ _ rfl (World.ownsRow.alloc DOW.out _) ⟨W.heap.size, 0, none⟩ 1 1 [.slice (some ⟨gv, 0, none⟩) n kv] rfl rfl (one_newV W _ _) (one_cellV _ _ _) (by decide) (by unfold maxLen; omega) (by omega) (by simp; omega) _ rfl ?_)
        intro g2 cap2 w3 hown hgrow hat hlt2
        have hb3 := grown_below (B := w.heap.size) (by omega) DOW.out hgrow
        have SX := Lib.hid (SS.out.app hn1 VK.out hown hgrow (fun u hu => by
          rcases hat with h | h
          · exact .inl (h.trans hu)
          · refine .inr ?_
            have e : g2 = u := by simpa [Value.ownBlock] using hu
            rw [← e, h]
            simp) HVL.out)
        have BX := Lib.hid (BB.out.trans hb3)
        clear hown hgrow hat hlt2 hb3 DOW
        go_wp2
        go_roundw
        case rel => exact ⟨j + 1, by omega, by go_num, ⟨_, _, _, _, rfl, SX.out⟩, BX.out⟩
        case measure => simp [intOf]; omega
      | none =>
        have hms := run_missZ SS.out.mp x hfd
        obtain ⟨d, hd⟩ : ∃ d : Nat, x * cnt x = (d : Int) + 1 := ⟨(x * cnt x - 1).toNat, by
          by_cases e : x < 0
          · rw [show cnt x = -1 from if_pos e]; omega
          · rw [show cnt x = 1 from if_neg e]; omega⟩
        have hkx : x = (d : Int) + 1 ∨ x = -((d : Int) + 1) := by
          by_cases e : x < 0
          · rw [show cnt x = -1 from if_pos e] at hd; omega
          · rw [show cnt x = 1 from if_neg e] at hd; omega
        have hdl : d + 1 < lim := by omega
        have hfk : findZ ((d : Int) + 1) L 0 = none := by
          rcases hkx with e | e
          · rw [← e]; exact hfd
          · have := SS.out.sy x hfd
            rw [e, Int.neg_neg] at this
            exact this
        have hfn : findZ (-((d : Int) + 1)) L 0 = none := SS.out.sy _ hfk
        have HLP : Hid (letG n G ((d : Int) + 1) = G d) := Lib.hid (by unfold letG; rw [if_neg (by omega), show ((d : Int) + 1 - 1).toNat = d by omega])
        have HLN : Hid (letG n G (-((d : Int) + 1)) = invM n (G d)) := Lib.hid (by unfold letG; rw [if_pos (by omega), show (-(-((d : Int) + 1)) - 1).toNat = d by omega])
        obtain ⟨k, hk⟩ : ∃ k, k = (d : Int) + 1 := ⟨_, rfl⟩
        have HF2 : Hid (∀ V, Below w.heap.size w V → Calls Try.prog F (#[.int .i64 k] ++ caps) V (RetMxC V n n (G d))) := Lib.hid fun V hV => by rw [hk]; exact HFF.out d V hdl hV
        have HST := Lib.hid (HS.out d hdl)
        rw [← hk] at hkx hfk hfn HLP HLN hd
        have hk1 : 0 < k := by omega
        have hk2 : k < 100 := by omega
        have wk : IntKind.i64.wrap (-k) = -k := IntWalk.i64_in _ (by omega)
        have xb1 : -1000 < x := by omega
        have xb2 : x < 1000 := by omega
        have HKX := Lib.hid hkx; have HD := Lib.hid hd
        have HFK := Lib.hid hfk; have HFN := Lib.hid hfn
        clear hk hkx hd hfk hfn hfd x0 x1 x2
        go_wp2_with fail
        refine (index_any x _ xb1 xb2).mono ?_
        rw [HD.out]
        rintro e w1 ⟨rfl, rfl⟩
        have hcall := HCALL.out
        go_wp2_with fail
        clear hcall
        refine (HF2.out _ BB.out).mono ?_
        rintro e w2 ⟨g, b, s, c, cp, rfl, hcp, hO, hb⟩
        have z2 := hb.size
        have S2 := Lib.hid (SS.out.below hn1 hb)
        have hob : ∀ u, (Value.slice a j cc).ownBlock = some u → u < W.heap.size := fun u hu => (World.ownsRow.lt SS.out.ow u hu).2
        have V1 : Hid (MxK w2 w.heap.size (.slice a j cc) (.slice (some ⟨g, 0, none⟩) n cp) n (G d)) := Lib.hid ⟨g, b, s, c, cp, rfl, hO.toRMx, by have := hO.lg.1; omega, fun i hi => by have := hO.lg.1; have := (hO.lb i hi).1; omega, fun e => by have := hob _ e; have := hO.lg.1; omega, fun i hi e => by have := hob _ e; have := hO.lg.1; have := (hO.lb i hi).1; omega⟩
        have hu1 := run_updZ S2.out.mp k (.slice (some ⟨g, 0, none⟩) n cp) HFK.out
        have M3 := S2.out.mp.put (k, .slice (some ⟨g, 0, none⟩) n cp)
        obtain ⟨w3, hw3⟩ : ∃ w3 : World, w3 = setBlock w2 w.heap.size (.map (zents 0 (L ++ [(k, Value.slice (some ⟨g, 0, none⟩) n cp)])).toArray (L ++ [(k, Value.slice (some ⟨g, 0, none⟩) n cp)]).length) := ⟨_, rfl⟩
        have z3 : w3.heap.size = w2.heap.size := by rw [hw3]; exact setBlockZ_size _ _ _
        have HO3 : Hid (∀ u, u ≠ w.heap.size → w3.heap[u]? = w2.heap[u]?) := Lib.hid fun u hu => by rw [hw3]; exact setBlockZ_other _ hu
        have B3 : Hid (Below w.heap.size w w3) := Lib.hid (by rw [hw3]; exact below_put (below_go BB.out hb zB) (Nat.le_refl _))
        have R3 : Hid (RMx w3 g n (fun _ => n) b s c (G d)) := Lib.hid (hO.toRMx.atb (HO3.out g (by have := hO.lg.1; omega)) fun i hi => HO3.out _ (by have := hO.lg.1; have := (hO.lb i hi).1; omega))
        rw [← hw3] at hu1 M3
        have hlk := run_lookZ M3 k false (i := L.length) (v := .slice (some ⟨g, 0, none⟩) n cp) (by rw [findZ_snoc, HFK.out]; simp)
        rw [if_neg (by decide)] at hlk
        have HM3 := Lib.hid M3
        clear hw3 hO hb hms M3
        go_wp2_with fail
        refine (mxInvQ_any g n cp b s c (G d) w3 R3.out hn1 hn (HG.out d)).mono ?_
        rintro e w4 ⟨hb4, hres⟩
        rcases hres with ⟨rfl, hst⟩ | ⟨dd, h, g4, b4, s4, c4, cp4, rfl, hJ, hR4, hg4, hb4l⟩
        · exact absurd hst HST.out
        have z4 := hb4.size
        have V4 : Hid (MxK w4 w.heap.size (.slice a j cc) (.slice (some ⟨g4, 0, none⟩) n cp4) n (invM n (G d))) := Lib.hid ⟨g4, b4, s4, c4, cp4, rfl, hR4.congr fun i t hi ht => (invM_of hJ hi ht).symm, by omega, fun i hi => by have := hb4l i hi; omega, fun e => by have := hob _ e; omega, fun i hi e => by have := hob _ e; have := hb4l i hi; omega⟩
        have M4 := HM3.out.below hb4
        have hu2 := run_updZ M4 (-k) (.slice (some ⟨g4, 0, none⟩) n cp4) (by rw [findZ_snoc, HFN.out]; simp; omega)
        have M5 := M4.put (-k, .slice (some ⟨g4, 0, none⟩) n cp4)
        obtain ⟨w5, hw5⟩ : ∃ w5 : World, w5 = setBlock w4 w.heap.size (.map (zents 0 (L ++ [(k, Value.slice (some ⟨g, 0, none⟩) n cp)] ++ [(-k, Value.slice (some ⟨g4, 0, none⟩) n cp4)])).toArray (L ++ [(k, Value.slice (some ⟨g, 0, none⟩) n cp)] ++ [(-k, Value.slice (some ⟨g4, 0, none⟩) n cp4)]).length) := ⟨_, rfl⟩
        have z5 : w5.heap.size = w4.heap.size := by rw [hw5]; exact setBlockZ_size _ _ _
        have HO5 : ∀ u, u ≠ w.heap.size → w5.heap[u]? = w4.heap[u]? := fun u hu => by rw [hw5]; exact setBlockZ_other _ hu
        have B5 : Hid (Below w.heap.size w w5) := Lib.hid (by rw [hw5]; exact below_put (below_go B3.out hb4 (by omega)) (Nat.le_refl _))
        have V5 : MxK w5 w.heap.size (.slice a j cc) (.slice (some ⟨g4, 0, none⟩) n cp4) n (invM n (G d)) := by rw [hw5]; exact V4.out.put hn1
        rw [← hw5] at hu2 M5
        have HO25 : ∀ u, u < w2.heap.size → u ≠ w.heap.size → w5.heap[u]? = w2.heap[u]? := fun u hu hne => ((HO5 u hne).trans (hb4.block u (by omega))).trans (HO3.out u hne)
        have S5' := S2.out.add hn1 HO25 M5 (by rw [HLP.out]; exact V1.out.go hn1 (fun u hu h1 _ => HO25 u hu h1) fun u hu => .inl hu) (by rw [HLN.out]; exact V5)
        obtain ⟨i5, v, hfx⟩ := find_two (L := L) (v1 := .slice (some ⟨g, 0, none⟩) n cp) (v2 := .slice (some ⟨g4, 0, none⟩) n cp4) HKX.out
        have hl2 := run_lookZ M5 x false hfx
        rw [if_neg (by decide)] at hl2
        have hvK := S5'.kn x i5 v hfx
        rw [← HFJ.out] at hvK
        obtain ⟨gv, bv, sv, cv, kv, rfl, hv1⟩ := id hvK
        have VK := Lib.hid hvK
        have S5 := Lib.hid S5'
        have z55 : w.heap.size ≤ w5.heap.size := by omega
        clear z5 z3 z4 z2 hw5 hJ hR4 hg4 hb4l hb4 hv1 hvK S5' HO25 HO5 V5 M5 M4 hfx V1 V4 S2 SS R3 HM3 HO3 hob hcp
        have DOW := Lib.hid S5.out.ow
        have HVL : Hid (vals.length = j) := Lib.hid (by have := S5.out.ow.1; omega)
        go_wp2_with (at_builtin; refine wpList_append_lies _ rfl _ _ 102 rfl w.heap.size 59 i0 (.slice none 0 0) 1 24 Try.underlying102 hi hz0 hz1 hz2 rfl (by decide) _ _ _ rfl (World.ownsRow.alloc DOW.out _) ⟨w5.heap.size, 0, none⟩ 1 1 [.slice (some ⟨gv, 0, none⟩) n kv] rfl rfl (one_newV w5 _ _) (one_cellV _ _ _) (by decide) (by unfold maxLen; omega) (by omega) (by simp; omega) _ rfl ?_)
        intro g2 cap2 w3 hown hgrow hat hlt2
        have hb3 := grown_below (B := w.heap.size) (by omega) DOW.out hgrow
        have SX := Lib.hid (S5.out.app hn1 VK.out hown hgrow (fun u hu => by
          rcases hat with h | h
          · exact .inl (h.trans hu)
          · refine .inr ?_
            have e : g2 = u := by simpa [Value.ownBlock] using hu
            rw [← e, h]
            simp) HVL.out)
        have BX := Lib.hid (B5.out.trans hb3)
        clear hown hgrow hat hlt2 hb3 DOW
        go_wp2
        go_roundw
        case rel => exact ⟨j + 1, by omega, by go_num, ⟨_, _, _, _, rfl, SX.out⟩, BX.out⟩
        case measure => simp [intOf]; omega
    · have hjn : j = ln := by omega
      subst hjn
      go_wp2_with fail
      refine (diagonalMatrix_any n 1 _ hn).mono ?_
      rintro e w1 ⟨g, b, s, c, cp, rfl, hO, hb⟩
      have S1 := Lib.hid (SS.out.below hn1 hb)
      have B1 := Lib.hid (below_go BB.out hb BB.out.size)
      have O1 : Hid (MxV w1 (.slice (some ⟨g, 0, none⟩) n cp) n n (diaF 1)) := Lib.hid ⟨g, b, s, c, cp, rfl, hO.toRMx⟩
      have HFA : Hid (j = 0 ∨ ∃ g o, a = some ⟨g, o, none⟩ ∧ ∀ i, i < j → ∃ v, w1.cell? ⟨g, o + i, none⟩ = some v ∧ MxV w1 v n n (facF n G xs i)) := Lib.hid (by
        rcases Nat.eq_zero_or_pos j with h0 | h0
        · exact .inl h0
        · obtain ⟨ga, ca, hv, hg1, hg2⟩ := S1.out.ow.form h0
          simp only [Value.slice.injEq, true_and] at hv
          obtain ⟨rfl, _⟩ := hv
          refine .inr ⟨ga, 0, rfl, fun i hi => ?_⟩
          obtain ⟨v, h1, h2⟩ := S1.out.fa i hi
          have hc := World.ownsRow.cells S1.out.ow (g := ga) rfl i v h1
          refine ⟨v, ?_, h2.mx⟩
          have e : (⟨ga, 0, none⟩ : Addr).add i = ⟨ga, 0 + i, none⟩ := by cases i <;> simp [Addr.add]
          rw [← e]
          exact hc)
      have zb := B1.out.size
      clear hO hb SS
      go_wp2_with fail
      refine (productOfM_any _ (diaF 1) a j n cc (facF n G xs) w1 O1.out (fun i j _ _ => by unfold diaF; split <;> omega) HFA.out (fun i _ => letG_rem HG.out _) hn (by omega)).mono ?_
      rintro e w2 ⟨v, rfl, hV, hb⟩
      have V2 := Lib.hid hV
      have B2 := Lib.hid (below_go B1.out hb zb)
      clear hV hb
      obtain ⟨g2, b2, s2, c2, k2, rfl, h2⟩ := V2.out
      clear h2
      go_wp2
      go_ret
      exact ⟨_, rfl, V2.out, B2.out⟩

end Go.Proofs.Ytelmdfkcclhhjaa
