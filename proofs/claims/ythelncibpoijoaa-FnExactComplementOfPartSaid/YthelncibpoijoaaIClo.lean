/- Simple braids: the function values that make their rows. -/
import Derived.Test.YthelncibpoijoaaSimF
import Derived.Test.YthelncibpoijoaaBase
import Derived.Test.YthelncibpoijoaaKit4
import Derived.Test.YthelncibpoijoaaKit10
import Derived.BigQuiet
import Derived.IntWalk
namespace Go.Proofs.Ythelncibpoijoaa
open Go.RowKit Go.ChangeShapes

/-- The row of zeros. -/
def zeros8 : List Int := [0, 0, 0, 0, 0, 0, 0, 0]

theorem Row8.fillz {w : World} {g : Nat} {k : IntKind} {l : List Int} (h : Row8 w g k l) :
    let w' := ((((((((w.setCell ⟨g, 0, none⟩ (.int k 0)).setCell ⟨g, 1, none⟩ (.int k 0)).setCell ⟨g, 2, none⟩ (.int k 0)).setCell ⟨g, 3, none⟩ (.int k 0)).setCell ⟨g, 4, none⟩ (.int k 0)).setCell ⟨g, 5, none⟩ (.int k 0)).setCell ⟨g, 6, none⟩ (.int k 0)).setCell ⟨g, 7, none⟩ (.int k 0))
    (w'.cell? ⟨g, 0, none⟩ = some (.int k 0) ∧ w'.cell? ⟨g, 1, none⟩ = some (.int k 0) ∧ w'.cell? ⟨g, 2, none⟩ = some (.int k 0) ∧ w'.cell? ⟨g, 3, none⟩ = some (.int k 0))
      ∧ w'.cell? ⟨g, 4, none⟩ = some (.int k 0) ∧ w'.cell? ⟨g, 5, none⟩ = some (.int k 0) ∧ w'.cell? ⟨g, 6, none⟩ = some (.int k 0) ∧ w'.cell? ⟨g, 7, none⟩ = some (.int k 0) :=
  (h.fill zeros8 rfl).all

theorem Row8.flat {w : World} {g : Nat} {k : IntKind} {l : List Int} (h : Row8 w g k l) :
    w.cell? ⟨g, 0, none⟩ = some (.int k (at8 l 0)) ∧ w.cell? ⟨g, 1, none⟩ = some (.int k (at8 l 1)) ∧ w.cell? ⟨g, 2, none⟩ = some (.int k (at8 l 2)) ∧ w.cell? ⟨g, 3, none⟩ = some (.int k (at8 l 3))
      ∧ w.cell? ⟨g, 4, none⟩ = some (.int k (at8 l 4)) ∧ w.cell? ⟨g, 5, none⟩ = some (.int k (at8 l 5)) ∧ w.cell? ⟨g, 6, none⟩ = some (.int k (at8 l 6)) ∧ w.cell? ⟨g, 7, none⟩ = some (.int k (at8 l 7)) :=
  ⟨h.cell 0 (by omega), h.cell 1 (by omega), h.cell 2 (by omega), h.cell 3 (by omega), h.cell 4 (by omega), h.cell 5 (by omega), h.cell 6 (by omega), h.cell 7 (by omega)⟩

theorem Row8.past {w : World} {g : Nat} {k : IntKind} {l : List Int} (h : Row8 w g k l) (g2 : Nat) (hg : g2 ≠ g) (v0 v1 v2 v3 v4 v5 v6 v7 : Value) :
    Row8 ((((((((w.setCell ⟨g2, 0, none⟩ v0).setCell ⟨g2, 1, none⟩ v1).setCell ⟨g2, 2, none⟩ v2).setCell ⟨g2, 3, none⟩ v3).setCell ⟨g2, 4, none⟩ v4).setCell ⟨g2, 5, none⟩ v5).setCell ⟨g2, 6, none⟩ v6).setCell ⟨g2, 7, none⟩ v7) g k l :=
  (((((((h.setCell (p := ⟨g2, 0, none⟩) hg v0).setCell (p := ⟨g2, 1, none⟩) hg v1).setCell (p := ⟨g2, 2, none⟩) hg v2).setCell (p := ⟨g2, 3, none⟩) hg v3).setCell (p := ⟨g2, 4, none⟩) hg v4).setCell (p := ⟨g2, 5, none⟩) hg v5).setCell (p := ⟨g2, 6, none⟩) hg v6).setCell (p := ⟨g2, 7, none⟩) hg v7

theorem Sim.wide {n : Nat} {l : List Int} (h : Sim n l) : ∀ j, j < n → 0 ≤ at8 l j ∧ at8 l j < 8 := fun j hj => by have := h.bd j hj; have := h.hi; omega

/-- An array of eight bytes, cut to its first k. -/
theorem slice_simple (g k : Nat) (h : k ≤ 8) (w : World) :
    Sem.run Try.prog (Instr.sliceAt 52 (.pointer (some ⟨g, 0, none⟩)) none (some (.int .i64 (k : Int))) none) w = .ok (.slice (some ⟨g, 0, none⟩) k 8) w := by
  have hl : Try.prog.arrayLen 52 = 8 := by kernel_rfl
  have hz : (sizeOf (Try.prog.elem 52)).run Try.prog w = .ok 1 w := by kernel_rfl
  have ht : Try.prog.underlying 52 = some (.array (Try.prog.arrayLen 52) (Try.prog.elem 52)) := by kernel_rfl
  refine (run_sliceAt_array_h w _ _ ht .i64 k (by omega) (by rw [hl]; omega)).trans ?_
  rw [hz, hl]
  simp [slicedAt, Result.andThen, Addr.add]

theorem enter_nothing1 (args : Array Value) (W : World) : Sem.run Try.prog (callFunc 90 args) W = .ok (.enter 90 args) W := by kernel_rfl

theorem enter_then1 (args : Array Value) (W : World) : Sem.run Try.prog (callFunc 107 args) W = .ok (.enter 107 args) W := by kernel_rfl

theorem enter_back1 (args : Array Value) (W : World) : Sem.run Try.prog (callFunc 105 args) W = .ok (.enter 105 args) W := by kernel_rfl

theorem nothing1_any (x : Nat) (W : World) : Calls Try.prog 90 #[.int .u8 x] W fun e w' => e = .returned (.int .u8 x) ∧ W = w' := by
  go_enter Try.func90, Try.ntmps90
  go_wp2
  go_ret
  exact ⟨rfl, rfl⟩

theorem then1_any (n x ga gb : Nat) (hn : n ≤ 8) (hx : x < n) (a b : List Int) (ha : ∀ j, j < n → 0 ≤ at8 a j ∧ at8 a j < 8) (W : World) (hra : Row8 W ga .u8 a) (hrb : Row8 W gb .u8 b) :
    Calls Try.prog 107 #[.int .u8 x, .pointer (some ⟨gb, 0, none⟩), .pointer (some ⟨ga, 0, none⟩)] W fun e w' => e = .returned (.int .u8 (at8 b (at8 a x).toNat)) ∧ W = w' := by
  obtain ⟨o1, o2⟩ := ha x hx
  obtain ⟨v, hv⟩ : ∃ v : Nat, at8 a x = (v : Int) := ⟨(at8 a x).toNat, by omega⟩
  have c1 := hra.cell x (by omega)
  rw [hv] at c1 o1 o2
  rw [hv, Int.toNat_natCast]
  have c2 := hrb.cell v (by omega)
  clear hv ha
  have b1 : (x : Int) < 8 := by omega
  go_enter Try.func107, Try.ntmps107
  go_wp2
  go_ret
  exact ⟨rfl, rfl⟩

set_option maxRecDepth 100000 in
set_option maxHeartbeats 1000000 in
theorem index_byte (n p g : Nat) (hn : n ≤ 8) (hp : p < n) (l : List Int) (v : Int) (hv : at8 l p = v) (hu : ∀ j, j < p → at8 l j ≠ v) (W : World) (hr : Row8 W g .u8 l) :
    Calls Try.prog 106 #[.slice (some ⟨g, 0, none⟩) n 8, .int .u8 v] W fun e w' => e = .returned (.int .i64 p) ∧ W = w' := by
  have HU := Lib.hid hu
  have HV := Lib.hid hv
  clear hu hv
  have R := Lib.hid hr
  clear hr
  go_enter Try.func106, Try.ntmps106
  go_wp2
  go_loop [8] (fun i => ∃ k : Nat, k ≤ p ∧ i = .int .i64 k) (fun i => n - (intOf i).toNat)
  case atStart => exact ⟨0, Nat.zero_le _, rfl⟩
  case round =>
    obtain ⟨k, hk, rfl⟩ := hrel
    have c1 := R.out.cell k (by omega)
    have b1 : (k : Int) < n := by omega
    by_cases e : k = p
    · subst e
      rw [HV.out] at c1
      have t : (v == v) = true := by simp
      go_wp2
      go_ret
      exact ⟨rfl, rfl⟩
    · have t : (v == at8 l k) = false := by rw [beq_eq_false_iff_ne]; exact fun h => HU.out k (by omega) h.symm
      go_wp2
      go_round
      case rel => exact ⟨k + 1, by omega, by go_num⟩
      case measure => simp [intOf]; omega

set_option maxRecDepth 100000 in
set_option maxHeartbeats 1000000 in
theorem back1_any (n x gs gn : Nat) (s : List Int) (hs : Sim n s) (hx : x < n) (W : World) (hr : Row8 W gs .u8 s) (hc : At1 W gn (.int .i64 n)) :
    Calls Try.prog 105 #[.int .u8 x, .pointer (some ⟨gs, 0, none⟩), .pointer (some ⟨gn, 0, none⟩)] W fun e w' => e = .returned (.int .u8 (findR s x n 0)) ∧ W = w' := by
  obtain ⟨p, hp, ep⟩ := hs.onto x hx
  have hf : findR s x n 0 = (p : Int) := by rw [← ep]; exact hs.find p hp
  rw [hf]
  clear hf
  have h8 := hs.hi
  have K := Lib.hid (fun W hr => index_byte n p gs h8 hp s x ep (fun j hj e => by have := hs.inj j p (by omega) hp (by rw [e, ep]); omega) W hr)
  clear ep hs
  have R := Lib.hid hr
  clear hr
  obtain ⟨h1, h2, h3⟩ := hc
  have hsl := slice_simple gs n h8 W
  go_enter Try.func105, Try.ntmps105
  go_wp2_with fail
  refine (K.out _ R.out).mono ?_
  rintro e w' ⟨rfl, rfl⟩
  clear hsl
  go_wp2
  go_ret
  exact ⟨rfl, rfl⟩

end Go.Proofs.Ythelncibpoijoaa
