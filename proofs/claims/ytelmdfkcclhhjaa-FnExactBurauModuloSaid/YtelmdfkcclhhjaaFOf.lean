/- Numbers of the field, and the program's matrix of lists of numbers. -/
import Derived.Test.YtelmdfkcclhhjaaMx
import Derived.Test.YtelmdfkcclhhjaaIsF
import Derived.Deep.AppendLies
import Derived.Deep.RegionLaw
import Derived.IntWalk
namespace Go.Proofs.Ytelmdfkcclhhjaa
open Go.RowKit Go.ChangeShapes

set_option maxRecDepth 100000 in
set_option maxHeartbeats 1000000 in
theorem plus_any (x y : Int) (w : World) (h0 : 0 ≤ x + y) (h1 : x + y < 1000000000) : Calls Try.prog 86 #[.int .i64 x, .int .i64 y] w fun e w' => e = .returned (.int .i64 ((x + y) % 10007)) ∧ w = w' := by
  have w1 : IntKind.i64.wrap (x + y) = x + y := IntWalk.i64_in _ (by omega)
  have e1 : (x + y).tmod 10007 = (x + y) % 10007 := Int.tmod_eq_emod_of_nonneg h0
  have w2 : IntKind.i64.wrap ((x + y) % 10007) = (x + y) % 10007 := IntWalk.i64_in _ (by have := mod_rem (x + y); omega)
  go_enter Try.func86, Try.ntmps86
  go_wp2
  go_ret
  exact ⟨rfl, rfl⟩

set_option maxRecDepth 100000 in
set_option maxHeartbeats 1000000 in
theorem times_any (x y : Int) (w : World) (h0 : 0 ≤ x * y) (h1 : x * y < 1000000000) : Calls Try.prog 87 #[.int .i64 x, .int .i64 y] w fun e w' => e = .returned (.int .i64 ((x * y) % 10007)) ∧ w = w' := by
  have w1 : IntKind.i64.wrap (x * y) = x * y := IntWalk.i64_in _ (by omega)
  have e1 : (x * y).tmod 10007 = (x * y) % 10007 := Int.tmod_eq_emod_of_nonneg h0
  have w2 : IntKind.i64.wrap ((x * y) % 10007) = (x * y) % 10007 := IntWalk.i64_in _ (by have := mod_rem (x * y); omega)
  go_enter Try.func87, Try.ntmps87
  go_wp2
  go_ret
  exact ⟨rfl, rfl⟩

/-- A row of values. -/
def rowV (f : Nat → Int) (k : Nat) : List Value := (List.range k).map fun j => Value.int .i64 (f j)

theorem rowV_succ (f : Nat → Int) (k : Nat) : rowV f (k + 1) = rowV f k ++ [.int .i64 (f k)] := by simp [rowV, List.range_succ]

theorem rowV_at (f : Nat → Int) (k j : Nat) (h : j < k) : (rowV f k)[j]? = some (.int .i64 (f j)) := by simp [rowV, h]

/-- A slice grows by a number. -/
theorem grown_below {B : Nat} {T : TypeId} {wr w1 : World} {v : Value} {n : Nat} {xs : List Value} {o : Obj} (hs : B ≤ wr.heap.size) (ho : wr.ownsRow B T 1 v n xs) (hg : (wr.alloc o).grownBy w1 v.ownBlock) : Below B wr w1 :=
  ((Below.refl B wr).alloc hs o).grown hg (by simp; omega) (fun k hk => (World.ownsRow.lt ho k hk).1)

set_option maxRecDepth 100000 in
set_option maxHeartbeats 2000000 in
theorem fieldMatrixOf_any (ad : Option Addr) (m cap : Nat) (rs : List RowV) (w : World) (hr : ReadsSS w ad m rs) (X : List (List Int)) (hX : X = rs.map RowV.xs) (hF : IsFm X) :
    Calls Try.prog 57 #[.slice ad m cap] w (RetMx w m m (eL X)) := by
  obtain ⟨i1, hj, hs0, hs1, hs2⟩ := info_parts infoRow
  obtain ⟨i0, hi, hz0, hz1, hz2⟩ := info_parts infoRes
  have HL := Lib.hid hr.1
  have HXL : Hid (X.length = m) := Lib.hid (by rw [hX, List.length_map]; exact hr.1)
  have hm1 : 1 ≤ m := by have := hF.1.1; rw [HXL.out] at this; exact this
  have hm2 : m ≤ 28 := by have := hF.1.2; rw [HXL.out] at this; exact this
  have HX := Lib.hid hX
  have HF := Lib.hid hF
  have HR := Lib.hid hr; clear hr hX hF
  go_enter Try.func57, Try.ntmps57
  go_wp2_with (at_make; refine wpList_make_full w rfl _ _ 59 rfl w.heap.size 72 i1 (.slice none 0 0) 1 Try.underlying59 hj hs0 hs1 .i64 .i64 _ _ m rfl rfl (by rfl) (by rfl) (by rw [hs2]; omega) (by unfold maxLen; omega) (Nat.le_refl _) ?_)
  intro w1 hown hgrow
  have hbel := Below.ofGrown hgrow
  obtain ⟨hn0, hf0, hz⟩ := made_cells hown
  have HN := Lib.hid hn0; have HF0 := Lib.hid hf0
  clear hown hgrow hn0 hf0
  go_wp2
  go_loopw [13] (fun iv wr => ∃ i : Nat, i ≤ m ∧ iv = .int .i64 i ∧ (∃ b s c, OMx w.heap.size wr w.heap.size i (fun _ => m) b s c (eL X)) ∧ (∀ j, i ≤ j → j < m → wr.cell? ⟨w.heap.size, j, none⟩ = some (.slice none 0 0)) ∧ Below w.heap.size w wr) (fun iv _ => m - (intOf iv).toNat)
  case atStart => exact ⟨0, Nat.zero_le _, rfl, ⟨_, _, _, OMx.start _ ⟨Nat.le_refl _, hz⟩ HF0.out⟩, fun j _ hj => HN.out j hj, hbel⟩
  case round =>
    obtain ⟨i, hi2, rfl, ⟨b, s, c, hO⟩, hnil, hb⟩ := hrel
    clear hbel HN HF0 hz
    have OO := Lib.hid hO
    have NN := Lib.hid hnil
    have BB := Lib.hid hb
    clear hO hnil hb
    by_cases hlt : i < m
    · have hil : i < rs.length := by rw [HL.out]; exact hlt
      obtain ⟨ab, off, rfl, hc⟩ := HR.out.2.1.resolve_left (by omega)
      have c0 := (BB.out.cell (World.block_lt_of_cell? _ _ (hc i hil))).trans (hc i hil)
      have hrow := (HR.out.2.2 _ (List.getElem_mem hil)).1
      have HEL : Hid (∀ k, eL X i k = rs[i].xs.getD k 0) := Lib.hid fun k => by rw [HX.out]; exact eL_map rs i k hil
      have hln : rs[i].n = m := by
        have h1 := (HF.out.2 i (by rw [HXL.out]; exact hlt)).1
        rw [HXL.out] at h1
        rw [← h1, HX.out, rowL_map rs i hil]
        exact hrow.len.symm
      obtain ⟨x, hx⟩ : ∃ x, x = rs[i] := ⟨_, rfl⟩
      rw [← hx] at c0 hrow hln HEL
      clear hc hx
      obtain ⟨xb, xa, xn, xc, xs⟩ := x
      simp only at c0 hrow hln HEL
      subst hln
      have HROW := Lib.hid hrow; clear hrow
      obtain ⟨W, hW⟩ : ∃ x, x = wr := ⟨_, rfl⟩
      subst hW
      have zW := BB.out.size
      have zg := OO.out.lg
      go_wp2
      go_loopw [20] (fun kv wr => ∃ k : Nat, k ≤ xn ∧ kv = .int .i64 k ∧ (∃ a cc, wr.cell? ⟨w.heap.size, i, none⟩ = some (.slice a k cc) ∧ wr.ownsRow W.heap.size 67 1 (.slice a k cc) k (rowV (eL X i) k)) ∧ OMx w.heap.size wr w.heap.size i (fun _ => xn) b s c (eL X) ∧ (∀ j, i < j → j < xn → wr.cell? ⟨w.heap.size, j, none⟩ = some (.slice none 0 0)) ∧ W.heap.size ≤ wr.heap.size ∧ Below w.heap.size w wr) (fun kv _ => xn - (intOf kv).toNat)
      case atStart => exact ⟨0, Nat.zero_le _, rfl, ⟨none, 0, NN.out i (Nat.le_refl _) hlt, World.ownsRow_nil _ _ _ _⟩, OO.out, fun j h1 h2 => NN.out j (by omega) h2, Nat.le_refl _, BB.out⟩
      case round =>
        obtain ⟨k, hk, rfl, ⟨a, cc, hca, hrw⟩, hO, hnil, hWr, hb⟩ := hrel
        have bl := OO.out.lb
        clear OO NN c0
        have O2 := Lib.hid hO
        have NN := Lib.hid hnil
        have B2 := Lib.hid hb
        have RW := Lib.hid hrw
        clear hO hnil hb hrw
        by_cases hlk : k < xn
        · obtain ⟨rb, ro, rfl, hrb, hrc⟩ := HROW.out.cells (by omega)
          have c1 := (B2.out.cell hrb).trans (hrc k hlk)
          rw [← HEL.out k] at c1
          have hrem := (HF.out.2 i (by rw [HXL.out]; exact hlt)).2 k (by rw [HXL.out]; exact hlk)
          have HSU := Lib.hid (rowV_succ (eL X i) k)
          obtain ⟨v, hv⟩ : ∃ v, v = eL X i k := ⟨_, rfl⟩
          rw [← hv] at c1 hrem HSU
          have w1 : IntKind.i64.wrap v = v := IntWalk.i64_in _ (by omega)
          have zwr : w.heap.size < wr.heap.size := O2.out.lg.2
          have fg := O2.out.fg i
          have i0' : 0 ≤ (i : Int) := by omega
          have i1' : (i : Int) < (xn : Int) := by omega
          have k1' : (k : Int) < (xn : Int) := by omega
          clear hrc hv hrb
          have HCA := Lib.hid hca
          go_wp2_with (at_builtin; refine wpList_append_lies _ rfl _ _ 72 rfl W.heap.size 67 i0 (.int .i64 0) 1 8 Try.underlying72 hi hz0 hz1 hz2 rfl (by decide) _ _ _ rfl (World.ownsRow.alloc RW.out _) ⟨wr.heap.size, 0, none⟩ 1 1 [.int .i64 v] rfl rfl (one_new wr v _) (one_cell _) (by decide) (by unfold maxLen; omega) (by omega) (by simp; omega) _ rfl ?_)
          intro g2 cap2 w2 hown hgrow hat hlt2
          have hb := grown_below (B := W.heap.size) hWr RW.out hgrow
          rw [← HSU.out] at hown
          have hcg := (hb.cell (p := ⟨w.heap.size, i, none⟩) (by show w.heap.size < W.heap.size; omega)).trans hca
          have hfg := (hb.frozen (p := ⟨w.heap.size, i, none⟩) (by show w.heap.size < W.heap.size; omega)).trans fg
          have hsz := hb.size
          have O3 := Lib.hid ((O2.out.under hb (by omega) fun u hu => (bl u hu).2).beyond (Nat.le_refl i) (.slice (some ⟨g2, 0, none⟩) (k + 1) cap2))
          have N3 : Hid (∀ j, i < j → j < xn → (w2.setCell ⟨w.heap.size, i, none⟩ (.slice (some ⟨g2, 0, none⟩) (k + 1) cap2)).cell? ⟨w.heap.size, j, none⟩ = some (.slice none 0 0)) := Lib.hid fun j h1 h2 => (World.cell?_setCell_other _ _ _ _ (by intro e3; injection e3 with e4 e5; omega)).trans ((hb.cell (p := ⟨w.heap.size, j, none⟩) (by show w.heap.size < W.heap.size; omega)).trans (NN.out j h1 h2))
          have hcs := World.cell?_setCell_same w2 ⟨w.heap.size, i, none⟩ (.slice (some ⟨g2, 0, none⟩) (k + 1) cap2) hcg
          have hrs : (w2.setCell ⟨w.heap.size, i, none⟩ (.slice (some ⟨g2, 0, none⟩) (k + 1) cap2)).ownsRow W.heap.size 67 1 (.slice (some ⟨g2, 0, none⟩) (k + 1) cap2) (k + 1) (rowV (eL X i) (k + 1)) := ownsRow_heap hown fun u hu => Below.heap_setCell w2 _ _ u (by show u ≠ w.heap.size; have := (World.ownsRow.lt hown u hu).1; omega)
          have B3 := Lib.hid ((B2.out.trans (hb.mono (by omega))).setCell (p := ⟨w.heap.size, i, none⟩) (Nat.le_refl _) (.slice (some ⟨g2, 0, none⟩) (k + 1) cap2))
          have HCS := Lib.hid hcs; have HRS := Lib.hid hrs
          have hz3 : W.heap.size ≤ (w2.setCell ⟨w.heap.size, i, none⟩ (.slice (some ⟨g2, 0, none⟩) (k + 1) cap2)).heap.size := by simp [World.setCell]; omega
          clear hcs hrs hown hgrow hat hb
          go_wp2
          go_roundw
          case rel => exact ⟨k + 1, by omega, by go_num, ⟨_, _, HCS.out, HRS.out⟩, O3.out, N3.out, hz3, B3.out⟩
          case measure => simp [intOf]; omega
        · have hkx : k = xn := by omega
          subst hkx
          obtain ⟨g2, c2, hv, hlo, hlt2⟩ := RW.out.form (by omega)
          simp only [Value.slice.injEq, true_and] at hv
          obtain ⟨rfl, rfl⟩ := hv
          have hadd := O2.out.add (f' := eL X) hca (by omega) hlt2 (fun u hu => by have := (bl u hu).2; omega) (fun j => World.ownsRow.frozenAt RW.out j) (fun j hj => by rw [Nat.zero_add, World.ownsRow.cellAt RW.out j (by omega)]; exact rowV_at _ _ _ hj) (fun _ _ _ _ => rfl)
          obtain ⟨b', s', c', hadd⟩ := hadd
          have O3 := Lib.hid hadd
          clear hadd hca
          go_wp2
          go_roundw
          case rel => exact ⟨i + 1, by omega, by go_num, ⟨_, _, _, O3.out⟩, fun j h1 h2 => NN.out j (by omega) h2, B2.out⟩
          case measure => simp [intOf]; omega
    · have him : i = m := by omega
      subst him
      go_wp2
      go_ret
      exact ⟨_, b, s, c, _, rfl, OO.out, BB.out⟩

end Go.Proofs.Ytelmdfkcclhhjaa
