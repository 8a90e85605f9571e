/- The program's diagonal matrices, and the lists of numbers of a matrix. -/
import Derived.Test.YtelmdfkcclhhjaaFOf
import Derived.StillTailTactics
namespace Go.Proofs.Ytelmdfkcclhhjaa
open Go.RowKit Go.ChangeShapes

/-- The diagonal's function. -/
def diaF (x : Int) (i j : Nat) : Int := if i = j then x else 0

theorem dia_upd (x : Int) (i a j : Nat) : updF (fun a j => if a = i then 0 else diaF x a j) i i x a j = diaF x a j := by
  simp only [updF, diaF]
  repeat' split
  all_goals first | rfl | (exfalso; omega)

theorem OMx.cell {B : Nat} {w : World} {g m k : Nat} {b s c : Nat → Nat} {f : Nat → Nat → Int} (h : OMx B w g m (fun _ => k) b s c f) {i : Nat} (hi : i < m) : w.cell? ⟨g, i, none⟩ = some (.slice (some ⟨b i, s i, none⟩) k (c i)) := h.hd i hi

set_option maxRecDepth 100000 in
set_option maxHeartbeats 2000000 in
theorem diagonalMatrix_any (m : Nat) (x : Int) (w : World) (hm : m ≤ 28) : Calls Try.prog 85 #[.int .i64 m, .int .i64 x] w (RetMx w m m (diaF x)) := by
  obtain ⟨i1, hj, hs0, hs1, hs2⟩ := info_parts infoRow
  obtain ⟨i0, hi, hz0, hz1, hz2⟩ := info_parts infoRes
  go_enter Try.func85, Try.ntmps85
  go_wp2_with (at_make; refine wpList_make_full w rfl _ _ 59 rfl w.heap.size 72 i1 (.slice none 0 0) 1 Try.underlying59 hj hs0 hs1 .i64 .i64 _ _ m rfl rfl (by omega) (by omega) (by rw [hs2]; omega) (by unfold maxLen; omega) (Nat.le_refl _) ?_)
  intro w1 hown hgrow
  have hbel := Below.ofGrown hgrow
  obtain ⟨hn0, hf0, hz⟩ := made_cells hown
  have HN := Lib.hid hn0; have HF0 := Lib.hid hf0
  clear hown hgrow hn0 hf0
  go_wp2
  go_loopw [11] (fun iv wr => ∃ i : Nat, i ≤ m ∧ iv = .int .i64 i ∧ (∃ b s c, OMx w.heap.size wr w.heap.size i (fun _ => m) b s c (diaF x)) ∧ (∀ j, i ≤ j → j < m → wr.cell? ⟨w.heap.size, j, none⟩ = some (.slice none 0 0)) ∧ Below w.heap.size w wr) (fun iv _ => m - (intOf iv).toNat)
  case atStart => exact ⟨0, Nat.zero_le _, rfl, ⟨_, _, _, OMx.start _ ⟨Nat.le_refl _, hz⟩ HF0.out⟩, fun j _ hj => HN.out j hj, hbel⟩
  case round =>
    obtain ⟨i, hi2, rfl, ⟨b, s, c, hO⟩, hnil, hb⟩ := hrel
    clear hbel HN HF0 hz
    have OO := Lib.hid hO
    have NN := Lib.hid hnil
    have BB := Lib.hid hb
    clear hO hnil hb
    by_cases hlt : i < m
    · have zw := BB.out.size
      have zg := OO.out.lg.2
      have i0' : 0 ≤ (i : Int) := by omega
      have i1' : (i : Int) < (m : Int) := by omega
      obtain ⟨W, hW⟩ : ∃ x, x = wr := ⟨_, rfl⟩
      subst hW
      go_wp2_with (at_make; refine wpList_make_full W rfl _ _ 72 rfl W.heap.size 67 i0 (.int .i64 0) 1 Try.underlying72 hi hz0 hz1 .i64 .i64 _ _ m rfl rfl (by omega) (by omega) (by rw [hz2]; omega) (by unfold maxLen; omega) (Nat.le_refl _) ?_)
      intro w4 hown hgrow
      have hb4 := Below.ofGrown hgrow
      obtain ⟨hn4, hf4, hz4⟩ := made_cells hown
      have O4 := OO.out.below hb4
      have c4 := (hb4.cell (p := ⟨w.heap.size, i, none⟩) zg).trans (NN.out i (Nat.le_refl _) hlt)
      have f4 := O4.fg i
      obtain ⟨b', s', c', hp, e1, e2, e3⟩ := O4.push (bn := W.heap.size) (sn := 0) (cn := m) (f' := fun a j => if a = i then 0 else diaF x a j) c4 zg hz4 (fun u hu => by have := (OO.out.lb u hu).2; omega) hf4 (fun j hj => by rw [Nat.zero_add, if_pos rfl]; exact hn4 j hj) (fun a j ha hj => (if_neg (by omega)).symm)
      have N5 : Hid (∀ j, i < j → j < m → (w4.setCell ⟨w.heap.size, i, none⟩ (.slice (some ⟨W.heap.size, 0, none⟩) m m)).cell? ⟨w.heap.size, j, none⟩ = some (.slice none 0 0)) := Lib.hid fun j h1 h2 => (World.cell?_setCell_other _ _ _ _ (by intro e3; injection e3 with e4 e5; omega)).trans ((hb4.cell (p := ⟨w.heap.size, j, none⟩) zg).trans (NN.out j (by omega) h2))
      have B5 := Lib.hid ((BB.out.trans (hb4.mono zw)).setCell (p := ⟨w.heap.size, i, none⟩) (Nat.le_refl _) (.slice (some ⟨W.heap.size, 0, none⟩) m m))
      have P5 := Lib.hid hp
      have E1 := Lib.hid e1; have E2 := Lib.hid e2; have E3 := Lib.hid e3
      clear hown hgrow hb4 hn4 hf4 O4 hp e1 e2 e3
      go_upto_region 6 with fail
      obtain ⟨V, hV⟩ : ∃ V, V = w4.setCell ⟨w.heap.size, i, none⟩ (.slice (some ⟨W.heap.size, 0, none⟩) m m) := ⟨_, rfl⟩
      rw [← hV] at N5 B5 P5 ⊢
      clear hV c4 f4 hz4
      have c5 := P5.out.cell (Nat.lt_succ_self i)
      have c6 := P5.out.el i i (Nat.lt_succ_self i) hlt
      have f6 := P5.out.fr i i (Nat.lt_succ_self i)
      have z5 := P5.out.lg.2
      have z6 := (P5.out.lb i (Nat.lt_succ_self i)).2
      have P6 := Lib.hid (P5.out.set (Nat.lt_succ_self i) hlt x)
      have hbx := (P5.out.lb i (Nat.lt_succ_self i)).1
      rw [E1.out, E2.out, Nat.zero_add] at P6 c6
      rw [E1.out] at f6 z6 hbx
      rw [E1.out, E2.out, E3.out] at c5
      rw [if_pos rfl] at c6
      have N6 : Hid (∀ j, i < j → j < m → (V.setCell ⟨W.heap.size, i, none⟩ (.int .i64 x)).cell? ⟨w.heap.size, j, none⟩ = some (.slice none 0 0)) := Lib.hid fun j h1 h2 => (World.cell?_setCell_far _ _ _ _ (by show W.heap.size ≠ w.heap.size; omega)).trans (N5.out j h1 h2)
      have B6 := Lib.hid (B5.out.setCell (p := ⟨W.heap.size, i, none⟩) (by show w.heap.size ≤ W.heap.size; omega) (.int .i64 x))
      go_wp2
      go_roundw
      case rel => exact ⟨i + 1, by omega, by go_num, ⟨b', s', c', P6.out.congr fun a j _ _ => dia_upd x i a j⟩, fun j h1 h2 => N6.out j (by omega) h2, B6.out⟩
      case measure => simp [intOf]; omega
    · have him : i = m := by omega
      subst him
      go_wp2
      go_ret
      exact ⟨_, b, s, c, _, rfl, OO.out, BB.out⟩

end Go.Proofs.Ytelmdfkcclhhjaa
