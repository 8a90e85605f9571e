/- Matrices that are made, with what they can hold; slices.Grow and slices.Concat over numbers of the field; a row in another's place. -/
import Derived.Test.YtelmdfkcclhhjaaGSol
import Derived.Lib.AppendZeros
namespace Go.Proofs.Ytelmdfkcclhhjaa
open Go.RowKit Go.Shelf Go.ChangeShapes

/-- What a function that hands back a matrix of its own gives, and how much it can hold. -/
def RetMxC (w : World) (m k : Nat) (f : Nat → Nat → Int) (e : Ending) (w' : World) : Prop :=
  ∃ g b s c cap, e = .returned (.slice (some ⟨g, 0, none⟩) m cap) ∧ m ≤ cap ∧ OMx w.heap.size w' g m (fun _ => k) b s c f ∧ Below w.heap.size w w'

theorem Below.grownZ {B : Nat} {T : TypeId} {w w1 : World} {v : Value} {n : Nat} {xs : List Value} (hs : B ≤ w.heap.size) (ho : w.ownsRow B T 1 v n xs) (hg : w.grownBy w1 v.ownBlock) : Below B w w1 :=
  (Below.refl B w).grown hg hs (fun k hk => (World.ownsRow.lt ho k hk).1)

/-- A row's header is stored in another's place. -/
theorem OMx.repl {B : Nat} {w : World} {g m : Nat} {K b s c : Nat → Nat} {f f' : Nat → Nat → Int} (h : OMx B w g m K b s c f) {i bn sn cn kn : Nat} (hi : i < m) (h1 : g < bn) (h2 : bn < w.heap.size) (h3 : ∀ x, x < m → x ≠ i → b x ≠ bn) (h4 : ∀ j, w.frozen? ⟨bn, j, none⟩ = false) (h5 : ∀ j, j < kn → w.cell? ⟨bn, sn + j, none⟩ = some (.int .i64 (f' i j))) (h6 : ∀ x j, x < m → x ≠ i → j < K x → f x j = f' x j) :
    OMx B (w.setCell ⟨g, i, none⟩ (.slice (some ⟨bn, sn, none⟩) kn cn)) g m (fun x => if x = i then kn else K x) (fun x => if x = i then bn else b x) (fun x => if x = i then sn else s x) (fun x => if x = i then cn else c x) f' where
  hd := fun x hx => by
    by_cases e : x = i
    · subst e
      simp only [if_true]
      exact World.cell?_setCell_same _ _ _ (h.hd x hx)
    · simp only [if_neg e]
      exact (World.cell?_setCell_other _ _ _ _ (by intro e3; injection e3 with e4 e5; omega)).trans (h.hd x hx)
  el := fun x j hx hj => by
    by_cases e : x = i
    · subst e
      simp only [if_true] at hj ⊢
      exact (World.cell?_setCell_far _ _ _ _ (by show g ≠ bn; omega)).trans (h5 j hj)
    · simp only [if_neg e] at hj ⊢
      rw [← h6 x j hx e hj]
      exact (World.cell?_setCell_far _ _ _ _ (by show g ≠ b x; have := (h.lb x hx).1; omega)).trans (h.el x j hx hj)
  fg := fun j => by rw [World.frozen?_setCell]; exact h.fg j
  fr := fun x j hx => by
    rw [World.frozen?_setCell]
    by_cases e : x = i
    · simp only [if_pos e]; exact h4 j
    · simp only [if_neg e]; exact h.fr x j hx
  lg := ⟨h.lg.1, by simpa [World.setCell] using h.lg.2⟩
  lb := fun x hx => by
    have hsz : (w.setCell ⟨g, i, none⟩ (.slice (some ⟨bn, sn, none⟩) kn cn)).heap.size = w.heap.size := by simp [World.setCell]
    rw [hsz]
    by_cases e : x = i
    · simp only [if_pos e]; exact ⟨h1, h2⟩
    · simp only [if_neg e]; exact h.lb x hx
  df := fun x y hx hy hne => by
    by_cases e : x = i
    · by_cases e2 : y = i
      · omega
      · simp only [if_pos e, if_neg e2]; exact (h3 y hy e2).symm
    · by_cases e2 : y = i
      · simp only [if_neg e, if_pos e2]; exact h3 x hx e
      · simp only [if_neg e, if_neg e2]; exact h.df x y hx hy hne

theorem OMx.congrK {B : Nat} {w : World} {g m : Nat} {K K' b s c : Nat → Nat} {f : Nat → Nat → Int} (h : OMx B w g m K b s c f) (e : ∀ i, i < m → K i = K' i) : OMx B w g m K' b s c f :=
  { h with hd := fun i hi => by rw [← e i hi]; exact h.hd i hi, el := fun i j hi hj => h.el i j hi (by rw [e i hi]; exact hj) }

set_option maxRecDepth 100000 in
set_option maxHeartbeats 2000000 in
theorem fieldMatrixOf_cap (ad : Option Addr) (m cap : Nat) (rs : List RowV) (w : World) (hr : ReadsSS w ad m rs) (X : List (List Int)) (hX : X = rs.map RowV.xs) (hF : IsFm X) :
    Calls Try.prog 57 #[.slice ad m cap] w (RetMxC w m m (eL X)) := by
  obtain ⟨i1, hj, hs0, hs1, hs2⟩ := info_parts infoRow
  obtain ⟨i0, hi, hz0, hz1, hz2⟩ := info_parts infoRes
  have HL := Lib.hid hr.1
  have HXL : Hid (X.length = m) := Lib.hid (by rw [hX, List.length_map]; exact hr.1)
  have hm1 : 1 ≤ m := by have := hF.1.1; rw [HXL.out] at this; exact this
  have hm2 : m ≤ 28 := by have := hF.1.2; rw [HXL.out] at this; exact this
  have HX := Lib.hid hX
  have HF := Lib.hid hF
  have HR := Lib.hid hr; clear hr hX hF
  go_enter Try.func57, Try.ntmps57
  go_wp2_with (at_make; refine wpList_make_full w rfl _ _ 59 rfl w.heap.size 72 i1 (.slice none 0 0) 1 Try.underlying59 hj hs0 hs1 .i64 .i64 _ _ m rfl rfl (by rfl) (by rfl) (by rw [hs2]; omega) (by unfold maxLen; omega) (Nat.le_refl _) ?_)
  intro w1 hown hgrow
  have hbel := Below.ofGrown hgrow
  obtain ⟨hn0, hf0, hz⟩ := made_cells hown
  have HN := Lib.hid hn0; have HF0 := Lib.hid hf0
  clear hown hgrow hn0 hf0
  go_wp2
  go_loopw [13] (fun iv wr => ∃ i : Nat, i ≤ m ∧ iv = .int .i64 i ∧ (∃ b s c, OMx w.heap.size wr w.heap.size i (fun _ => m) b s c (eL X)) ∧ (∀ j, i ≤ j → j < m → wr.cell? ⟨w.heap.size, j, none⟩ = some (.slice none 0 0)) ∧ Below w.heap.size w wr) (fun iv _ => m - (intOf iv).toNat)
  case atStart => exact ⟨0, Nat.zero_le _, rfl, ⟨_, _, _, OMx.start _ ⟨Nat.le_refl _, hz⟩ HF0.out⟩, fun j _ hj => HN.out j hj, hbel⟩
  case round =>
    obtain ⟨i, hi2, rfl, ⟨b, s, c, hO⟩, hnil, hb⟩ := hrel
    clear hbel HN HF0 hz
    have OO := Lib.hid hO
    have NN := Lib.hid hnil
    have BB := Lib.hid hb
    clear hO hnil hb
    by_cases hlt : i < m
    · have hil : i < rs.length := by rw [HL.out]; exact hlt
      obtain ⟨ab, off, rfl, hc⟩ := HR.out.2.1.resolve_left (by omega)
      have c0 := (BB.out.cell (World.block_lt_of_cell? _ _ (hc i hil))).trans (hc i hil)
      have hrow := (HR.out.2.2 _ (List.getElem_mem hil)).1
      have HEL : Hid (∀ k, eL X i k = rs[i].xs.getD k 0) := Lib.hid fun k => by rw [HX.out]; exact eL_map rs i k hil
      have hln : rs[i].n = m := by
        have h1 := (HF.out.2 i (by rw [HXL.out]; exact hlt)).1
        rw [HXL.out] at h1
        rw [← h1, HX.out, rowL_map rs i hil]
        exact hrow.len.symm
      obtain ⟨x, hx⟩ : ∃ x, x = rs[i] := ⟨_, rfl⟩
      rw [← hx] at c0 hrow hln HEL
      clear hc hx
      obtain ⟨xb, xa, xn, xc, xs⟩ := x
      simp only at c0 hrow hln HEL
      subst hln
      have HROW := Lib.hid hrow; clear hrow
      obtain ⟨W, hW⟩ : ∃ x, x = wr := ⟨_, rfl⟩
      subst hW
      have zW := BB.out.size
      have zg := OO.out.lg
      go_wp2
      go_loopw [20] (fun kv wr => ∃ k : Nat, k ≤ xn ∧ kv = .int .i64 k ∧ (∃ a cc, wr.cell? ⟨w.heap.size, i, none⟩ = some (.slice a k cc) ∧ wr.ownsRow W.heap.size 67 1 (.slice a k cc) k (rowV (eL X i) k)) ∧ OMx w.heap.size wr w.heap.size i (fun _ => xn) b s c (eL X) ∧ (∀ j, i < j → j < xn → wr.cell? ⟨w.heap.size, j, none⟩ = some (.slice none 0 0)) ∧ W.heap.size ≤ wr.heap.size ∧ Below w.heap.size w wr) (fun kv _ => xn - (intOf kv).toNat)
      case atStart => exact ⟨0, Nat.zero_le _, rfl, ⟨none, 0, NN.out i (Nat.le_refl _) hlt, World.ownsRow_nil _ _ _ _⟩, OO.out, fun j h1 h2 => NN.out j (by omega) h2, Nat.le_refl _, BB.out⟩
      case round =>
        obtain ⟨k, hk, rfl, ⟨a, cc, hca, hrw⟩, hO, hnil, hWr, hb⟩ := hrel
        have bl := OO.out.lb
        clear OO NN c0
        have O2 := Lib.hid hO
        have NN := Lib.hid hnil
        have B2 := Lib.hid hb
        have RW := Lib.hid hrw
        clear hO hnil hb hrw
        by_cases hlk : k < xn
        · obtain ⟨rb, ro, rfl, hrb, hrc⟩ := HROW.out.cells (by omega)
          have c1 := (B2.out.cell hrb).trans (hrc k hlk)
          rw [← HEL.out k] at c1
          have hrem := (HF.out.2 i (by rw [HXL.out]; exact hlt)).2 k (by rw [HXL.out]; exact hlk)
          have HSU := Lib.hid (rowV_succ (eL X i) k)
          obtain ⟨v, hv⟩ : ∃ v, v = eL X i k := ⟨_, rfl⟩
          rw [← hv] at c1 hrem HSU
          have w1 : IntKind.i64.wrap v = v := IntWalk.i64_in _ (by omega)
          have zwr : w.heap.size < wr.heap.size := O2.out.lg.2
          have fg := O2.out.fg i
          have i0' : 0 ≤ (i : Int) := by omega
          have i1' : (i : Int) < (xn : Int) := by omega
          have k1' : (k : Int) < (xn : Int) := by omega
          clear hrc hv hrb
          have HCA := Lib.hid hca
          go_wp2_with (at_builtin; refine wpList_append_lies _ rfl _ _ 72 rfl W.heap.size 67 i0 (.int .i64 0) 1 8 Try.underlying72 hi hz0 hz1 hz2 rfl (by decide) _ _ _ rfl (World.ownsRow.alloc RW.out _) ⟨wr.heap.size, 0, none⟩ 1 1 [.int .i64 v] rfl rfl (one_new wr v _) (one_cell _) (by decide) (by unfold maxLen; omega) (by omega) (by simp; omega) _ rfl ?_)
          intro g2 cap2 w2 hown hgrow hat hlt2
          have hb := grown_below (B := W.heap.size) hWr RW.out hgrow
          rw [← HSU.out] at hown
          have hcg := (hb.cell (p := ⟨w.heap.size, i, none⟩) (by show w.heap.size < W.heap.size; omega)).trans hca
          have hfg := (hb.frozen (p := ⟨w.heap.size, i, none⟩) (by show w.heap.size < W.heap.size; omega)).trans fg
          have hsz := hb.size
          have O3 := Lib.hid ((O2.out.under hb (by omega) fun u hu => (bl u hu).2).beyond (Nat.le_refl i) (.slice (some ⟨g2, 0, none⟩) (k + 1) cap2))
          have N3 : Hid (∀ j, i < j → j < xn → (w2.setCell ⟨w.heap.size, i, none⟩ (.slice (some ⟨g2, 0, none⟩) (k + 1) cap2)).cell? ⟨w.heap.size, j, none⟩ = some (.slice none 0 0)) := Lib.hid fun j h1 h2 => (World.cell?_setCell_other _ _ _ _ (by intro e3; injection e3 with e4 e5; omega)).trans ((hb.cell (p := ⟨w.heap.size, j, none⟩) (by show w.heap.size < W.heap.size; omega)).trans (NN.out j h1 h2))
          have hcs := World.cell?_setCell_same w2 ⟨w.heap.size, i, none⟩ (.slice (some ⟨g2, 0, none⟩) (k + 1) cap2) hcg
          have hrs : (w2.setCell ⟨w.heap.size, i, none⟩ (.slice (some ⟨g2, 0, none⟩) (k + 1) cap2)).ownsRow W.heap.size 67 1 (.slice (some ⟨g2, 0, none⟩) (k + 1) cap2) (k + 1) (rowV (eL X i) (k + 1)) := ownsRow_heap hown fun u hu => Below.heap_setCell w2 _ _ u (by show u ≠ w.heap.size; have := (World.ownsRow.lt hown u hu).1; omega)
          have B3 := Lib.hid ((B2.out.trans (hb.mono (by omega))).setCell (p := ⟨w.heap.size, i, none⟩) (Nat.le_refl _) (.slice (some ⟨g2, 0, none⟩) (k + 1) cap2))
          have HCS := Lib.hid hcs; have HRS := Lib.hid hrs
          have hz3 : W.heap.size ≤ (w2.setCell ⟨w.heap.size, i, none⟩ (.slice (some ⟨g2, 0, none⟩) (k + 1) cap2)).heap.size := by simp [World.setCell]; omega
          clear hcs hrs hown hgrow hat hb
          go_wp2
          go_roundw
          case rel => exact ⟨k + 1, by omega, by go_num, ⟨_, _, HCS.out, HRS.out⟩, O3.out, N3.out, hz3, B3.out⟩
          case measure => simp [intOf]; omega
        · have hkx : k = xn := by omega
          subst hkx
          obtain ⟨g2, c2, hv, hlo, hlt2⟩ := RW.out.form (by omega)
          simp only [Value.slice.injEq, true_and] at hv
          obtain ⟨rfl, rfl⟩ := hv
          have hadd := O2.out.add (f' := eL X) hca (by omega) hlt2 (fun u hu => by have := (bl u hu).2; omega) (fun j => World.ownsRow.frozenAt RW.out j) (fun j hj => by rw [Nat.zero_add, World.ownsRow.cellAt RW.out j (by omega)]; exact rowV_at _ _ _ hj) (fun _ _ _ _ => rfl)
          obtain ⟨b', s', c', hadd⟩ := hadd
          have O3 := Lib.hid hadd
          clear hadd hca
          go_wp2
          go_roundw
          case rel => exact ⟨i + 1, by omega, by go_num, ⟨_, _, _, O3.out⟩, fun j h1 h2 => NN.out j (by omega) h2, B2.out⟩
          case measure => simp [intOf]; omega
    · have him : i = m := by omega
      subst him
      go_wp2
      go_ret
      exact ⟨_, b, s, c, _, rfl, Nat.le_refl _, OO.out, BB.out⟩

set_option maxRecDepth 100000 in
set_option maxHeartbeats 2000000 in
theorem diagonalMatrix_cap (m : Nat) (x : Int) (w : World) (hm : m ≤ 28) : Calls Try.prog 85 #[.int .i64 m, .int .i64 x] w (RetMxC w m m (diaF x)) := by
  obtain ⟨i1, hj, hs0, hs1, hs2⟩ := info_parts infoRow
  obtain ⟨i0, hi, hz0, hz1, hz2⟩ := info_parts infoRes
  go_enter Try.func85, Try.ntmps85
  go_wp2_with (at_make; refine wpList_make_full w rfl _ _ 59 rfl w.heap.size 72 i1 (.slice none 0 0) 1 Try.underlying59 hj hs0 hs1 .i64 .i64 _ _ m rfl rfl (by omega) (by omega) (by rw [hs2]; omega) (by unfold maxLen; omega) (Nat.le_refl _) ?_)
  intro w1 hown hgrow
  have hbel := Below.ofGrown hgrow
  obtain ⟨hn0, hf0, hz⟩ := made_cells hown
  have HN := Lib.hid hn0; have HF0 := Lib.hid hf0
  clear hown hgrow hn0 hf0
  go_wp2
  go_loopw [11] (fun iv wr => ∃ i : Nat, i ≤ m ∧ iv = .int .i64 i ∧ (∃ b s c, OMx w.heap.size wr w.heap.size i (fun _ => m) b s c (diaF x)) ∧ (∀ j, i ≤ j → j < m → wr.cell? ⟨w.heap.size, j, none⟩ = some (.slice none 0 0)) ∧ Below w.heap.size w wr) (fun iv _ => m - (intOf iv).toNat)
  case atStart => exact ⟨0, Nat.zero_le _, rfl, ⟨_, _, _, OMx.start _ ⟨Nat.le_refl _, hz⟩ HF0.out⟩, fun j _ hj => HN.out j hj, hbel⟩
  case round =>
    obtain ⟨i, hi2, rfl, ⟨b, s, c, hO⟩, hnil, hb⟩ := hrel
    clear hbel HN HF0 hz
    have OO := Lib.hid hO
    have NN := Lib.hid hnil
    have BB := Lib.hid hb
    clear hO hnil hb
    by_cases hlt : i < m
    · have zw := BB.out.size
      have zg := OO.out.lg.2
      have i0' : 0 ≤ (i : Int) := by omega
      have i1' : (i : Int) < (m : Int) := by omega
      obtain ⟨W, hW⟩ : ∃ x, x = wr := ⟨_, rfl⟩
      subst hW
      go_wp2_with (at_make; refine wpList_make_full W rfl _ _ 72 rfl W.heap.size 67 i0 (.int .i64 0) 1 Try.underlying72 hi hz0 hz1 .i64 .i64 _ _ m rfl rfl (by omega) (by omega) (by rw [hz2]; omega) (by unfold maxLen; omega) (Nat.le_refl _) ?_)
      intro w4 hown hgrow
      have hb4 := Below.ofGrown hgrow
      obtain ⟨hn4, hf4, hz4⟩ := made_cells hown
      have O4 := OO.out.below hb4
      have c4 := (hb4.cell (p := ⟨w.heap.size, i, none⟩) zg).trans (NN.out i (Nat.le_refl _) hlt)
      have f4 := O4.fg i
      obtain ⟨b', s', c', hp, e1, e2, e3⟩ := O4.push (bn := W.heap.size) (sn := 0) (cn := m) (f' := fun a j => if a = i then 0 else diaF x a j) c4 zg hz4 (fun u hu => by have := (OO.out.lb u hu).2; omega) hf4 (fun j hj => by rw [Nat.zero_add, if_pos rfl]; exact hn4 j hj) (fun a j ha hj => (if_neg (by omega)).symm)
      have N5 : Hid (∀ j, i < j → j < m → (w4.setCell ⟨w.heap.size, i, none⟩ (.slice (some ⟨W.heap.size, 0, none⟩) m m)).cell? ⟨w.heap.size, j, none⟩ = some (.slice none 0 0)) := Lib.hid fun j h1 h2 => (World.cell?_setCell_other _ _ _ _ (by intro e3; injection e3 with e4 e5; omega)).trans ((hb4.cell (p := ⟨w.heap.size, j, none⟩) zg).trans (NN.out j (by omega) h2))
      have B5 := Lib.hid ((BB.out.trans (hb4.mono zw)).setCell (p := ⟨w.heap.size, i, none⟩) (Nat.le_refl _) (.slice (some ⟨W.heap.size, 0, none⟩) m m))
      have P5 := Lib.hid hp
      have E1 := Lib.hid e1; have E2 := Lib.hid e2; have E3 := Lib.hid e3
      clear hown hgrow hb4 hn4 hf4 O4 hp e1 e2 e3
      go_upto_region 6 with fail
      obtain ⟨V, hV⟩ : ∃ V, V = w4.setCell ⟨w.heap.size, i, none⟩ (.slice (some ⟨W.heap.size, 0, none⟩) m m) := ⟨_, rfl⟩
      rw [← hV] at N5 B5 P5 ⊢
      clear hV c4 f4 hz4
      have c5 := P5.out.cell (Nat.lt_succ_self i)
      have c6 := P5.out.el i i (Nat.lt_succ_self i) hlt
      have f6 := P5.out.fr i i (Nat.lt_succ_self i)
      have z5 := P5.out.lg.2
      have z6 := (P5.out.lb i (Nat.lt_succ_self i)).2
      have P6 := Lib.hid (P5.out.set (Nat.lt_succ_self i) hlt x)
      have hbx := (P5.out.lb i (Nat.lt_succ_self i)).1
      rw [E1.out, E2.out, Nat.zero_add] at P6 c6
      rw [E1.out] at f6 z6 hbx
      rw [E1.out, E2.out, E3.out] at c5
      rw [if_pos rfl] at c6
      have N6 : Hid (∀ j, i < j → j < m → (V.setCell ⟨W.heap.size, i, none⟩ (.int .i64 x)).cell? ⟨w.heap.size, j, none⟩ = some (.slice none 0 0)) := Lib.hid fun j h1 h2 => (World.cell?_setCell_far _ _ _ _ (by show W.heap.size ≠ w.heap.size; omega)).trans (N5.out j h1 h2)
      have B6 := Lib.hid (B5.out.setCell (p := ⟨W.heap.size, i, none⟩) (by show w.heap.size ≤ W.heap.size; omega) (.int .i64 x))
      go_wp2
      go_roundw
      case rel => exact ⟨i + 1, by omega, by go_num, ⟨b', s', c', P6.out.congr fun a j _ _ => dia_upd x i a j⟩, fun j h1 h2 => N6.out j (by omega) h2, B6.out⟩
      case measure => simp [intOf]; omega
    · have him : i = m := by omega
      subst him
      go_wp2
      go_ret
      exact ⟨_, b, s, c, _, rfl, Nat.le_refl _, OO.out, BB.out⟩

theorem own_grownZ (w : World) (n : Nat) (hn : n ≤ maxLen) :
    (w.drew.alloc (.cells (Builtin.zeroCells (Value.int .i64 0).cells n ++ Builtin.zeroCells (Value.int .i64 0).cells (grownCap w n 0 67 - n)) 67)).ownsRow w.heap.size 67 1 (.slice (some ⟨w.heap.size, 0, none⟩) 0 (grownCap w n 0 67)) 0 [] := by
  refine ⟨rfl, .inr ⟨w.heap.size, _, _, rfl, Nat.le_refl _, World.alloc_heap_new w.drew _, Nat.zero_le _, grownCap_le_maxLen w n 0 _ hn, ?_, by simp⟩⟩
  have := grownCap_ge w n 0 67
  simp [Builtin.zeroCells, Value.cells]
  omega

set_option maxRecDepth 100000 in
set_option maxHeartbeats 1000000 in
theorem growZ_any (n : Nat) (w : World) (h0 : 0 < n) (hn : n ≤ 4194304) :
    Calls Try.prog 107 #[.slice none 0 0, .int .i64 n] w fun e w' => ∃ a c, e = .returned (.slice a 0 c) ∧ w'.ownsRow w.heap.size 67 1 (.slice a 0 c) 0 [] ∧ Below w.heap.size w w' := by
  obtain ⟨i0, hi, hz0, hz1, hz2⟩ := info_parts infoRes
  have j0 : ¬ ((n : Int) < 0) := by omega
  have hrun := fun ty => Lib.run_append_nil_zeros (P := Try.prog) w 72 3 ty 67 i0 (.int .i64 0) .i64 .i64 Try.underlying72 (by kernel_rfl) hi hz0 n h0 (by omega) (by omega) (by rw [hz2]; omega)
  have HR := Lib.hid hrun; clear hrun
  have HO := Lib.hid (own_grownZ w n (by unfold maxLen; omega))
  have hge := grownCap_ge w n 0 67
  go_enter Try.func107, Try.ntmps107
  go_wp2_with (at_builtin; refine Lib.wpList_append_run _ rfl _ _ _ _ rfl _ _ rfl rfl _ _ (HR.out _) ?_)
  go_wp2
  go_ret
  exact ⟨_, _, rfl, HO.out, ((Below.refl w.heap.size w).drew).alloc (Nat.le_refl _) _⟩

theorem rowV_news {w : World} {b s n : Nat} {u : Nat → Int} (h : ∀ j, j < n → w.cell? ⟨b, s + j, none⟩ = some (.int .i64 (u j))) : ∀ j v, (rowV u n)[j]? = some v → w.cell? ((⟨b, s, none⟩ : Addr).add j) = some v := fun j v hv => by
  obtain ⟨hj, he⟩ := List.getElem?_eq_some_iff.1 hv
  have hj' : j < n := by simpa [rowV] using hj
  rw [Addr.add_lit, h j hj', ← he]
  simp [rowV]

theorem rowV_one (u : Nat → Int) (n : Nat) : ∀ v ∈ rowV u n, v.oneCell' = true := fun v hv => by
  obtain ⟨j, _, rfl⟩ := List.mem_map.1 hv
  rfl

set_option maxRecDepth 100000 in
set_option maxHeartbeats 2000000 in
theorem concatZ_any (g b1 s1 c1 b2 s2 c2 n m : Nat) (u v : Nat → Int) (w : World) (hg : g < w.heap.size) (h0 : w.cell? ⟨g, 0, none⟩ = some (.slice (some ⟨b1, s1, none⟩) n c1)) (h1 : w.cell? ⟨g, 1, none⟩ = some (.slice (some ⟨b2, s2, none⟩) m c2)) (hu : ∀ j, j < n → w.cell? ⟨b1, s1 + j, none⟩ = some (.int .i64 (u j))) (hv : ∀ j, j < m → w.cell? ⟨b2, s2 + j, none⟩ = some (.int .i64 (v j))) (hn : 0 < n) (hm : 0 < m) (hn2 : n ≤ 1000) (hm2 : m ≤ 1000) :
    Calls Try.prog 90 #[.slice (some ⟨g, 0, none⟩) 2 2] w fun e w' => ∃ g' cap, e = .returned (.slice (some ⟨g', 0, none⟩) (n + m) cap) ∧ w'.ownsRow w.heap.size 67 1 (.slice (some ⟨g', 0, none⟩) (n + m) cap) (n + m) (rowV u n ++ rowV v m) ∧ Below w.heap.size w w' := by
  obtain ⟨i0, hi, hz0, hz1, hz2⟩ := info_parts infoRes
  have hw1 : IntKind.i64.wrap (n : Int) = (n : Int) := IntWalk.i64_in _ (by omega)
  have hw2 : IntKind.i64.wrap ((n : Int) + (m : Int)) = ((n + m : Nat) : Int) := (IntWalk.i64_in _ (by omega)).trans (by omega)
  have hcell : ∀ v, Below w.heap.size w v → v.cell? ⟨g, 0, none⟩ = some (.slice (some ⟨b1, s1, none⟩) n c1) ∧ v.cell? ⟨g, 1, none⟩ = some (.slice (some ⟨b2, s2, none⟩) m c2) := fun v hb => ⟨(hb.cell (p := ⟨g, 0, none⟩) hg).trans h0, (hb.cell (p := ⟨g, 1, none⟩) hg).trans h1⟩
  have HC := Lib.hid hcell; clear hcell
  have HU : Hid (∀ W, Below w.heap.size w W → ∀ j, j < n → W.cell? ⟨b1, s1 + j, none⟩ = some (.int .i64 (u j))) := Lib.hid fun W hW j hj => (hW.cell (World.block_lt_of_cell? _ _ (hu j hj))).trans (hu j hj)
  have HV : Hid (∀ W, Below w.heap.size w W → ∀ j, j < m → W.cell? ⟨b2, s2 + j, none⟩ = some (.int .i64 (v j))) := Lib.hid fun W hW j hj => (hW.cell (World.block_lt_of_cell? _ _ (hv j hj))).trans (hv j hj)
  have k1 : ¬ ((n + m : Nat) : Int) < 0 := by omega
  have k2 : ¬ (n : Int) < 0 := by omega
  clear hu hv
  go_enter Try.func90, Try.ntmps90
  go_wp2
  refine wp_loop_rounds 3 ?_; rw [rounds_succ]
  go_wp2
  rw [rounds_succ]
  go_wp2
  rw [rounds_succ]
  go_wp2_with fail
  refine (growZ_any (n + m) _ (by omega) (by omega)).mono ?_
  rintro e w1 ⟨av, cv, rfl, ho, hb⟩
  obtain ⟨c0', c1'⟩ := HC.out _ hb
  have HB := Lib.hid hb; have HO := Lib.hid ho; clear hb ho
  have hs1 := HB.out.size
  clear h0 h1
  go_wp2
  refine wp_loop_rounds 3 ?_; rw [rounds_succ]
  go_wp2_with (at_builtin; refine wpList_append_lies _ rfl _ _ 72 rfl w.heap.size 67 i0 (.int .i64 0) 1 8 Try.underlying72 hi hz0 hz1 hz2 rfl (by decide) _ _ _ rfl HO.out ⟨b1, s1, none⟩ n c1 (rowV u n) rfl (by simp [rowV]) (rowV_news (HU.out _ HB.out)) (rowV_one u n) hn (by unfold maxLen; omega) (by omega) hs1 _ rfl ?_)
  intro g2 cap2 w2 ho hg2 _ _
  have ho2 : w2.ownsRow w.heap.size 67 1 (.slice (some ⟨g2, 0, none⟩) n cap2) n (rowV u n) := by simpa using ho
  have HB2 := Lib.hid (HB.out.trans (Below.grownZ hs1 HO.out hg2))
  have HO2 := Lib.hid ho2
  clear ho hg2 c0' c1' ho2
  obtain ⟨c0', c1'⟩ := HC.out _ HB2.out
  have hs2 := HB2.out.size
  go_wp2
  rw [rounds_succ]
  go_wp2_with (at_builtin; refine wpList_append_lies _ rfl _ _ 72 rfl w.heap.size 67 i0 (.int .i64 0) 1 8 Try.underlying72 hi hz0 hz1 hz2 rfl (by decide) _ _ _ rfl HO2.out ⟨b2, s2, none⟩ m c2 (rowV v m) rfl (by simp [rowV]) (rowV_news (HV.out _ HB2.out)) (rowV_one v m) hm (by unfold maxLen; omega) (by omega) hs2 _ rfl ?_)
  intro g3 cap3 w3 ho hg3 _ _
  have HB3 := Lib.hid (HB2.out.trans (Below.grownZ hs2 HO2.out hg3))
  have HO3 := Lib.hid ho; clear ho hg3
  go_wp2
  rw [rounds_succ]
  go_wp2
  go_ret
  exact ⟨g3, cap3, rfl, HO3.out, HB3.out⟩

end Go.Proofs.Ytelmdfkcclhhjaa
