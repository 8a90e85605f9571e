/- The laws' sizes and copies of slices of slices of numbers. -/
import Derived.Test.YtmlejlediflaaaaOpenS
import Derived.Test.YtmlejlediflaaaaQA
import Derived.Deep.LoopGhost
namespace Go.Proofs.Ytmlejlediflaaaa
open Go.RowKit Go.ChangeShapes

theorem ReadsLL.below {w w' : World} {ad : Option Addr} {m : Nat} {rs : List RowV} (h : ReadsLL w ad m rs) (k : Below w.heap.size w w') : ReadsLL w' ad m rs := by
  refine ⟨h.1, ?_, fun x hx => ⟨(h.2.2 x hx).1.below k, (h.2.2 x hx).2⟩⟩
  rcases h.2.1 with h0 | ⟨g, off, ha, hc⟩
  · exact .inl h0
  · exact .inr ⟨g, off, ha, fun j hj => (k.cell (World.block_lt_of_cell? _ _ (hc j hj))).trans (hc j hj)⟩

theorem totS_row (rs : List RowV) (x : RowV) (hx : x ∈ rs) : x.n ≤ totS rs := by
  induction rs with
  | nil => exact absurd hx List.not_mem_nil
  | cons y l ih =>
    simp only [totS]
    rcases List.mem_cons.1 hx with e | e
    · subst e; omega
    · have := ih e; omega

theorem ReadsLL.short {w : World} {ad : Option Addr} {m : Nat} {rs : List RowV} (h : ReadsLL w ad m rs) (ht : totS rs ≤ 1048576) : ReadsSS w ad m rs :=
  ⟨h.1, h.2.1, fun x hx => ⟨(h.2.2 x hx).1, Nat.le_trans (totS_row rs x hx) ht⟩⟩

/-- What is left, or -1. -/
def leftS (m : Nat) (rs : List RowV) (left : Int) : Int := if (m : Int) + totS rs ≤ left then left - m - totS rs else -1

set_option maxRecDepth 100000 in
set_option maxHeartbeats 1000000 in
theorem szInt64SS_any (ad : Option Addr) (m cap : Nat) (rs : List RowV) (left : Int) (w : World) (hr : ReadsLL w ad m rs) (hm : m ≤ maxLen) (h0 : 0 ≤ left) (h1 : left ≤ 1048576) :
    Calls Try.prog 22 #[.slice ad m cap, .int .i64 left] w fun e w' => e = .returned (.int .i64 (leftS m rs left)) ∧ w = w' := by
  have HL := Lib.hid hr.1
  have HR := Lib.hid hr; clear hr
  unfold maxLen at hm
  have hw : IntKind.i64.wrap (left - m) = left - m := IntWalk.i64_in _ (by omega)
  by_cases hneg : left - m < 0
  · have HE : Hid (leftS m rs left = -1) := Lib.hid (by unfold leftS; rw [if_neg (by omega)])
    go_enter Try.func22, Try.ntmps22
    go_wp2
    go_ret
    exact ⟨ret_int HE.out.symm, rfl⟩
  · go_enter Try.func22, Try.ntmps22
    go_wp2
    clear hw
    go_loop [1, 5] (fun v i => ∃ j : Nat, j ≤ m ∧ i = .int .i64 j ∧ v = .int .i64 (left - m - totS (rs.take j)) ∧ (m : Int) + totS (rs.take j) ≤ left) (fun _ i => m - (intOf i).toNat)
    case atStart => exact ⟨0, Nat.zero_le _, rfl, by simp [totS], by simp [totS]; omega⟩
    case round =>
      obtain ⟨j, hj, rfl, rfl, hle⟩ := hrel
      by_cases hlt : j < m
      · have hjl : j < rs.length := by rw [HL.out]; exact hlt
        obtain ⟨b, off, rfl, hc⟩ := HR.out.2.1.resolve_left (by omega)
        have c0 := hc j hjl
        have hn := (HR.out.2.2 _ (List.getElem_mem hjl)).2
        have ht := totS_take rs j hjl
        have ht2 := totS_take_le rs (j + 1)
        obtain ⟨l2, hl2⟩ : ∃ l2 : Int, l2 = left - m - totS (rs.take j) := ⟨_, rfl⟩
        rw [← hl2]
        have hl20 : 0 ≤ l2 := by omega
        have hl21 : l2 ≤ 1048576 := by omega
        obtain ⟨x, hx⟩ : ∃ x, x = rs[j] := ⟨_, rfl⟩
        rw [← hx] at c0 hn ht
        have HL2 := Lib.hid hl2
        have HT := Lib.hid ht
        have HT2 := Lib.hid ht2
        have HLE := Lib.hid hle
        clear hx hc ht ht2 hl2 hle
        obtain ⟨xb, xa, xn, xc, xs⟩ := x
        simp only at c0 hn HT
        by_cases hfit : (xn : Int) ≤ l2
        · go_wp2_with fail
          refine (szInt64S_fit xa xn xc l2 _ hfit hl21).mono ?_
          rintro e w1 ⟨rfl, rfl⟩
          have hnn : ¬ (l2 - (xn : Int) < 0) := by omega
          go_wp2
          go_round
          case rel => exact ⟨j + 1, by omega, by go_num, by rw [HT.out, HL2.out]; congr 1; push_cast; omega, by have := HT.out; have := HL2.out; have := HLE.out; omega⟩
          case measure => simp [intOf]; omega
        · have HE : Hid (leftS m rs left = -1) := Lib.hid (by
            unfold leftS
            rw [if_neg]
            have := HT.out
            have := HT2.out
            have := HL2.out
            omega)
          go_wp2_with fail
          refine (szInt64S_big xa xn xc l2 _ (by omega) hl20 hn).mono ?_
          rintro e w1 ⟨rfl, rfl⟩
          go_wp2
          go_ret
          exact ⟨ret_int HE.out.symm, rfl⟩
      · have hall : rs.length ≤ j := by rw [HL.out]; omega
        have hte : totS (rs.take j) = totS rs := by rw [List.take_of_length_le hall]
        rw [hte] at hle ⊢
        have HE : Hid (leftS m rs left = left - m - totS rs) := Lib.hid (by unfold leftS; rw [if_pos hle])
        clear hall hte
        go_wp2
        go_ret
        exact ⟨ret_int HE.out.symm, rfl⟩

theorem Reads.setFar {w : World} {a : Option Addr} {n : Nat} {xs : List Int} (h : Reads w a n xs) {p : Addr} (hp : ∀ x, a = some x → x.block ≠ p.block) (v : Value) : Reads (w.setCell p v) a n xs := by
  refine ⟨h.1, ?_⟩
  rcases h.2 with h0 | ⟨b, off, ha, hc⟩
  · exact .inl h0
  · refine .inr ⟨b, off, ha, fun j hj => ?_⟩
    refine (World.cell?_setCell_other _ _ _ _ ?_).trans (hc j hj)
    intro e
    exact hp _ ha (show b = p.block by rw [e])

/-- What the copy of a slice of slices is. -/
def MadeSS (w : World) (m : Nat) (rs : List RowV) (e : Ending) (w' : World) : Prop :=
  ∃ ad ts, e = .returned (.slice ad m m) ∧ ReadsSS w' ad m ts ∧ ts.map RowV.xs = rs.map RowV.xs ∧ Below w.heap.size w w'

set_option maxRecDepth 100000 in
set_option maxHeartbeats 1000000 in
theorem toInt64SS_any (ad : Option Addr) (m cap : Nat) (rs : List RowV) (w : World) (hr : ReadsSS w ad m rs) (hm : m ≤ 1048576) :
    Calls Try.prog 24 #[.slice ad m cap] w (MadeSS w m rs) := by
  obtain ⟨i1, hj, hs0, hs1, hs2⟩ := info_parts infoSlice
  have HL := Lib.hid hr.1
  have HR := Lib.hid hr; clear hr
  go_enter Try.func24, Try.ntmps24
  go_wp2_with (at_make; refine wpList_make_full w rfl _ _ 30 rfl w.heap.size 22 i1 (.slice none 0 0) 1 Try.underlying30 hj hs0 hs1 .i64 .i64 _ _ m rfl rfl (by rfl) (by rfl) (by rw [hs2]; omega) (by unfold maxLen; omega) (Nat.le_refl _) ?_)
  intro w1 hown hgrow
  have hbel := Below.ofGrown hgrow
  have hown1 : w1.ownsRow w.heap.size 22 1 (.slice (some ⟨w.heap.size, 0, none⟩) m m) m (List.replicate m (.slice none 0 0)) := by rw [toList_madeCells_one] at hown; exact hown
  clear hown hgrow
  go_wp2
  go_loopw [4] (fun i wr => ∃ j : Nat, j ≤ m ∧ i = .int .i64 j ∧ (∃ ts : List RowV, ts.length = j ∧ ts.map RowV.xs = (rs.take j).map RowV.xs ∧ wr.ownsRow w.heap.size 22 1 (.slice (some ⟨w.heap.size, 0, none⟩) m m) m (ts.map RowV.val ++ List.replicate (m - j) (.slice none 0 0)) ∧ ∀ x ∈ ts, Reads wr x.a x.n x.xs ∧ x.n ≤ 1048576 ∧ ∀ y, x.a = some y → y.block ≠ w.heap.size) ∧ Below w.heap.size w wr) (fun i _ => m - (intOf i).toNat)
  case atStart => exact ⟨0, Nat.zero_le _, rfl, ⟨[], rfl, rfl, by simpa using hown1, fun x hx => absurd hx List.not_mem_nil⟩, hbel⟩
  case round =>
    obtain ⟨j, hj2, rfl, ⟨ts, htl, hte, hto, htr⟩, hb⟩ := hrel
    clear hown1 hbel
    have HTE := Lib.hid hte
    have HTO := Lib.hid hto
    have HTR := Lib.hid htr
    have BB := Lib.hid hb
    have HTL := Lib.hid htl
    clear hte hto htr hb htl
    by_cases hlt : j < m
    · have hjl : j < rs.length := by rw [HL.out]; exact hlt
      have RR := HR.out.below BB.out
      obtain ⟨b, off, rfl, hc⟩ := RR.2.1.resolve_left (by omega)
      have c0 := hc j hjl
      obtain ⟨hrow, hn⟩ := RR.2.2 _ (List.getElem_mem hjl)
      have HTK : Hid ((rs.take (j + 1)).map RowV.xs = (rs.take j).map RowV.xs ++ [rs[j].xs]) := Lib.hid (by rw [List.take_succ_eq_append_getElem hjl, List.map_append]; rfl)
      obtain ⟨x, hx⟩ : ∃ x, x = rs[j] := ⟨_, rfl⟩
      rw [← hx] at c0 hrow hn HTK
      have HROW := Lib.hid hrow
      clear hc hrow hx RR
      obtain ⟨xb, xa, xn, xc, xs⟩ := x
      simp only at c0 HROW hn HTK
      have zb := BB.out.size
      have zo := (World.ownsRow.lt HTO.out w.heap.size rfl).2
      go_wp2_with fail
      refine (toInt64S_any xa xn xc xs _ HROW.out hn).mono ?_
      rintro e w2 ⟨na, nc, rfl, ho, hb2⟩
      have HO2 : Hid (w2.ownsRow w.heap.size 22 1 (.slice (some ⟨w.heap.size, 0, none⟩) m m) m (ts.map RowV.val ++ List.replicate (m - j) (.slice none 0 0))) := Lib.hid (ownsRow_heap HTO.out fun k hk => hb2.block k (World.ownsRow.lt HTO.out k hk).2)
      have HT2 : Hid (∀ x ∈ ts, Reads w2 x.a x.n x.xs ∧ x.n ≤ 1048576 ∧ ∀ y, x.a = some y → y.block ≠ w.heap.size) := Lib.hid fun x hx => ⟨(HTR.out x hx).1.below hb2, (HTR.out x hx).2⟩
      have HN : Hid (Reads w2 na xn xs ∧ xn ≤ 1048576 ∧ ∀ y, na = some y → y.block ≠ w.heap.size) := Lib.hid ⟨ho.reads, hn, fun y hy => by have := ho.lo y hy; omega⟩
      have BB2 := Lib.hid (below_go BB.out hb2 zb)
      clear ho hb2 c0 HTO HTR
      obtain ⟨v1, c1⟩ : ∃ v, w2.cell? ⟨w.heap.size, j, none⟩ = some v := by
        rw [World.ownsRow.cellAt HO2.out j (by rw [Nat.mul_one]; exact hlt), List.getElem?_append_right (by simp [HTL.out]), List.getElem?_replicate, if_pos (by simp [HTL.out]; omega)]
        exact ⟨_, rfl⟩
      have f1 := World.ownsRow.frozenAt HO2.out j
      have zo2 := (World.ownsRow.lt HO2.out w.heap.size rfl).2
      go_wp2
      go_roundw
      case rel =>
        have hst := World.ownsRow.stored HO2.out j (.slice na xn nc)
        refine ⟨j + 1, by omega, by go_num, ⟨ts ++ [⟨0, na, xn, nc, xs⟩], by simp [HTL.out], by rw [List.map_append, HTE.out, HTK.out]; rfl, ?_, fun x hx => ?_⟩, BB2.out.setCell (p := ⟨w.heap.size, j, none⟩) (Nat.le_refl _) _⟩
        · have e : (ts ++ [(⟨0, na, xn, nc, xs⟩ : RowV)]).map RowV.val ++ List.replicate (m - (j + 1)) (Value.slice none 0 0) = (ts.map RowV.val ++ List.replicate (m - j) (Value.slice none 0 0)).set j (Value.slice na xn nc) := by
            rw [List.set_append_right _ _ (by simp [HTL.out]), List.length_map, HTL.out, Nat.sub_self, show m - j = (m - (j + 1)) + 1 by omega, List.replicate_succ, List.set_cons_zero, List.map_append, List.append_assoc]
            rfl
          rw [e]
          exact hst.1
        · rcases List.mem_append.1 hx with hx | hx
          · exact ⟨(HT2.out x hx).1.setFar (p := ⟨w.heap.size, j, none⟩) (HT2.out x hx).2.2 _, (HT2.out x hx).2⟩
          · simp only [List.mem_singleton] at hx
            subst hx
            exact ⟨HN.out.1.setFar (p := ⟨w.heap.size, j, none⟩) HN.out.2.2 _, HN.out.2⟩
      case measure => first | (simp [intOf]; done) | (simp [intOf]; omega)
    · have hjm : j = m := by omega
      go_wp2
      go_ret
      subst hjm
      refine ⟨_, ts, rfl, ⟨HTL.out, ?_, fun x hx => ⟨(HTR.out x hx).1, (HTR.out x hx).2.1⟩⟩, by rw [HTE.out, List.take_of_length_le (by rw [HL.out]; exact Nat.le_refl _)], BB.out⟩
      refine .inr ⟨w.heap.size, 0, rfl, fun i hi => ?_⟩
      have h3 := World.ownsRow.cells HTO.out (g := w.heap.size) rfl i (RowV.val ts[i]) (by rw [List.getElem?_append_left (by simpa using hi)]; simp [hi])
      have e : (⟨w.heap.size, 0, none⟩ : Addr).add i = ⟨w.heap.size, 0 + i, none⟩ := by cases i <;> simp [Addr.add]
      rw [e] at h3
      exact h3

end Go.Proofs.Ytmlejlediflaaaa
