/- The laws' copies of slices of slices of numbers: they are the call's own. -/
import Derived.Test.YtmlejlediflaaaaLawSS
import Derived.Test.YtmlejlediflaaaaRer
namespace Go.Proofs.Ytmlejlediflaaaa
open Go.RowKit Go.ChangeShapes

set_option maxHeartbeats 400000 in
theorem toInt64S_new (a : Option Addr) (n cap : Nat) (xs : List Int) (w : World) (hr : Reads w a n xs) (hn : n ≤ 1048576) :
    Calls Try.prog 46 #[.slice a n cap] w fun e w' => ∃ c, e = .returned (.slice (some ⟨w.heap.size, 0, none⟩) n c) ∧ OwnIn w.heap.size (w.heap.size + 1) w' (some ⟨w.heap.size, 0, none⟩) n c xs ∧ w.heap.size < w'.heap.size ∧ Below w.heap.size w w' := by
  obtain ⟨i0, hi, hz0, hz1, hz2⟩ := info_parts infoInt
  have hl := hr.len
  have HL := Lib.hid hl; clear hl
  rcases Nat.eq_zero_or_pos n with h0 | h0
  · subst h0
    have HR := Lib.hid hr; clear hr
    go_enter Try.func46, Try.ntmps46
    go_wp2_with (at_make; refine wpList_make_full w rfl _ _ 22 rfl w.heap.size 2 i0 (.int .i64 0) 1 Try.underlying22 hi hz0 hz1 .i64 .i64 _ _ 0 rfl rfl (by rfl) (by rfl) (by rw [hz2]; omega) (by unfold maxLen; omega) (Nat.le_refl _) ?_)
    intro w1 hown hgrow
    go_wp2
    refine wp_loop_rounds 1 ?_; rw [rounds_succ]
    go_wp2
    go_ret
    have hxs : xs = [] := List.eq_nil_of_length_eq_zero HL.out
    subst hxs
    have ho := own_made hown
    exact ⟨_, rfl, ⟨ho, fun x hx => by obtain rfl := Option.some.inj hx; exact Nat.lt_succ_self _⟩, (World.ownsRow.lt ho w.heap.size rfl).2, Below.ofGrown hgrow⟩
  · obtain ⟨b, off, rfl, hb, hc⟩ := hr.cells h0
    have HC := Lib.hid hc; clear hc
    have HR := Lib.hid hr; clear hr
    go_enter Try.func46, Try.ntmps46
    go_wp2_with (at_make; refine wpList_make_full w rfl _ _ 22 rfl w.heap.size 2 i0 (.int .i64 0) 1 Try.underlying22 hi hz0 hz1 .i64 .i64 _ _ n rfl rfl (by omega) (by omega) (by rw [hz2]; omega) (by unfold maxLen; omega) (Nat.le_refl _) ?_)
    intro w1 hown hgrow
    have hown1 := own_made hown
    have hbel := Below.ofGrown hgrow
    clear hown hgrow
    go_wp2
    go_loopw [4] (fun i wr => ∃ k : Nat, k ≤ n ∧ i = .int .i64 k ∧ Own w.heap.size wr (some ⟨w.heap.size, 0, none⟩) n n (xs.take k ++ List.replicate (n - k) 0) ∧ Below w.heap.size w wr) (fun i _ => n - (intOf i).toNat)
    case atStart => exact ⟨0, Nat.zero_le _, rfl, by simpa using hown1, hbel⟩
    case round =>
      obtain ⟨k, hk, rfl, ho, hbl⟩ := hrel
      clear hown1 hbel
      by_cases hlt : k < n
      · have h1 : wr.cell? ⟨b, off + k, none⟩ = some (.int .i64 (xs.getD k 0)) := (hbl.cell (by exact hb)).trans (HC.out k hlt)
        have h2 := ho.cellAt k hlt
        have h3 := ho.frozenAt k
        go_wp2
        go_roundw
        case rel =>
          have := ho.store k (xs.getD k 0)
          rw [set_prefix xs n k HL.out hlt] at this
          exact ⟨k + 1, by omega, by go_num, by simpa using this.1, by simpa using hbl.setCell (p := ⟨w.heap.size, k, none⟩) (Nat.le_refl _) _⟩
        case measure => simp [intOf]; omega
      · have hkn : k = n := by omega
        go_wp2
        go_ret
        subst hkn
        have hh := HL.out
        rw [Nat.sub_self, List.replicate_zero, List.append_nil, List.take_of_length_le (by omega)] at ho
        exact ⟨_, rfl, ⟨ho, fun x hx => by obtain rfl := Option.some.inj hx; exact Nat.lt_succ_self _⟩, (World.ownsRow.lt ho w.heap.size rfl).2, hbl⟩

set_option maxRecDepth 100000 in
set_option maxHeartbeats 1000000 in
theorem toInt64SS_own (ad : Option Addr) (m cap : Nat) (rs : List RowV) (w : World) (hr : ReadsSS w ad m rs) (hm : m ≤ 1048576) :
    Calls Try.prog 24 #[.slice ad m cap] w fun e w' => ∃ a ts, e = .returned (.slice a m m) ∧ GrowSS w.heap.size w' (.slice a m m) m ts ∧ ts.map RowV.xs = rs.map RowV.xs ∧ Below w.heap.size w w' := by
  obtain ⟨i1, hj, hs0, hs1, hs2⟩ := info_parts infoSlice
  have HL := Lib.hid hr.1
  have HR := Lib.hid hr; clear hr
  go_enter Try.func24, Try.ntmps24
  go_wp2_with (at_make; refine wpList_make_full w rfl _ _ 30 rfl w.heap.size 22 i1 (.slice none 0 0) 1 Try.underlying30 hj hs0 hs1 .i64 .i64 _ _ m rfl rfl (by rfl) (by rfl) (by rw [hs2]; omega) (by unfold maxLen; omega) (Nat.le_refl _) ?_)
  intro w1 hown hgrow
  have hbel := Below.ofGrown hgrow
  have F0 := Lib.hid (fill_madeR hown)
  clear hown hgrow
  go_wp2
  go_loopw [4] (fun i wr => ∃ j : Nat, j ≤ m ∧ i = .int .i64 j ∧ (∃ ts : List RowV, ts.map RowV.xs = (rs.take j).map RowV.xs ∧ FillSS w.heap.size wr w.heap.size m j ts) ∧ Below w.heap.size w wr) (fun i _ => m - (intOf i).toNat)
  case atStart => exact ⟨0, Nat.zero_le _, rfl, ⟨[], rfl, F0.out⟩, hbel⟩
  case round =>
    obtain ⟨j, hj2, rfl, ⟨ts, hte, hF⟩, hb⟩ := hrel
    clear hbel F0
    have HTE := Lib.hid hte
    have F := Lib.hid hF
    have BB := Lib.hid hb
    clear hte hF hb
    by_cases hlt : j < m
    · have hjl : j < rs.length := by rw [HL.out]; exact hlt
      have RR := HR.out.below BB.out
      obtain ⟨b, off, rfl, hc⟩ := RR.2.1.resolve_left (by omega)
      have c0 := hc j hjl
      obtain ⟨hrow, hn⟩ := RR.2.2 _ (List.getElem_mem hjl)
      have HTK : Hid ((rs.take (j + 1)).map RowV.xs = (rs.take j).map RowV.xs ++ [rs[j].xs]) := Lib.hid (by rw [List.take_succ_eq_append_getElem hjl, List.map_append]; rfl)
      obtain ⟨x, hx⟩ : ∃ x, x = rs[j] := ⟨_, rfl⟩
      rw [← hx] at c0 hrow hn HTK
      have HROW := Lib.hid hrow
      clear hc hrow hx RR
      obtain ⟨xb, xa, xn, xc, xs⟩ := x
      simp only at c0 HROW hn HTK
      have zb := BB.out.size
      have zo := F.out.lt.2
      go_wp2_with fail
      refine (toInt64S_new xa xn xc xs _ HROW.out hn).mono ?_
      rintro e w2 ⟨nc, rfl, ho, hz, hb2⟩
      have F2 := Lib.hid (F.out.below hb2)
      have hrow := F.out.row
      have hst := F2.out.store hlt ho hn zo hz (fun x hx => (hrow x hx).2.2.2)
      have FS := Lib.hid hst
      have BB2 := Lib.hid (below_go BB.out hb2 zb)
      have c1 : w2.cell? ⟨w.heap.size, j, none⟩ = some (.slice none 0 0) := by
        have hl := F2.out.len
        have h := World.ownsRow.cellAt F2.out.own j (by have := F2.out.own.1; omega)
        refine h.trans ?_
        rw [List.getElem?_append_right (by rw [List.length_map]; omega), List.length_map, hl, Nat.sub_self]
        exact List.getElem?_replicate_of_lt (by omega)
      have f1 := World.ownsRow.frozenAt F2.out.own j
      have zo2 := F2.out.lt.2
      clear ho hb2 c0 hst hrow hz
      go_wp2
      go_roundw
      case rel =>
        exact ⟨j + 1, by omega, by go_num, ⟨_, by rw [List.map_append, HTE.out, HTK.out]; rfl, FS.out⟩, BB2.out.setCell (p := ⟨w.heap.size, j, none⟩) (Nat.le_refl _) _⟩
      case measure => first | (simp [intOf]; done) | (simp [intOf]; omega)
    · have hjm : j = m := by omega
      go_wp2
      go_ret
      subst hjm
      exact ⟨_, ts, rfl, F.out.full, by rw [HTE.out, List.take_of_length_le (by rw [HL.out]; exact Nat.le_refl _)], BB.out⟩

/-- All numbers' count. -/
def lenSS : List (List Int) → Nat
  | [] => 0
  | x :: l => x.length + lenSS l

theorem tot_of {w : World} {ad : Option Addr} {m : Nat} {rs : List RowV} (h : ReadsSS w ad m rs) : totS rs = lenSS (rs.map RowV.xs) := by
  have h2 := h.2.2
  clear h
  induction rs with
  | nil => rfl
  | cons x l ih =>
    have h3 := (h2 x (by simp)).1.len
    have h4 := ih fun y hy => h2 y (by simp [hy])
    simp only [totS, List.map_cons, lenSS]
    omega

theorem ownSS_mono {lo lo' hi : Nat} {w : World} {ad : Option Addr} {m : Nat} {rs : List RowV} (h : OwnSS lo hi w ad m rs) (hl : lo' ≤ lo) : OwnSS lo' hi w ad m rs := by
  refine ⟨h.1, ?_, fun x hx => ⟨(h.2.2.1 x hx).1, (h.2.2.1 x hx).2.1, ?_⟩, h.2.2.2⟩
  · rcases h.2.1 with h0 | ⟨g, off, ha, h1, h2⟩
    · exact .inl h0
    · exact .inr ⟨g, off, ha, by omega, h2⟩
  · rcases (h.2.2.1 x hx).2.2 with h0 | h0
    · exact .inl h0
    · exact .inr (by omega)

end Go.Proofs.Ytmlejlediflaaaa
