/- Common letters are taken as long as there are any: the program. -/
import Derived.Test.YtkedkleddpnanaaMapE
namespace Go.Proofs.Ytkedkleddpnanaa
open Go.RowKit Go.ChangeShapes

/-- How long a slice is. -/
def lenOf (v : Value) : Nat := match v with
  | .slice _ n _ => n
  | _ => 0

theorem OwnV.lenOf {B : Nat} {w : World} {v : Value} {n : Nat} {xs : List Int} (h : OwnV B w v n xs) : lenOf v = n := by
  obtain ⟨a, cap, rfl, _⟩ := h.form
  rfl

theorem OwnV.wrote {B lo hi : Nat} {w w1 : World} {v : Value} {n : Nat} {xs : List Int} (h : OwnV B w v n xs) (k : Wrote lo hi w w1) (hB : hi ≤ B) : OwnV B w1 v n xs := by
  refine ⟨h.1, ?_⟩
  rcases h.2 with h2 | ⟨g, c, cur, hv, hg, hh, r⟩
  · exact .inl h2
  · exact .inr ⟨g, c, cur, hv, hg, by rw [k.block g (Array.getElem?_eq_some_iff.1 hh).1 (.inr (Nat.le_trans hB hg))]; exact hh, r⟩

/-- Behind an append to what is the call's own. -/
theorem wrote_appended {B lo hi : Nat} {w wr w1 : World} {v : Value} {n : Nat} {xs : List Int} {o : Obj} (h : Wrote lo hi w wr) (hB : w.heap.size ≤ B) (ho : OwnV B wr v n xs) (hg : (wr.alloc o).grownBy w1 v.ownBlock) : Wrote lo hi w w1 := by
  have ha : Wrote lo hi w (wr.alloc o) := h.trans (below_wrote ((Below.refl _ _).alloc (Nat.le_refl _) o))
  refine ⟨hg.os.trans ha.os, hg.tape.trans ha.tape, hg.output.trans ha.output, Nat.le_trans ha.size hg.size, fun j hj hd => (hg.block j (Nat.lt_of_lt_of_le hj ha.size) fun e => ?_).trans (ha.block j hj hd)⟩
  have := (World.ownsRow.lt ho j e.symm).1
  omega

theorem MapA.appended {B : Nat} {w w1 : World} {b : Nat} {L : List (List Int × List Int)} {v : Value} {n : Nat} {xs : List Int} {o : Obj} (h : MapA w b L) (hB : b < B) (ho : OwnV B w v n xs) (hg : (w.alloc o).grownBy w1 v.ownBlock) : MapA w1 b L := by
  refine (h.alloc o).heap (hg.block b (h.alloc o).lt fun e => ?_)
  have := (World.ownsRow.lt ho b e.symm).1
  omega

/-- What holds of the map while letters are taken. -/
structure Rests (n b : Nat) (L : List (List Int × List Int)) (vs : List (List Int)) (got : List Int) : Prop where
  keys : Keys8 L
  apart : KeysApart L
  sims : ∀ u ∈ valsL L, Sim n u
  have0 : L ≠ []
  rest : takeR n vs = got ++ takeR n (valsL L)
  room : ∀ u us, valsL L = u :: us → got.length + far u ≤ 196

theorem Rests.step {n b k : Nat} {L : List (List Int × List Int)} {vs : List (List Int)} {got : List Int} (h : Rests n b L vs got) (hc : common (valsL L) (n - 1) 0 = some k) : Rests n b (L.map fun x => (x.1, thenR n (exR n k) x.2)) vs (got ++ [(k : Int) + 1]) := by
  have hvals : valsL (L.map fun x => (x.1, thenR n (exR n k) x.2)) = strip n k (valsL L) := by simp [valsL, strip]
  obtain ⟨_, h2, h3, _⟩ := common_some hc
  refine ⟨fun x hx => ?_, fun i j x y hx hy e => ?_, fun u hu => ?_, ?_, ?_, ?_⟩
  · obtain ⟨y, hy, rfl⟩ := List.mem_map.1 hx
    exact h.keys y hy
  · rw [List.getElem?_map] at hx hy
    cases hi : L[i]? with
    | none => rw [hi] at hx; cases hx
    | some p =>
      cases hj : L[j]? with
      | none => rw [hj] at hy; cases hy
      | some q =>
        rw [hi] at hx
        rw [hj] at hy
        simp only [Option.map_some, Option.some.injEq] at hx hy
        exact h.apart i j p q hi hj (by rw [← hx, ← hy] at e; exact e)
  · rw [hvals] at hu
    obtain ⟨x, hx, rfl⟩ := List.mem_map.1 hu
    have hx := h.sims x hx
    exact thenR_sim (exR_sim n k hx.hi (by omega)) hx
  · simp
    exact h.have0
  · rw [hvals]
    cases hv : valsL L with
    | nil =>
      have : L = [] := by simpa [valsL] using hv
      exact absurd this h.have0
    | cons u us =>
      rw [h.rest, hv, takeR_some (by rw [← hv]; exact h.sims) (by rw [← hv]; exact hc)]
      simp
  · intro u us hu
    rw [hvals] at hu
    cases hv : valsL L with
    | nil => rw [hv] at hu; cases hu
    | cons v us' =>
      rw [hv] at hu
      simp only [strip, List.map_cons, List.cons.injEq] at hu
      rw [← hu.1, List.length_append, List.length_singleton]
      have hvs := h.sims v (by rw [hv]; simp)
      have hd : at8 v (k + 1) < at8 v k := by
        have := h3
        rw [hv] at this
        simp [allBeg] at this
        exact this.1
      have := far_less hvs (show k + 1 < n by omega) hd
      have := h.room v us' hv
      omega

set_option maxRecDepth 100000 in
set_option maxHeartbeats 1000000 in
theorem takeAll_any (n : Nat) (h1 : 1 ≤ n) (h8 : n ≤ 8) (b : Nat) (L : List (List Int × List Int)) (w : World) (hm : MapA w b L) (hR : Rests n b L (valsL L) []) :
    Calls Try.prog 105 #[.map (some b), .int .i64 n] w fun e w' => ∃ a m cap, e = .returned (.slice a m cap) ∧ m ≤ 196 ∧ Own w.heap.size w' a m cap (takeR n (valsL L)) ∧ Wrote b (b + 1) w w' := by
  obtain ⟨i0, hi, hz0, hz1, hz2⟩ := info_parts infoInt
  have HM := Lib.hid hm
  have RR := Lib.hid hR
  have zb0 := hm.lt
  clear hm hR
  go_enter Try.func105, Try.ntmps105
  go_wp2_with fail
  refine (commonLetter_any n h1 h8 b L (fun x hx => (RR.out.sims x.2 (List.mem_map.2 ⟨x, hx, rfl⟩)).len) _ HM.out).mono ?_
  rintro e w0 ⟨rfl, hb⟩
  have M0 := Lib.hid (HM.out.below hb)
  have W0 := Lib.hid (below_wrote (lo := b) (hi := b + 1) hb)
  have O0 : Hid (OwnV w.heap.size w0 (.slice none 0 0) 0 []) := Lib.hid (OwnV.nil _ _)
  clear hb
  go_wp2
  go_loopw [5, 6] (fun v i wr => ∃ (got : List Int) (L' : List (List Int × List Int)), Rests n b L' (valsL L) got ∧ i = .int .i64 (letC (valsL L') n) ∧ OwnV w.heap.size wr v got.length got ∧ MapA wr b L' ∧ Wrote b (b + 1) w wr) (fun v _ _ => 200 - lenOf v)
  case atStart => exact ⟨[], L, RR.out, rfl, O0.out, M0.out, W0.out⟩
  case round =>
    obtain ⟨got, L', hR, rfl, ho, hm, hw⟩ := hrel
    clear M0 W0 O0
    have RS := Lib.hid hR
    have HO := Lib.hid ho
    have MW := Lib.hid hm
    have WW := Lib.hid hw
    clear hR ho hm hw
    have zz := WW.out.size
    cases hc : common (valsL L') (n - 1) 0 with
    | none =>
      have hl : letC (valsL L') n = 0 := by unfold letC; rw [hc]
      have HT : Hid (takeR n (valsL L) = got) := Lib.hid (by rw [RS.out.rest, takeR_none hc, List.append_nil])
      rw [hl]
      clear hl hc
      go_wp2
      go_ret
      obtain ⟨a, cap, rfl, ho'⟩ := HO.out.form
      have hg : got.length ≤ 196 := by
        cases hv : valsL L' with
        | nil =>
          have : L' = [] := by simpa [valsL] using hv
          exact absurd this RS.out.have0
        | cons u us =>
          have := RS.out.room u us hv
          omega
      exact ⟨a, _, cap, rfl, hg, by rw [HT.out]; exact ho', WW.out⟩
    | some k =>
      obtain ⟨_, hk2, _, _⟩ := common_some hc
      have hl : letC (valsL L') n = (k : Int) + 1 := by unfold letC; rw [hc]
      have RN := Lib.hid (RS.out.step hc)
      have hg : got.length ≤ 195 := by
        cases hv : valsL L' with
        | nil =>
          have : L' = [] := by simpa [valsL] using hv
          exact absurd this RS.out.have0
        | cons u us =>
          have := RS.out.room u us hv
          have h2 := RN.out.room (thenR n (exR n k) u) (strip n k us) (by
            have e : valsL (L'.map fun x => (x.1, thenR n (exR n k) x.2)) = strip n k (valsL L') := by simp [valsL, strip]
            rw [e, hv]
            rfl)
          rw [List.length_append, List.length_singleton] at h2
          omega
      rw [hl]
      clear hl hc
      have tne : (((k : Int) + 1) != 0) = true := by rw [bne_iff_ne]; omega
      have KT := Lib.hid (fun W hM => take_any n k h8 (by omega) b L' RS.out.keys RS.out.apart (fun x hx => (RS.out.sims x.2 (List.mem_map.2 ⟨x, hx, rfl⟩)).len) W hM)
      go_wp2_with fail
      refine (KT.out _ MW.out).mono ?_
      rintro e w1 ⟨rfl, hm1, hw1⟩
      clear tne
      have M1 := Lib.hid hm1
      have W1 := Lib.hid (WW.out.trans hw1)
      have HO2 := Lib.hid (HO.out.wrote hw1 (by omega))
      clear hm1 hw1
      have z1 := W1.out.size
      go_wp2_with (at_builtin; refine wpList_append_own _ rfl _ _ 23 rfl w.heap.size 2 i0 (.int .i64 0) 1 8 Try.underlying23 hi hz0 hz1 hz2 rfl (by decide) _ _ _ rfl (World.ownsRow.alloc HO2.out _) ⟨w1.heap.size, 0, none⟩ 1 1 [.int .i64 ((k : Int) + 1)] rfl rfl (one_new w1 ((k : Int) + 1) _) (one_cell _) (by unfold maxLen; omega) (by omega) (by simp; omega) ?_)
      intro v' w2 hown' hgrow _
      have HO3 := Lib.hid (OwnV.appended hown')
      have M3 := Lib.hid (M1.out.appended (B := w.heap.size) zb0 HO2.out hgrow)
      have W3 := Lib.hid (wrote_appended W1.out (Nat.le_refl _) HO2.out hgrow)
      clear hown' hgrow
      go_wp2_with fail
      refine (commonLetter_any n h1 h8 b (L'.map fun x => (x.1, thenR n (exR n k) x.2)) (fun x hx => (RN.out.sims x.2 (List.mem_map.2 ⟨x, hx, rfl⟩)).len) _ M3.out).mono ?_
      rintro e w3 ⟨rfl, hb3⟩
      go_wp2
      go_roundw
      case rel =>
        exact ⟨got ++ [(k : Int) + 1], _, RN.out, rfl, by rw [List.length_append]; exact HO3.out.drawn hb3, M3.out.below hb3, W3.out.drawn hb3⟩
      case measure =>
        have e1 := HO.out.lenOf
        have e2 := HO3.out.lenOf
        rw [e1, e2]
        omega

end Go.Proofs.Ytkedkleddpnanaa
