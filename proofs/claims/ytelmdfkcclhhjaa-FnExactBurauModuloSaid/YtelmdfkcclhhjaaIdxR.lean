/- The first row with an entry at a column: slices.IndexFunc with the program's closure. -/
import Derived.Test.YtelmdfkcclhhjaaRer
import Derived.Test.YtelmdfkcclhhjaaRnkQ
namespace Go.Proofs.Ytelmdfkcclhhjaa
open Go.RowKit Go.ChangeShapes

theorem hasEntry_any (c g : Nat) (a : Option Addr) (n cap : Nat) (row : List Int) (w : World) (hg : w.cell? ⟨g, 0, none⟩ = some (.int .i64 c)) (hr : Reads w a n row) (hc : c < n) :
    Calls Try.prog 81 #[.slice a n cap, .pointer (some ⟨g, 0, none⟩)] w fun e w' => e = .returned (.bool (decide (ent row c ≠ 0))) ∧ w = w' := by
  obtain ⟨b, o, rfl, hb, hcell⟩ := hr.cells (by omega)
  have c1 := hcell c hc
  have c0 : 0 ≤ (c : Int) := by omega
  have c2 : (c : Int) < (n : Int) := by omega
  obtain ⟨x, hx⟩ : ∃ x, x = row.getD c 0 := ⟨_, rfl⟩
  have he : ent row c = x := hx.symm
  rw [← hx] at c1
  rw [he]
  clear hcell hx he hr
  by_cases h : x = 0
  · subst h
    go_enter Try.func81, Try.ntmps81
    go_wp2
    go_ret
    exact ⟨ret_bool (by simp), rfl⟩
  · have t1 : (x != 0) = true := by simp [h]
    go_enter Try.func81, Try.ntmps81
    go_wp2
    go_ret
    exact ⟨ret_bool (by simp [h]), rfl⟩

set_option maxRecDepth 100000 in
set_option maxHeartbeats 1000000 in
theorem indexRow_any (c g q : Nat) (ad : Option Addr) (m cap : Nat) (rs : List RowV) (w : World) (hg : w.cell? ⟨g, 0, none⟩ = some (.int .i64 c)) (hr : ReadsSS w ad m rs) (hlen : rs.length = m) (hq : ∀ r ∈ rs, r.n = q) (hc : c < q) (hm : m ≤ 1000) :
    Calls Try.prog 80 #[.slice ad m cap, .func (.func 81) #[] #[.pointer (some ⟨g, 0, none⟩)]] w fun e w' =>
      ∃ r : Int, e = .returned (.int .i64 r) ∧ w = w' ∧ ((r = -1 ∧ ∀ x ∈ rs, ent x.xs c = 0) ∨ ∃ i : Nat, r = (i : Int) ∧ ∃ h : i < rs.length, ent rs[i].xs c ≠ 0) := by
  have G1 := Lib.hid hr; have HL := Lib.hid hlen; have HQ := Lib.hid hq
  have HST := Lib.hid (fun a n cap row (h : Reads w a n row) (h2 : c < n) => hasEntry_any c g a n cap row w hg h h2)
  clear hr hlen hq hg
  go_enter Try.func80, Try.ntmps80
  go_wp2
  go_loop [8] (fun i => ∃ k : Nat, k ≤ m ∧ i = .int .i64 k ∧ Hid (∀ j (h : j < rs.length), j < k → ent rs[j].xs c = 0)) (fun i => m - (intOf i).toNat)
  case atStart => exact ⟨0, Nat.zero_le _, rfl, Lib.hid (fun j _ hj => absurd hj (Nat.not_lt_zero _))⟩
  case round =>
    obtain ⟨k, hk, rfl, HS⟩ := hrel
    by_cases hlt : k < m
    · have kr : k < rs.length := by rw [HL.out]; exact hlt
      obtain ⟨g1, o1, rfl, hc1⟩ := G1.out.2.1.resolve_left (by omega)
      have c1 := hc1 k kr
      obtain ⟨r1, hr1⟩ : ∃ x, x = rs[k] := ⟨_, rfl⟩
      have hmem : r1 ∈ rs := by rw [hr1]; exact List.getElem_mem kr
      have hrd := (G1.out.2.2 r1 hmem).1
      have hn := HQ.out r1 hmem
      rw [← hr1] at c1
      have K := Lib.hid (HST.out r1.a r1.n r1.cap r1.xs hrd (by omega))
      have HR1 := Lib.hid hr1
      clear hc1 hr1 hrd hn hmem
      cases hi : decide (ent r1.xs c ≠ 0) with
      | true =>
        have HI := Lib.hid hi
        go_wp2_with (go_at_call 81; refine (K.out).mono ?_; rintro e w' ⟨rfl, rfl⟩; rw [hi])
        go_ret
        exact ⟨(k : Int), rfl, rfl, .inr ⟨k, rfl, kr, by rw [← HR1.out]; exact of_decide_eq_true HI.out⟩⟩
      | false =>
        have HI := Lib.hid hi
        go_wp2_with (go_at_call 81; refine (K.out).mono ?_; rintro e w' ⟨rfl, rfl⟩; rw [hi])
        go_round
        case rel =>
          refine ⟨k + 1, by omega, by go_num, Lib.hid fun j hj hjk => ?_⟩
          by_cases e : j = k
          · subst e
            rw [← HR1.out]
            exact Decidable.not_not.1 (of_decide_eq_false HI.out)
          · exact HS.out j hj (by omega)
        case measure => simp [intOf]; omega
    · have hkm : k = m := by omega
      have HK := Lib.hid hkm; clear hkm
      go_wp2
      go_ret
      exact ⟨-1, rfl, rfl, .inl ⟨rfl, fun x hx => by
        obtain ⟨j, hj, rfl⟩ := List.getElem_of_mem hx
        exact HS.out j hj (by rw [HK.out, ← HL.out]; exact hj)⟩⟩

end Go.Proofs.Ytelmdfkcclhhjaa
