/- Strands that are followed and forgotten: the program. -/
import Derived.Test.YtehcbamfendbaaaCmbP
import Derived.Test.YtehcbamfendbaaaNst
namespace Go.Proofs.Ytehcbamfendbaaa
open Go.RowKit Go.ChangeShapes

theorem setCell_same {W : World} {B : Nat} {t : TypeId} {v : Value} (h : Boxed W B t v) : W.setCell ⟨B, 0, none⟩ v = W := by
  obtain ⟨hlt, hk⟩ := Array.getElem?_eq_some_iff.1 h
  have e : (W.setCell ⟨B, 0, none⟩ v).heap = W.heap := by
    unfold World.setCell
    refine Array.ext (by simp) fun i h1 h2 => ?_
    rw [Array.getElem_modify]
    split
    · rename_i e; subst e; rw [hk]; rfl
    · rfl
  exact show World.mk (W.setCell ⟨B, 0, none⟩ v).heap W.tape W.drawn W.os W.output = _ by rw [e]

theorem OwnV.setCell_below {B : Nat} {w : World} {v : Value} {n : Nat} {xs : List Int} (h : OwnV B w v n xs) {b : Nat} (hb : b < B) (u : Value) : OwnV B (w.setCell ⟨b, 0, none⟩ u) v n xs := by
  refine World.ownsRow.kept h (grownBy_setCell' w b u) ?_
  rcases h.2 with ⟨rfl, _⟩ | ⟨g, cap, cur, rfl, hg, _⟩
  · exact .inl rfl
  · exact .inr (by simp [Value.ownBlock]; omega)

/-- The closure that follows a strand, whose place lies in the box b. -/
def folV (b : Nat) : Value := .func (.func 141) #[] #[.pointer (some ⟨b, 0, none⟩)]

set_option maxHeartbeats 1000000 in
theorem follow_any (p : Int) (B : Nat) (w : World) (hB : w.heap.size = B) :
    Calls Try.prog 116 #[.int .i64 p] w fun e w' => e = .returned (folV B) ∧ Boxed w' B 2 (.int .i64 p) ∧ Below w.heap.size w w' ∧ w'.heap.size = B + 1 := by
  subst hB
  go_enter Try.func116, Try.ntmps116
  go_wp2
  go_ret
  refine ⟨rfl, ?_, ?_, ?_⟩
  · exact Boxed.new w 2 (.int .i64 p)
  · exact below1 w _
  · simp

set_option maxHeartbeats 1000000 in
theorem followed_any (b : Nat) (p x : Int) (w : World) (hb : Boxed w b 2 (.int .i64 p)) (h1 : -1000 < x) (h2 : x < 1000) (h3 : 0 ≤ p) (h4 : p < 1000) :
    Calls Try.prog 141 #[.int .i64 x, .pointer (some ⟨b, 0, none⟩)] w fun e w' => e = .returned (.int .i64 p) ∧ w' = w.setCell ⟨b, 0, none⟩ (.int .i64 (stepP p x)) := by
  have hs := setCell_same hb
  have HS := Lib.hid hs; clear hs
  have c0 := hb.cell
  have f0 := hb.frozen
  have I1 := Lib.hid (fun W => index_any x W h1 h2)
  rw [idxv_cnt] at I1
  have e1 : IntKind.i64.wrap (p + 1) = p + 1 := IntWalk.i64_in _ (by omega)
  have e2 : IntKind.i64.wrap (p - 1) = p - 1 := IntWalk.i64_in _ (by omega)
  have HST : Hid (stepP p x = if idx x = p then p - 1 else if idx x = p + 1 then p + 1 else p) := Lib.hid rfl
  obtain ⟨q, hq⟩ : ∃ q, q = idx x := ⟨_, rfl⟩
  rw [← hq] at I1 HST
  clear hq
  by_cases g1 : q = p
  · have t1 : (q == p) = true := by simp [g1]
    have G := Lib.hid g1; clear g1
    go_enter Try.func141, Try.ntmps141
    go_wp2_with (go_at_call 111; refine (I1.out _).mono ?_; rintro e w' ⟨rfl, rfl⟩)
    go_ret
    exact ⟨rfl, by rw [HST.out, if_pos G.out]⟩
  · have t1 : (q == p) = false := by simp [g1]
    by_cases g2 : q = p + 1
    · have t2 : (q == p + 1) = true := by simp [g2]
      have G := Lib.hid g1; have G2 := Lib.hid g2; clear g1 g2
      go_enter Try.func141, Try.ntmps141
      go_wp2_with (go_at_call 111; refine (I1.out _).mono ?_; rintro e w' ⟨rfl, rfl⟩)
      go_ret
      exact ⟨rfl, by rw [HST.out, if_neg G.out, if_pos G2.out]⟩
    · have t2 : (q == p + 1) = false := by simp [g2]
      have G := Lib.hid g1; have G2 := Lib.hid g2; clear g1 g2
      go_enter Try.func141, Try.ntmps141
      go_wp2_with (go_at_call 111; refine (I1.out _).mono ?_; rintro e w' ⟨rfl, rfl⟩)
      go_ret
      exact ⟨rfl, by rw [HST.out, if_neg G.out, if_neg G2.out, HS.out]⟩

/-- What is kept of a letter without a strand, and whether anything is. -/
def keptV (p x : Int) : Int := if idx x < p then x else if p + 1 < idx x then (idx x - 1) * cnt x else 0
def keptO (p x : Int) : Bool := decide (idx x < p) || decide (p + 1 < idx x)

theorem withoutP_eq (p x : Int) : withoutP p x = if keptO p x = true then [keptV p x] else [] := by
  unfold withoutP keptO keptV
  by_cases h1 : idx x < p
  · simp [h1]
  · by_cases h2 : p + 1 < idx x
    · simp [h1, h2]
    · simp [h1, h2]

set_option maxHeartbeats 1000000 in
theorem without_any (x p : Int) (w : World) (h1 : -1000 < x) (h2 : x < 1000) (h3 : 0 ≤ p) (h4 : p < 1000) {v : Int} {o : Bool} (hv : keptV p x = v) (ho : keptO p x = o) :
    Calls Try.prog 117 #[.int .i64 x, .int .i64 p] w fun e w' => e = .returned (.tuple #[.int .i64 v, .bool o]) ∧ w' = w := by
  have I1 := Lib.hid (fun W => index_any x W h1 h2)
  rw [idxv_cnt] at I1
  have hq0 : 0 ≤ idx x ∧ idx x < 1000 := by rcases idx_cases x with ⟨_, e, _⟩ | ⟨_, e, _⟩ <;> rw [e] <;> omega
  have HV := Lib.hid hv; have HO := Lib.hid ho; clear hv ho
  unfold keptV at HV
  unfold keptO at HO
  obtain ⟨q, hq⟩ : ∃ q, q = idx x := ⟨_, rfl⟩
  rw [← hq] at I1 HV HO hq0
  clear hq
  have e1 : IntKind.i64.wrap (p + 1) = p + 1 := IntWalk.i64_in _ (by omega)
  have e2 : IntKind.i64.wrap (q - 1) = q - 1 := IntWalk.i64_in _ (by omega)
  have W1 := Lib.hid (fun W => withIndex_any x (q - 1) W (by omega) (by omega))
  by_cases g1 : q < p
  · have e3 : v = x := by rw [← HV.out, if_pos g1]
    have e4 : o = true := by rw [← HO.out]; simp [g1]
    subst e3 e4
    go_enter Try.func117, Try.ntmps117
    go_wp2_with (go_at_call 111; refine (I1.out _).mono ?_; rintro e w' ⟨rfl, rfl⟩)
    go_ret2
    exact ⟨rfl, rfl⟩
  · by_cases g2 : p + 1 < q
    · have e3 : v = (q - 1) * cnt x := by rw [← HV.out, if_neg g1, if_pos g2]
      have e4 : o = true := by rw [← HO.out]; simp [g1, g2]
      have E3 := Lib.hid e3; clear e3
      subst e4
      go_enter Try.func117, Try.ntmps117
      go_wp2_with (first | (go_at_call 111; refine (I1.out _).mono ?_; rintro e w' ⟨rfl, rfl⟩) | (go_at_call 142; refine (W1.out _).mono ?_; rintro e w' ⟨rfl, rfl⟩))
      go_ret2
      rw [E3.out]
      exact ⟨rfl, rfl⟩
    · have e3 : v = 0 := by rw [← HV.out, if_neg g1, if_neg g2]
      have e4 : o = false := by rw [← HO.out]; simp [g1, g2]
      subst e3 e4
      go_enter Try.func117, Try.ntmps117
      go_wp2_with (go_at_call 111; refine (I1.out _).mono ?_; rintro e w' ⟨rfl, rfl⟩)
      go_ret2
      exact ⟨rfl, rfl⟩

end Go.Proofs.Ytehcbamfendbaaa
