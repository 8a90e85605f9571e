/- Merged texts. -/
import Derived.Test.YtehcbamfendbaaaSeCmbP
import Derived.Test.YtehcbamfendbaaaSeNst
import Derived.Test.YtehcbamfendbaaaSeQA

/- Strands that are followed and forgotten: the program. -/
namespace Go.Proofs.Ytehcbamfendbaaa
open Go.RowKit Go.ChangeShapes

theorem setCell_same {W : World} {B : Nat} {t : TypeId} {v : Value} (h : Boxed W B t v) : W.setCell ⟨B, 0, none⟩ v = W := by
 obtain ⟨hlt, hk⟩ := Array.getElem?_eq_some_iff.1 h
 have e : (W.setCell ⟨B, 0, none⟩ v).heap = W.heap := by
  unfold World.setCell
  refine Array.ext (by simp) fun i h1 h2 => ?_
  rw [Array.getElem_modify]
  split
  ·rename_i e; subst e; rw [hk]; rfl
  ·rfl
 exact show World.mk (W.setCell ⟨B, 0, none⟩ v).heap W.tape W.drawn W.os W.output = _ by rw [e]

theorem OwnV.setCell_below {B : Nat} {w : World} {v : Value} {n : Nat} {xs : List Int} (h : OwnV B w v n xs) {b : Nat} (hb : b < B) (u : Value) : OwnV B (w.setCell ⟨b, 0, none⟩ u) v n xs := by
 refine World.ownsRow.kept h (grownBy_setCell' w b u) ?_
 rcases h.2 with ⟨rfl, _⟩ | ⟨g, cap, cur, rfl, hg, _⟩
 ·exact .inl rfl
 ·exact .inr (by simp [Value.ownBlock]; omega)

/-- The closure that follows a strand, whose place lies in the box b. -/
def folV (b : Nat) : Value := .func (.func 141) #[] #[.pointer (some ⟨b, 0, none⟩)]

set_option maxHeartbeats 1000000 in
theorem follow_any (p : Int) (B : Nat) (w : World) (hB : w.heap.size = B) :
  Calls Try.prog 116 #[.int .i64 p] w fun e w' => e = .returned (folV B) ∧ Boxed w' B 2 (.int .i64 p) ∧ Below w.heap.size w w' ∧ w'.heap.size = B + 1 := by
 subst hB
 go_enter Try.func116, Try.ntmps116
 go_wp2
 go_ret
 refine ⟨rfl, ?_, ?_, ?_⟩
 ·exact Boxed.new w 2 (.int .i64 p)
 ·exact below1 w _
 ·simp

set_option maxHeartbeats 1000000 in
theorem followed_any (b : Nat) (p x : Int) (w : World) (hb : Boxed w b 2 (.int .i64 p)) (h1 : -1000 < x) (h2 : x < 1000) (h3 : 0 ≤ p) (h4 : p < 1000) :
  Calls Try.prog 141 #[.int .i64 x, .pointer (some ⟨b, 0, none⟩)] w fun e w' => e = .returned (.int .i64 p) ∧ w' = w.setCell ⟨b, 0, none⟩ (.int .i64 (stepP p x)) := by
 have hs := setCell_same hb
 have HS := Lib.hid hs; clear hs
 have c0 := hb.cell
 have f0 := hb.frozen
 have I1 := Lib.hid (fun W => index_any x W h1 h2)
 rw [idxv_cnt] at I1
 have e1 : IntKind.i64.wrap (p + 1) = p + 1 := IntWalk.i64_in _ (by omega)
 have e2 : IntKind.i64.wrap (p - 1) = p - 1 := IntWalk.i64_in _ (by omega)
 have HST : Hid (stepP p x = if idx x = p then p - 1 else if idx x = p + 1 then p + 1 else p) := Lib.hid rfl
 obtain ⟨q, hq⟩ : ∃ q, q = idx x := ⟨_, rfl⟩
 rw [← hq] at I1 HST
 clear hq
 by_cases g1 : q = p
 ·have t1 : (q == p) = true := by simp [g1]
  have G := Lib.hid g1; clear g1
  go_enter Try.func141, Try.ntmps141
  go_wp2_with (go_at_call 111; refine (I1.out _).mono ?_; rintro e w' ⟨rfl, rfl⟩)
  go_ret
  exact ⟨rfl, by rw [HST.out, if_pos G.out]⟩
 ·have t1 : (q == p) = false := by simp [g1]
  by_cases g2 : q = p + 1
  ·have t2 : (q == p + 1) = true := by simp [g2]
   have G := Lib.hid g1; have G2 := Lib.hid g2; clear g1 g2
   go_enter Try.func141, Try.ntmps141
   go_wp2_with (go_at_call 111; refine (I1.out _).mono ?_; rintro e w' ⟨rfl, rfl⟩)
   go_ret
   exact ⟨rfl, by rw [HST.out, if_neg G.out, if_pos G2.out]⟩
  ·have t2 : (q == p + 1) = false := by simp [g2]
   have G := Lib.hid g1; have G2 := Lib.hid g2; clear g1 g2
   go_enter Try.func141, Try.ntmps141
   go_wp2_with (go_at_call 111; refine (I1.out _).mono ?_; rintro e w' ⟨rfl, rfl⟩)
   go_ret
   exact ⟨rfl, by rw [HST.out, if_neg G.out, if_neg G2.out, HS.out]⟩

/-- What is kept of a letter without a strand, and whether anything is. -/
def keptV (p x : Int) : Int := if idx x < p then x else if p + 1 < idx x then (idx x - 1) * cnt x else 0
def keptO (p x : Int) : Bool := decide (idx x < p) || decide (p + 1 < idx x)

theorem withoutP_eq (p x : Int) : withoutP p x = if keptO p x = true then [keptV p x] else [] := by
 unfold withoutP keptO keptV
 by_cases h1 : idx x < p
 ·simp [h1]
 ·by_cases h2 : p + 1 < idx x
  ·simp [h1, h2]
  ·simp [h1, h2]

set_option maxHeartbeats 1000000 in
theorem without_any (x p : Int) (w : World) (h1 : -1000 < x) (h2 : x < 1000) (h3 : 0 ≤ p) (h4 : p < 1000) {v : Int} {o : Bool} (hv : keptV p x = v) (ho : keptO p x = o) :
  Calls Try.prog 117 #[.int .i64 x, .int .i64 p] w fun e w' => e = .returned (.tuple #[.int .i64 v, .bool o]) ∧ w' = w := by
 have I1 := Lib.hid (fun W => index_any x W h1 h2)
 rw [idxv_cnt] at I1
 have hq0 : 0 ≤ idx x ∧ idx x < 1000 := by rcases idx_cases x with ⟨_, e, _⟩ | ⟨_, e, _⟩ <;> rw [e] <;> omega
 have HV := Lib.hid hv; have HO := Lib.hid ho; clear hv ho
 unfold keptV at HV
 unfold keptO at HO
 obtain ⟨q, hq⟩ : ∃ q, q = idx x := ⟨_, rfl⟩
 rw [← hq] at I1 HV HO hq0
 clear hq
 have e1 : IntKind.i64.wrap (p + 1) = p + 1 := IntWalk.i64_in _ (by omega)
 have e2 : IntKind.i64.wrap (q - 1) = q - 1 := IntWalk.i64_in _ (by omega)
 have W1 := Lib.hid (fun W => withIndex_any x (q - 1) W (by omega) (by omega))
 by_cases g1 : q < p
 ·have e3 : v = x := by rw [← HV.out, if_pos g1]
  have e4 : o = true := by rw [← HO.out]; simp [g1]
  subst e3 e4
  go_enter Try.func117, Try.ntmps117
  go_wp2_with (go_at_call 111; refine (I1.out _).mono ?_; rintro e w' ⟨rfl, rfl⟩)
  go_ret2
  exact ⟨rfl, rfl⟩
 ·by_cases g2 : p + 1 < q
  ·have e3 : v = (q - 1) * cnt x := by rw [← HV.out, if_neg g1, if_pos g2]
   have e4 : o = true := by rw [← HO.out]; simp [g1, g2]
   have E3 := Lib.hid e3; clear e3
   subst e4
   go_enter Try.func117, Try.ntmps117
   go_wp2_with (first | (go_at_call 111; refine (I1.out _).mono ?_; rintro e w' ⟨rfl, rfl⟩) | (go_at_call 142; refine (W1.out _).mono ?_; rintro e w' ⟨rfl, rfl⟩))
   go_ret2
   rw [E3.out]
   exact ⟨rfl, rfl⟩
  ·have e3 : v = 0 := by rw [← HV.out, if_neg g1, if_neg g2]
   have e4 : o = false := by rw [← HO.out]; simp [g1, g2]
   subst e3 e4
   go_enter Try.func117, Try.ntmps117
   go_wp2_with (go_at_call 111; refine (I1.out _).mono ?_; rintro e w' ⟨rfl, rfl⟩)
   go_ret2
   exact ⟨rfl, rfl⟩

end Go.Proofs.Ytehcbamfendbaaa

/- A braid without a strand: the program. -/
namespace Go.Proofs.Ytehcbamfendbaaa
open Go.RowKit Go.ChangeShapes

theorem keptV_bd {n p x : Int} (_h1 : 0 ≤ p) (_h2 : p < n) (hn : n ≤ 1000) (hx : Lett n x) : -1000 < keptV p x ∧ keptV p x < 1000 := by
 have hs := hx.small hn
 unfold keptV
 rcases idx_cases x with ⟨h, e, f⟩ | ⟨h, e, f⟩ <;> rw [e, f]
 all_goals
  split
  ·exact hs
  ·split <;> omega

set_option maxRecDepth 100000 in
set_option maxHeartbeats 1000000 in
theorem forgotten_any (s : Int) (a : Option Addr) (n cap : Nat) (ls : List Int) (p : Int) (w : World) (hr : Reads w a n ls) (hn : n ≤ 1048576) (hs : s ≤ 1000) (hls : ∀ x ∈ ls, Lett s x) (hp0 : 0 ≤ p) (hp1 : p < s) :
  Calls Try.prog 90 #[.agg #[.int .i64 s, .slice a n cap], .int .i64 p] w (MadeBraid w (s - 1) (forgetL p ls)) := by
 obtain ⟨i0, hi, hz0, hz1, hz2⟩ := info_parts infoInt
 have HLS := Lib.hid hls; clear hls
 have HL := Lib.hid hr.len
 have HR := Lib.hid hr; clear hr
 have e0 : IntKind.i64.wrap (s - 1) = s - 1 := IntWalk.i64_in _ (by omega)
 have A := Lib.hid ((At2.new w (.int .i64 s) (.slice a n cap) 29).alloc (.cells #[.int .i64 0, .slice none 0 0] 29))
 have Z := Lib.hid (At2.place (w.alloc (.cells #[.int .i64 s, .slice a n cap] 29)) (.int .i64 0) (.slice none 0 0) 29 (w.heap.size + 1) (by simp))
 have BB := Lib.hid (below2 w (.cells #[.int .i64 s, .slice a n cap] 29) (.cells #[.int .i64 0, .slice none 0 0] 29))
 go_enter Try.func90, Try.ntmps90
 go_wp2_with fail
 refine (follow_any p (w.heap.size + 1 + 1) _ (by simp)).mono ?_
 rintro e w1 ⟨rfl, hbx, hb, hs1⟩
 replace A := Lib.hid (A.out.below hb)
 replace Z := Lib.hid (Z.out.below hb)
 replace BB := Lib.hid (below_go BB.out hb BB.out.size)
 unfold folV
 have HBX := Lib.hid hbx; have HS2 := Lib.hid hs1
 clear hb hbx hs1
 obtain ⟨qA1, qA2, qA3, qA4, qA5⟩ := A.out
 go_wp2
 clear qA1 qA2 qA3 qA4 qA5
 go_loopw [5, 17] (fun v i wr => ∃ k m : Nat, k ≤ n ∧ m ≤ k ∧ i = .int .i64 k ∧ OwnV (w.heap.size + 1 + 1 + 1) wr v m (forgetL p (ls.take k)) ∧ Boxed wr (w.heap.size + 1 + 1) 2 (.int .i64 (placeL p (ls.take k))) ∧ At2 wr w.heap.size (.int .i64 s) (.slice a n cap) ∧ At2 wr (w.heap.size + 1) (.int .i64 0) (.slice none 0 0) ∧ Below w.heap.size w wr ∧ w.heap.size + 1 + 1 + 1 ≤ wr.heap.size) (fun _ i _ => n - (intOf i).toNat)
 case atStart => exact ⟨0, 0, Nat.zero_le _, Nat.zero_le _, rfl, OwnV.nil _ _, HBX.out, A.out, Z.out, BB.out, by rw [HS2.out]; exact Nat.le_refl _⟩
 case round =>
  obtain ⟨k, m, hk, hmk, rfl, ho, hbx, hA, hZ, hbl, hz3⟩ := hrel
  by_cases hlt : k < n
  ·have hkl : k < ls.length := by rw [HL.out]; exact hlt
   obtain ⟨b, off, rfl, hb, hc⟩ := HR.out.cells (by omega)
   obtain ⟨l, hl⟩ : ∃ l, l = ls.getD k 0 := ⟨_, rfl⟩
   have h1 : wr.cell? ⟨b, off + k, none⟩ = some (.int .i64 l) := by rw [hl]; exact (hbl.cell (by exact hb)).trans (hc _ hlt)
   have hle : Lett s l := HLS.out l (by rw [hl]; exact getD_mem ls k hkl)
   have hpl := placeL_in hp0 hp1 (letts_take HLS.out k)
   have HSTF := Lib.hid (forgetL_step p ls k hkl)
   have HSTP := Lib.hid (placeL_step p ls k hkl)
   rw [← hl] at HSTF HSTP
   have hkb : -1000 < keptV (placeL p (ls.take k)) l ∧ keptV (placeL p (ls.take k)) l < 1000 := keptV_bd hpl.1 hpl.2 hs hle
   rw [withoutP_eq] at HSTF
   obtain ⟨P, hP⟩ : ∃ P, P = placeL p (ls.take k) := ⟨_, rfl⟩
   rw [← hP] at HSTF HSTP hpl hbx hkb
   obtain ⟨xs, hxs⟩ : ∃ xs, xs = forgetL p (ls.take k) := ⟨_, rfl⟩
   rw [← hxs] at ho HSTF
   obtain ⟨v, hv⟩ : ∃ v, keptV P l = v := ⟨_, rfl⟩
   obtain ⟨o, hoo⟩ : ∃ o, keptO P l = o := ⟨_, rfl⟩
   rw [hv] at hkb
   rw [hv, hoo] at HSTF
   have hsm := hle.small hs
   have HV := Lib.hid hv; have HOO := Lib.hid hoo
   clear hl hP hxs hc hv hoo
   have HO := Lib.hid ho; have HBX := Lib.hid hbx; have HA := Lib.hid hA; have HZ := Lib.hid hZ; have HBL := Lib.hid hbl
   clear ho hbx hA hZ hbl
   obtain ⟨p1, p2⟩ := hpl
   obtain ⟨u1, u2⟩ := hsm
   go_wp2_with fail
   refine (followed_any (w.heap.size + 1 + 1) P l _ HBX.out u1 u2 p1 (by omega)).mono ?_
   rintro e w2 ⟨rfl, hw2⟩
   have HBX2 : Hid (Boxed w2 (w.heap.size + 1 + 1) 2 (.int .i64 (stepP P l))) := Lib.hid (by rw [hw2]; exact HBX.out.set _)
   have HO2 : Hid (OwnV (w.heap.size + 1 + 1 + 1) w2 _ m xs) := Lib.hid (by rw [hw2]; exact OwnV.setCell_below HO.out (by omega) _)
   have HA2 : Hid (At2 w2 w.heap.size (.int .i64 s) (.slice (some ⟨b, off, none⟩) n cap)) := Lib.hid (by rw [hw2]; exact HA.out.setCell (by show w.heap.size + 1 + 1 ≠ _; omega) _)
   have HZ2 : Hid (At2 w2 (w.heap.size + 1) (.int .i64 0) (.slice none 0 0)) := Lib.hid (by rw [hw2]; exact HZ.out.setCell (by show w.heap.size + 1 + 1 ≠ _; omega) _)
   have HB2 : Hid (Below w.heap.size w w2) := Lib.hid (by rw [hw2]; exact HBL.out.setCell (p := ⟨w.heap.size + 1 + 1, 0, none⟩) (by show _ ≤ w.heap.size + 1 + 1; omega) _)
   have hz4 : w.heap.size + 1 + 1 + 1 ≤ w2.heap.size := by rw [hw2]; simpa using hz3
   clear hw2 HBX HO HA HZ HBL
   go_wp2_with fail
   refine (without_any l P _ u1 u2 p1 (by omega) HV.out HOO.out).mono ?_
   rintro e w3 ⟨rfl, rfl⟩
   cases o with
   | true =>
    have HST := Lib.hid (HSTF.out.trans (by rw [if_pos rfl]))
    go_wp2_with (at_builtin; refine wpList_append_own _ rfl _ _ 22 rfl (w.heap.size + 1 + 1 + 1) 2 i0 (.int .i64 0) 1 8 Try.underlying22 hi hz0 hz1 hz2 rfl (by decide) _ _ _ rfl (World.ownsRow.alloc HO2.out _) ⟨w3.heap.size, 0, none⟩ 1 1 [.int .i64 v] rfl rfl (one_new w3 v _) (one_cell _) (by unfold maxLen; omega) (by omega) (by simp; omega) ?_)
    intro v' w4 hown' hgrow _
    have HO3 := Lib.hid (OwnV.appended hown')
    have HB3 := Lib.hid (below_appended2 HB2.out (by omega) (by omega) HO2.out hgrow)
    have hW : Below (w.heap.size + 1 + 1 + 1) w3 w4 := below_appended (Below.refl _ _) hz4 HO2.out hgrow
    have HBX3 : Hid (Boxed w4 (w.heap.size + 1 + 1) 2 (.int .i64 (stepP P l))) := Lib.hid ((hW.block _ (by omega)).trans HBX2.out)
    have HA3 := Lib.hid (HA2.out.heap hW.size (hW.block _ (by omega)))
    have HZ3 := Lib.hid (HZ2.out.heap hW.size (hW.block _ (by omega)))
    have hz5 : w.heap.size + 1 + 1 + 1 ≤ w4.heap.size := Nat.le_trans hz4 hW.size
    clear hown' hgrow hW
    go_wp2
    go_roundw
    case rel => exact ⟨k + 1, m + 1, by omega, by omega, by go_num, by rw [HST.out]; exact HO3.out, by rw [HSTP.out]; exact HBX3.out, HA3.out, HZ3.out, HB3.out, hz5⟩
    case measure => simp [intOf]; omega
   | false =>
    have HST := Lib.hid (HSTF.out.trans (by rw [if_neg (by simp)]))
    go_wp2
    go_roundw
    case rel => exact ⟨k + 1, m, by omega, by omega, by go_num, by rw [HST.out, List.append_nil]; exact HO2.out, by rw [HSTP.out]; exact HBX2.out, HA2.out, HZ2.out, HB2.out, hz4⟩
    case measure => simp [intOf]; omega
  ·have hkn : k = n := by omega
   have HK := Lib.hid hkn; clear hkn
   have HT : Hid (forgetL p (ls.take k) = forgetL p ls) := Lib.hid (by rw [HK.out, List.take_of_length_le (by rw [HL.out]; omega)])
   rw [HT.out] at ho
   obtain ⟨a2, c2, rfl, ho2⟩ := ho.form
   have HO := Lib.hid ho2; have HZ := Lib.hid hZ; have HBL := Lib.hid hbl
   obtain ⟨qA1, qA2, qA3, qA4, qA5⟩ := hA
   obtain ⟨qZ1, qZ2, qZ3, qZ4, qZ5⟩ := hZ
   clear ho ho2 hbl hbx
   go_wp2
   obtain ⟨_, e2, e3, _, _⟩ := HZ.out.fill (.int .i64 (s - 1)) (.slice a2 m c2)
   refine bodyPost_ret (v := .agg #[.int .i64 (s - 1), .slice a2 m c2]) (by simp [results, Try.results90, go_sem, e2, e3]) rfl ⟨a2, m, c2, rfl, ?_, ?_⟩
   ·exact ((HO.out.setCell_below (by simp) _).setCell_below (by simp) _).mono (by omega)
   ·exact (HBL.out.setCell (p := ⟨w.heap.size + 1, 0, none⟩) (by simp) _).setCell (p := ⟨w.heap.size + 1, 1, none⟩) (by simp) _

end Go.Proofs.Ytehcbamfendbaaa
