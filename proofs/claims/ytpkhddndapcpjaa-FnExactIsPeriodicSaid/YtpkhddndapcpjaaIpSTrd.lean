/- The model: simple braids turned. -/
import Derived.Test.YtpkhddndapcpjaaIpSB
import Derived.Test.YtpkhddndapcpjaaIpPB
import Derived.Test.YtpkhddndapcpjaaIpKK
import Derived.Test.YtpkhddndapcpjaaIpBB
import Derived.Deep.LoopGhost
namespace Go.Proofs.Ytpkhddndapcpjaa
open Go.RowKit Go.ChangeShapes

/-- The slice of rows that a call hands back. -/
def RetRows (w : World) (rs : List (List Int)) (e : Ending) (w' : World) : Prop := ∃ a n cap, e = .returned (.slice a n cap) ∧ OwnA w.heap.size w' a n cap rs ∧ Below w.heap.size w w'

set_option maxRecDepth 100000 in
set_option maxHeartbeats 2000000 in
theorem l03Turned_any (m : Nat) (k : Int) (a : Option Addr) (n cap : Nat) (rs : List (List Int)) (w : World) (hr : ReadsA w a n rs) (hs : ∀ j, j < rs.length → Sim m (rowAt rs j)) (hn : n ≤ 1048576) :
  Calls Try.prog 55 #[.slice a n cap, .int .i64 m, .int .i64 k] w (RetRows w (rs.map (turnK m k))) := by
 obtain ⟨i0, hi, hz0, hz1, hz2⟩ := info_parts infoSimple
 have HL := Lib.hid hr.len
 have HS := Lib.hid hs; clear hs
 have R := Lib.hid hr
 clear hr
 have HK : Hid (k % 2 = 0 ∧ (k.tmod 2 != 0) = false ∨ k % 2 ≠ 0 ∧ (k.tmod 2 != 0) = true) := Lib.hid (by
  have e : k.tmod 2 = 0 ↔ k % 2 = 0 := by rw [← Int.dvd_iff_emod_eq_zero, Int.dvd_iff_tmod_eq_zero]
  by_cases h : k % 2 = 0
  ·left; exact ⟨h, by rw [e.2 h]; rfl⟩
  ·right; exact ⟨h, by rw [bne_iff_ne]; exact fun h2 => h (e.1 h2)⟩)
 go_enter Try.func55, Try.ntmps55
 have B := Lib.hid (below1 w (.cells #[] 53))
 have O := Lib.hid (OwnAV.empty w)
 go_wp2
 go_loopg [7, 8] n (fun g v i wx => ∃ j : Nat, j ≤ n ∧ g + j = n ∧ i = .int .i64 j ∧ OwnAV w.heap.size wx v j ((rs.map (turnK m k)).take j) ∧ Below w.heap.size w wx)
 case atStart => exact ⟨0, Nat.zero_le _, rfl, rfl, by simpa using O.out, B.out⟩
 case round =>
  obtain ⟨j, hj, hgj, rfl, ho, hB⟩ := hrel
  clear B O
  have O := Lib.hid ho
  have B := Lib.hid hB
  clear ho hB
  have zb := B.out.size
  by_cases hlt : j < n
  ·obtain ⟨b, off, rfl, hbl, hcl⟩ := R.out.cells (Nat.lt_of_le_of_lt (Nat.zero_le _) hlt)
   have hC : Cells8 wr b (off + j * 8) (rowAt rs j) := fun i hi => (B.out.cell (by exact hbl)).trans (hcl j hlt i hi)
   have HR8 := Lib.hid (R.out.rows.at (j := j) (by rw [HL.out]; exact hlt))
   clear hbl hcl
   have SR := Lib.hid (HS.out j (by rw [HL.out]; exact hlt))
   have HNX : Hid ((rs.map (turnK m k)).take (j + 1) = (rs.map (turnK m k)).take j ++ [turnK m k (rowAt rs j)]) := Lib.hid (by
    rw [List.take_succ_eq_append_getElem (by rw [List.length_map, HL.out]; exact hlt)]
    simp [rowAt, List.getD, show j < rs.length by rw [HL.out]; exact hlt])
   obtain ⟨row, hrow⟩ : ∃ row, row = rowAt rs j := ⟨_, rfl⟩
   rw [← hrow] at hC HR8 SR HNX
   clear hrow
   obtain ⟨c0, c1, c2, c3, c4, c5, c6, c7⟩ := hC.flat
   clear hC
   rcases HK.out with ⟨hk2, t1⟩ | ⟨hk2, t1⟩
   ·have e1 : turnK m k row = row := by unfold turnK; rw [if_pos hk2]
    rw [e1] at HNX
    clear hk2 e1
    go_wp2_with (at_builtin; refine wpList_append_rows_at rfl _ _ 26 rfl w.heap.size i0 Try.underlying26 hi hz0 hz1 hz2 _ _ _ rfl (O.out.drawn ((Below.refl _ _).alloc (Nat.le_refl _) _)) _ _ _ [row] rfl (readsA_one _ row HR8.out _) (by omega) (by simp; omega) ?_)
    intro v' w2 ho' hg hv
    have O2 := Lib.hid ho'
    have B2 := Lib.hid (below_ownA (B.out.alloc zb _) (by simp; omega) (Nat.le_refl _) (O.out.drawn ((Below.refl _ _).alloc (Nat.le_refl _) _)) hg)
    clear ho' hg hv
    go_wp2
    go_roundg (gk - 1)
    case measure => omega
    case rel => exact ⟨j + 1, by omega, by omega, by go_num, by rw [HNX.out]; exact O2.out, B2.out⟩
   ·have e1 : turnK m k row = turnR m row := by unfold turnK; rw [if_neg hk2]
    rw [e1] at HNX
    clear hk2 e1
    have HT8 : Hid ((turnR m row).length = 8) := Lib.hid (turnR_sim SR.out).len
    go_wp2_with fail
    refine (l02Turn_any m row SR.out _).mono ?_
    rintro e w2 ⟨rfl, hb⟩
    clear c0 c1 c2 c3 c4 c5 c6 c7
    replace O := Lib.hid (O.out.drawn hb)
    replace B := Lib.hid (below_go B.out hb zb)
    clear hb
    have zb2 := B.out.size
    obtain ⟨row2, hrow2⟩ : ∃ row2, row2 = turnR m row := ⟨_, rfl⟩
    have hrow3 : thenR m (thenR m (halfR m) row) (halfR m) = row2 := hrow2.symm
    rw [hrow3]
    rw [← hrow2] at HT8 HNX
    clear hrow2 hrow3
    go_wp2_with (at_builtin; refine wpList_append_rows_at rfl _ _ 26 rfl w.heap.size i0 Try.underlying26 hi hz0 hz1 hz2 _ _ _ rfl (O.out.drawn ((Below.refl _ _).alloc (Nat.le_refl _) _)) _ _ _ [row2] rfl (readsA_one _ row2 HT8.out _) (by omega) (by simp; omega) ?_)
    intro v' w3 ho' hg hv
    have O2 := Lib.hid ho'
    have B2 := Lib.hid (below_ownA (B.out.alloc zb2 _) (by simp; omega) (Nat.le_refl _) (O.out.drawn ((Below.refl _ _).alloc (Nat.le_refl _) _)) hg)
    clear ho' hg hv
    go_wp2
    go_roundg (gk - 1)
    case measure => omega
    case rel => exact ⟨j + 1, by omega, by omega, by go_num, by rw [HNX.out]; exact O2.out, B2.out⟩
  ·have hjn : j = n := by omega
   subst hjn
   go_wp2
   go_ret
   have h9 := O.out
   rw [List.take_of_length_le (by rw [List.length_map, HL.out]; exact Nat.le_refl _)] at h9
   obtain ⟨a', c', rfl, ho'⟩ := h9.form
   exact ⟨a', _, c', rfl, ho', B.out⟩

end Go.Proofs.Ytpkhddndapcpjaa

