/- combOf: the program. -/
import Derived.Test.YtehcbamfendbaaaSeMg16
import Derived.Test.YtehcbamfendbaaaSeMg17
namespace Go.Proofs.Ytehcbamfendbaaa
open Go.RowKit Go.ChangeShapes

theorem Reads.other {W : World} {a : Option Addr} {n : Nat} {xs : List Int} (h : Reads W a n xs) {g i : Nat} (hg : n = 0 ∨ ∀ ad, a = some ad → ad.block ≠ g) (u : Value) : Reads (W.setCell ⟨g, i, none⟩ u) a n xs := by
 refine ⟨h.1, ?_⟩
 rcases h.2 with h0 | ⟨b, off, ha, hc⟩
 ·exact .inl h0
 ·rcases hg with hg | hg
  ·exact .inl hg
  ·exact .inr ⟨b, off, ha, fun j hj => (World.cell?_of_block (w := W) (a := ⟨b, off + j, none⟩) (Below.heap_setCell W ⟨g, i, none⟩ u b (by exact hg _ ha))).trans (hc j hj)⟩

theorem own_at {B : Nat} {w : World} {a : Option Addr} {n c : Nat} {xs : List Int} (h : Own B w a n c xs) : ∀ ad, a = some ad → B ≤ ad.block := by
 intro ad ha
 rcases h.2 with ⟨hv, h0⟩ | ⟨g, cc, cur, hv, hge, _⟩
 ·simp only [Value.slice.injEq] at hv
  rw [ha] at hv
  cases hv.1
 ·simp only [Value.slice.injEq] at hv
  rw [ha] at hv
  obtain ⟨hv, _⟩ := hv
  cases hv
  exact hge

theorem FillSP.far {B : Nat} {w : World} {g M k q i : Nat} {rs : List RowV} (h : FillSP B w g M k rs) (hq : q < g) (u : Value) : FillSP B (w.setCell ⟨q, i, none⟩ u) g M k rs := by
 have hsz : (w.setCell ⟨q, i, none⟩ u).heap.size = w.heap.size := by simp [World.setCell]
 refine ⟨ownsRow_heap h.own fun j hj => Below.heap_setCell w ⟨q, i, none⟩ u j ?_, h.len, h.le, fun x hx => ?_, h.dif⟩
 ·obtain rfl : g = j := by simpa [Value.ownBlock] using hj
  show g ≠ q
  omega
 ·obtain ⟨r1, r2, r3, r4⟩ := h.row x hx
  exact ⟨r1.setg (by omega) _, r2, r3, by rw [hsz]; exact r4⟩

theorem OwnSP.low {lo lo' hi : Nat} {w : World} {ad : Option Addr} {m : Nat} {rs : List RowV} (h : OwnSP lo hi w ad m rs) (hl : lo' ≤ lo) : OwnSP lo' hi w ad m rs := by
 refine ⟨h.1, ?_, fun x hx => ⟨(h.2.2.1 x hx).1, (h.2.2.1 x hx).2.1, (h.2.2.1 x hx).2.2.imp id (fun e => ⟨by omega, e.2⟩)⟩, h.2.2.2⟩
 rcases h.2.1 with h0 | ⟨g, off, ha, h1, h2, h3, hc⟩
 ·exact .inl h0
 ·exact .inr ⟨g, off, ha, by omega, h2, h3, hc⟩

theorem mComb_none {s : Int} {M : Nat} {ls : List Int} (h : s = (M : Int) + 1) (hc : combF M ls = none) : mComb s ls = ([], 3) := by
 unfold mComb
 rw [show (s - 1).toNat = M by omega, hc]
theorem mComb_some {s : Int} {M : Nat} {ls : List Int} {d : List (List Int)} (h : s = (M : Int) + 1) (hc : combF M ls = some d) : mComb s ls = (d, 0) := by
 unfold mComb
 rw [show (s - 1).toNat = M by omega, hc]

set_option maxRecDepth 100000 in
set_option maxHeartbeats 4000000 in
theorem combOf_any (s : Int) (M : Nat) (a : Option Addr) (n cap : Nat) (ls : List Int) (w : World) (hr : Reads w a n ls) (hn : n ≤ 1000) (hsM : s = (M : Int) + 1) (hM9 : M ≤ 40) (hls : ∀ x ∈ ls, Lett s x) {r : List (List Int)} {c : Int} (hM : mComb s ls = (r, c)) :
  Calls Try.prog 87 #[.agg #[.int .i64 s, .slice a n cap]] w (RetSSP w r c) := by
 obtain ⟨i1, hj, hs0, hs1, hs2⟩ := info_parts infoSlice
 have HR := Lib.hid hr; have HLS := Lib.hid hls; have HM := Lib.hid hM; clear hr hls hM
 have A := Lib.hid (At2.new w (.int .i64 s) (.slice a n cap) 29)
 have BB := Lib.hid (below1 w (.cells #[.int .i64 s, .slice a n cap] 29))
 have e1 : IntKind.i64.wrap (s - 1) = (M : Int) := by rw [hsM, Int.add_sub_cancel]; exact IntWalk.i64_in _ (by omega)
 have HSM := Lib.hid hsM; clear hsM
 obtain ⟨qA1, qA2, qA3, qA4, qA5⟩ := A.out
 go_enter Try.func87, Try.ntmps87
 go_wp2_with (at_make; refine wpList_make_full (w.alloc (.cells #[.int .i64 s, .slice a n cap] 29)) rfl _ _ 26 rfl (w.heap.size + 1) 22 i1 (.slice none 0 0) 1 Try.underlying26 hj hs0 hs1 .i64 .i64 _ _ M rfl rfl (by omega) (by omega) (by rw [hs2]; omega) (by unfold maxLen; omega) (by simp) ?_)
 intro w1 hown hgrow
 have F0 := Lib.hid (fillP_made hown)
 have hb1 := Below.ofGrown hgrow
 clear qA1 qA2 qA3 qA4 qA5
 replace A := Lib.hid (A.out.below hb1)
 replace BB := Lib.hid (below_go BB.out hb1 (by simp))
 clear hown hgrow hb1
 have R0 := Lib.hid (HR.out.below BB.out)
 have AB0 : Hid (n = 0 ∨ ∀ ad, a = some ad → ad.block ≠ w.heap.size + 1) := Lib.hid (by
  rcases Nat.eq_zero_or_pos n with h0 | h0
  ·exact .inl h0
  ·obtain ⟨b, off, e, hb, _⟩ := HR.out.cells h0
   exact .inr fun ad h2 => by rw [e] at h2; cases h2; show b ≠ _; omega)
 go_wp2
 go_loopw [14] (fun i wr => ∃ k : Nat, k ≤ M ∧ i = .int .i64 k ∧ ∃ (rs : List RowV) (lk : List Int) (ak : Option Addr) (nk ck : Nat), combF M ls = (combF (M - k) lk).map (rs.map RowV.xs ++ ·) ∧ FillSP (w.heap.size + 1) wr (w.heap.size + 1) M k rs ∧ (∀ x ∈ rs, x.n ≤ 400) ∧ At2 wr w.heap.size (.int .i64 (s - k)) (.slice ak nk ck) ∧ Reads wr ak nk lk ∧ nk ≤ 1000 ∧ (nk = 0 ∨ ∀ ad, ak = some ad → ad.block ≠ w.heap.size + 1) ∧ (∀ x ∈ lk, Lett (s - k) x) ∧ Below w.heap.size w wr) (fun i _ => M - (intOf i).toNat)
 case atStart => exact ⟨0, Nat.zero_le _, rfl, [], ls, a, n, cap, by simp, F0.out, fun x hx => (by cases hx), by simpa using A.out, R0.out, hn, AB0.out, by simpa using HLS.out, BB.out⟩
 case round =>
  obtain ⟨k, hk, rfl, rs, lk, ak, nk, ck, hcm, hF, hrn, hA, hR, hnk, hab, hlk, hbl⟩ := hrel
  clear F0 A R0 AB0 BB
  have HCM := Lib.hid hcm; have F := Lib.hid hF; have HRN := Lib.hid hrn; have HA := Lib.hid hA; have HRK := Lib.hid hR; have HAB := Lib.hid hab; have HLK := Lib.hid hlk; have HBL := Lib.hid hbl
  clear hcm hF hrn hA hR hab hlk hbl
  obtain ⟨wo, rfl⟩ : ∃ x, x = wr := ⟨_, rfl⟩
  by_cases hlt : k < M
  ·obtain ⟨j, hj1⟩ : ∃ j, M - k = j + 1 := ⟨M - k - 1, by omega⟩
   obtain ⟨S, hS⟩ : ∃ S : Int, S = s - k := ⟨_, rfl⟩
   rw [← hS] at HA HLK
   have hSj : S - 1 = (j : Int) + 1 := by have := HSM.out; omega
   have hS2 : 2 ≤ S ∧ S ≤ 50 := by omega
   have hSn : S - 1 = s - ((k + 1 : Nat) : Int) := by omega
   have HSJ := Lib.hid hSj; have HSN := Lib.hid hSn; have HJ1 := Lib.hid hj1
   clear hS hSj hSn hj1
   have e2 : IntKind.i64.wrap (S - 1) = S - 1 := IntWalk.i64_in _ (by omega)
   have k0 : 0 ≤ (k : Int) := by omega
   have k1 : (k : Int) < (M : Int) := by omega
   obtain ⟨qA1, qA2, qA3, qA4, qA5⟩ := HA.out
   go_wp2_with fail
   refine (lastFree_any S ak nk ck lk wo HRK.out hnk (by omega) (by omega) HLK.out).mono ?_
   rintro e w3 (⟨f, a3, n3, c3, hsf, rfl, hP, hn3, hnc, hc3, hnil, hz, hb⟩ | ⟨hsf, rfl, hb⟩)
   ·have t1 : ((0 : Int) != 0) = false := by simp
    have hlk : nk = lk.length := HRK.out.len.symm
    have hcs : combF (M - k) lk = (combF j (forgetL (S - 1) lk)).map (f :: ·) := by
     rw [HJ1.out, HSJ.out]
     refine combF_some ?_
     rw [← HSJ.out, ← hlk]; exact hsf
    have HCS : Hid (combF M ls = (combF (M - (k + 1)) (forgetL (S - 1) lk)).map ((rs ++ [(⟨0, a3, n3, c3, f⟩ : RowV)]).map RowV.xs ++ ·)) := Lib.hid (by
     rw [HCM.out, hcs, show M - (k + 1) = j by have := HJ1.out; omega]
     cases combF j (forgetL (S - 1) lk) <;> simp)
    obtain ⟨b, hb1, hb2, hoi⟩ := ownP_block (c := c3) hP hz
    have hrow := F.out.row
    have hfl := F.out.lt
    have F3 := Lib.hid (F.out.below hb)
    have FS := Lib.hid (F3.out.store hlt hoi (by omega) (by omega) hb2 (fun x hx => by have := (hrow x hx).2.2.2; omega))
    have c1 : w3.cell? ⟨w.heap.size + 1, k, none⟩ = some (.slice none 0 0) := by
     have hl := F3.out.len
     have h := World.ownsRow.cellAt F3.out.own k (by have := F3.out.own.1; omega)
     refine h.trans ?_
     rw [List.getElem?_append_right (by rw [List.length_map]; omega), List.length_map, hl, Nat.sub_self]
     exact List.getElem?_replicate_of_lt (by omega)
    have f1 := World.ownsRow.frozenAt F3.out.own k
    have A4 := Lib.hid ((HA.out.below hb).setCell (p := ⟨w.heap.size + 1, k, none⟩) (by show w.heap.size + 1 ≠ _; omega) (.slice a3 n3 c3))
    have R4 := Lib.hid ((HRK.out.below hb).other (g := w.heap.size + 1) (i := k) HAB.out (.slice a3 n3 c3))
    have B4 := Lib.hid ((below_go HBL.out hb HBL.out.size).setCell (p := ⟨w.heap.size + 1, k, none⟩) (by show w.heap.size ≤ w.heap.size + 1; omega) (.slice a3 n3 c3))
    have HRN4 : Hid (∀ x ∈ rs ++ [(⟨b, a3, n3, c3, f⟩ : RowV)], x.n ≤ 400) := Lib.hid (fun x hx => (List.mem_append.1 hx).elim (HRN.out x) (fun h => by rw [List.mem_singleton.1 h]; exact hn3))
    have hz4 : w.heap.size + 1 < (w3.setCell ⟨w.heap.size + 1, k, none⟩ (.slice a3 n3 c3)).heap.size := by simp [World.setCell]; omega
    have HFL := Lib.hid (forgetL_len (S - 1) lk)
    have HFT := Lib.hid (forgetL_lett (n := S) (p := S - 1) (by omega) (by omega) HLK.out)
    have HLEN := Lib.hid hlk
    clear hsf hP hz hb hoi hrow hcs hlk hb1 hb2 qA1 qA2 qA3 qA4 qA5
    obtain ⟨qA1, qA2, qA3, qA4, qA5⟩ := A4.out
    go_wp2_with fail
    refine (forgotten_any S ak nk ck lk (S - 1) _ R4.out (by omega) (by omega) HLK.out (by omega) (by omega)).mono ?_
    rintro e w5 ⟨a5, n5, c5, rfl, ho5, hb5⟩
    clear qA1 qA2 qA3 qA4 qA5
    have A5 := Lib.hid (A4.out.below hb5)
    have F5 := Lib.hid (FS.out.below hb5)
    have B5 := Lib.hid (below_go B4.out hb5 B4.out.size)
    have O5 := Lib.hid ho5
    clear ho5 hb5 hfl c1 f1
    obtain ⟨qA1, qA2, qA3, qA4, qA5⟩ := A5.out
    go_wp2
    go_roundw
    case rel =>
     have hat := own_at O5.out
     refine ⟨k + 1, by omega, by go_num, rs ++ [⟨b, a3, n3, c3, f⟩], forgetL (S - 1) lk, a5, n5, c5, ?_, (F5.out.far (by omega) _).far (by omega) _, HRN4.out, ?_, (O5.out.reads.other ?_ _).other ?_ _, ?_, ?_, ?_, ?_⟩
     ·rw [HCS.out]; simp
     ·rw [← HSN.out]; exact A5.out.fill _ _
     ·exact .inr fun ad h2 => by have := hat ad h2; omega
     ·exact .inr fun ad h2 => by have := hat ad h2; omega
     ·have h1 := O5.out.len; have h2 := HFL.out; have h3 := HLEN.out; omega
     ·exact .inr fun ad h2 => by have := hat ad h2; omega
     ·rw [← HSN.out]; exact HFT.out
     ·exact (B5.out.setCell (p := ⟨w.heap.size, 0, none⟩) (Nat.le_refl _) _).setCell (p := ⟨w.heap.size, 1, none⟩) (Nat.le_refl _) _
    case measure => simp [intOf]; omega
   ·have t1 : ((3 : Int) != 0) = true := by simp
    have HSF := Lib.hid hsf
    have HB3 := Lib.hid (below_go HBL.out hb HBL.out.size)
    clear hsf hb qA1 qA2 qA3 qA4 qA5
    go_wp2
    go_ret2
    have hcn : combF M ls = none := by
     rw [HCM.out, HJ1.out, combF_none ?_]
     ·rfl
     ·rw [← HSJ.out, HRK.out.len]; exact HSF.out
    have hm := HM.out
    rw [mComb_none HSM.out hcn] at hm
    obtain ⟨rfl, rfl⟩ := Prod.mk.injEq .. ▸ hm
    exact ⟨none, 0, 0, [], rfl, rfl, fun x hx => (by cases hx), ⟨rfl, .inl rfl, fun x hx => (by cases hx), fun i j hi => (by cases hi)⟩, HB3.out⟩
  ·obtain rfl : k = M := by omega
   have hcs : combF k ls = some (rs.map RowV.xs) := by rw [HCM.out, Nat.sub_self]; simp [combF]
   have hm := HM.out
   rw [mComb_some HSM.out hcs] at hm
   obtain ⟨rfl, rfl⟩ := Prod.mk.injEq .. ▸ hm
   clear hcs hm
   go_wp2
   go_ret2
   exact ⟨_, k, k, rs, rfl, rfl, HRN.out, F.out.own_ss.low (by omega), HBL.out⟩

end Go.Proofs.Ytehcbamfendbaaa

