/- Ranks modulo a prime: the program. -/
import Derived.Test.YtelmdfkcclhhjaaIdxR
import Derived.Test.YtelmdfkcclhhjaaDelR
import Derived.Test.YtelmdfkcclhhjaaClrC
namespace Go.Proofs.Ytelmdfkcclhhjaa
open Go.RowKit Go.ChangeShapes

theorem Reads.heapOf {w w' : World} {b o n : Nat} {xs : List Int} (h : Reads w (some ⟨b, o, none⟩) n xs) (k : ∀ u, u = b → w'.heap[u]? = w.heap[u]?) : Reads w' (some ⟨b, o, none⟩) n xs := by
  obtain ⟨h1, h | ⟨b', off, ha, hc⟩⟩ := h
  · exact ⟨h1, .inl h⟩
  · refine ⟨h1, .inr ⟨b', off, ha, fun j hj => ?_⟩⟩
    have e : b' = b := by
      simp only [Option.some.injEq, Addr.mk.injEq] at ha
      exact ha.1.symm
    rw [World.cell?_of_block (w := w) (k b' e)]
    exact hc j hj

theorem wrote_below {B lo hi : Nat} {w w' : World} (k : Wrote lo hi w w') (h : B ≤ lo) (hs : B ≤ w.heap.size) : Below B w w' := below_write (Below.refl B w) k h hs

theorem map_erase {α β : Type} (f : α → β) (l : List α) (i : Nat) : (l.eraseIdx i).map f = (l.map f).eraseIdx i := by
  induction l generalizing i with
  | nil => rfl
  | cons x l ih =>
    cases i with
    | zero => rfl
    | succ i => simp only [List.eraseIdx_cons_succ, List.map_cons, ih]

/-- One header is struck. -/
theorem GrowSS.erase {B g m cap i : Nat} {w w' : World} {rs : List RowV} (h : GrowSS B w (.slice (some ⟨g, 0, none⟩) m cap) m rs) (ho : w'.ownsRow B 22 1 (.slice (some ⟨g, 0, none⟩) (m - 1) cap) (m - 1) ((rs.map RowV.val).eraseIdx i)) (k : Wrote g (g + 1) w w') :
    GrowSS B w' (.slice (some ⟨g, 0, none⟩) (m - 1) cap) (m - 1) (rs.eraseIdx i) := by
  have hs : ∀ x ∈ rs, x.b ≠ g := fun x hx e => h.sep x hx (by rw [e]; rfl)
  refine ⟨by rw [map_erase]; exact ho, fun x hx => ?_, fun a b ha hb hne => ?_, fun x hx e => ?_⟩
  · have hx' := List.mem_of_mem_eraseIdx hx
    obtain ⟨h1, h2, h3, h4⟩ := h.row x hx'
    exact ⟨h1.heap fun u u1 u2 u3 => k.block u u3 (by have := hs x hx'; omega), h2, h3, Nat.lt_of_lt_of_le h4 k.size⟩
  · rw [List.getElem_eraseIdx, List.getElem_eraseIdx]
    have la := ha
    have lb := hb
    rw [List.length_eraseIdx] at la lb
    split <;> split
    · exact h.dif a b _ _ hne
    · exact h.dif a (b + 1) _ _ (by omega)
    · exact h.dif (a + 1) b _ _ (by omega)
    · exact h.dif (a + 1) (b + 1) _ _ (by omega)
  · exact hs x (List.mem_of_mem_eraseIdx hx) (by simpa [Value.ownBlock] using e.symm)

/-- The numbers of one row are written. -/
theorem GrowSS.rewrite {B m i : Nat} {w w' : World} {v : Value} {rs : List RowV} (h : GrowSS B w v m rs) (hi : i < rs.length) {ys : List Int} (ho : OwnIn rs[i].b (rs[i].b + 1) w' rs[i].a rs[i].n rs[i].cap ys) (k : Wrote rs[i].b (rs[i].b + 1) w w') :
    GrowSS B w' v m (rs.set i { rs[i] with xs := ys }) := by
  have hv : (rs.set i { rs[i] with xs := ys }).map RowV.val = rs.map RowV.val := by
    rw [List.map_set]
    refine List.ext_getElem (by simp) fun j h1 h2 => ?_
    rw [List.getElem_set]
    split
    · rename_i e; subst e; simp [RowV.val]
    · rfl
  have hb : ∀ j (hj : j < (rs.set i { rs[i] with xs := ys }).length), (rs.set i { rs[i] with xs := ys })[j].b = (rs[j]'(by simpa using hj)).b := by
    intro j hj
    rw [List.getElem_set]
    split
    · rename_i e; subst e; rfl
    · rfl
  have hsep := h.sep _ (List.getElem_mem hi)
  refine ⟨?_, fun x hx => ?_, fun a b ha hb' hne => ?_, fun x hx => ?_⟩
  · rw [hv]
    refine ownsRow_heap h.own fun u hu => k.block u (World.ownsRow.lt h.own u hu).2 ?_
    have : u ≠ rs[i].b := fun e => hsep (by rw [hu, e])
    omega
  · obtain ⟨j, hj, rfl⟩ := List.getElem_of_mem hx
    rw [List.getElem_set]
    have hj' : j < rs.length := by simpa using hj
    split
    · rename_i e
      obtain ⟨h1, h2, h3, h4⟩ := h.row _ (List.getElem_mem hi)
      exact ⟨ho, h2, h3, Nat.lt_of_lt_of_le h4 k.size⟩
    · rename_i e
      obtain ⟨h1, h2, h3, h4⟩ := h.row _ (List.getElem_mem hj')
      exact ⟨h1.heap fun u u1 u2 u3 => k.block u u3 (by have := h.dif i j hi hj' e; omega), h2, h3, Nat.lt_of_lt_of_le h4 k.size⟩
  · rw [hb a ha, hb b hb']
    exact h.dif a b _ _ hne
  · obtain ⟨j, hj, rfl⟩ := List.getElem_of_mem hx
    rw [hb j hj]
    exact h.sep _ (List.getElem_mem _)

/-- The rows of which the first k have been cleared. -/
def clrTo (p : Int) (P : List Int) (c k : Nat) (us : List RowV) : List RowV := (us.take k).map (fun r => { r with xs := clrP p P c r.xs }) ++ us.drop k

theorem clrTo_len (p : Int) (P : List Int) (c k : Nat) (us : List RowV) : (clrTo p P c k us).length = us.length := by simp [clrTo]; omega

theorem clrTo_at {p : Int} {P : List Int} {c k : Nat} {us : List RowV} (h : k < us.length) : (clrTo p P c k us)[k]'(by rw [clrTo_len]; exact h) = us[k] := by
  unfold clrTo
  rw [List.getElem_append_right (by simp; omega)]
  simp [Nat.min_eq_left (Nat.le_of_lt h)]

theorem clrTo_set {p : Int} {P : List Int} {c k : Nat} {us : List RowV} (h : k < us.length) : (clrTo p P c k us).set k { us[k] with xs := clrP p P c us[k].xs } = clrTo p P c (k + 1) us := by
  unfold clrTo
  have hl : ((us.take k).map (fun r : RowV => { r with xs := clrP p P c r.xs })).length = k := by simp; omega
  rw [List.set_append_right _ _ (by omega), hl, Nat.sub_self, List.drop_eq_getElem_cons h, List.set_cons_zero, List.take_succ_eq_append_getElem h, List.map_append, List.append_assoc]
  rfl

theorem clrTo_end {p : Int} {P : List Int} {c : Nat} {us : List RowV} : (clrTo p P c us.length us).map RowV.xs = (us.map RowV.xs).map (clrP p P c) := by
  unfold clrTo
  rw [List.take_length, List.drop_length, List.append_nil, List.map_map, List.map_map]
  rfl

theorem clrTo_n {p : Int} {P : List Int} {c k q : Nat} {us : List RowV} (h : ∀ x ∈ us, x.n = q) : ∀ x ∈ clrTo p P c k us, x.n = q := fun x hx => by
  rcases List.mem_append.1 hx with hx | hx
  · obtain ⟨y, hy, rfl⟩ := List.mem_map.1 hx
    exact h y (List.mem_of_mem_take hy)
  · exact h x (List.mem_of_mem_drop hx)

/-- A row of the own ones, by its block. -/
theorem GrowSS.rowAt {B m q : Nat} {w : World} {v : Value} {rs : List RowV} (h : GrowSS B w v m rs) (hq : ∀ x ∈ rs, x.n = q) (h0 : 0 < q) {i : Nat} (hi : i < rs.length) : rs[i].a = some ⟨rs[i].b, 0, none⟩ ∧ rs[i].n = q := by
  have hn := hq _ (List.getElem_mem hi)
  have h1 := (h.row _ (List.getElem_mem hi)).1
  rw [hn] at h1
  obtain ⟨gb, e1, _, _⟩ := Own.block h1.1 h0
  have h2 := h1.2 _ e1
  have h3 := h1.1.lo _ e1
  refine ⟨?_, hn⟩
  rw [e1]
  simp only at h2 h3
  rw [show rs[i].b = gb by omega]

set_option maxRecDepth 100000 in
set_option maxHeartbeats 4000000 in
theorem rankModulo_any (B g q cap : Nat) (rs : List RowV) (p : Int) (w : World) (hO : GrowSS B w (.slice (some ⟨g, 0, none⟩) q cap) q rs) (hq : ∀ x ∈ rs, x.n = q) (hok : Okm p q (rs.map RowV.xs)) (h0 : 0 < q) (h8 : q ≤ 8) (hp : PrimeZ p) (hp3 : 3 ≤ p) (hp97 : p ≤ 97) (hB : B ≤ w.heap.size) :
    Calls Try.prog 52 #[.slice (some ⟨g, 0, none⟩) q cap, .int .i64 p] w fun e w' => e = .returned (.int .i64 (rk p (rs.map RowV.xs) q : Nat)) ∧ Below B w w' := by
  obtain ⟨A, hA⟩ : ∃ A, A = rs.map RowV.xs := ⟨_, rfl⟩
  rw [← hA]
  have G0 := Lib.hid hO; have HQ0 := Lib.hid hq; have K0 := Lib.hid hok; have HA := Lib.hid hA; have HP := Lib.hid hp
  clear hO hq hok hA hp
  go_enter Try.func52, Try.ntmps52
  go_wp2
  go_loopw [0, 5, 13] (fun v0 v5 cv wr => ∃ c : Nat, c ≤ q ∧ cv = .int .i64 c ∧ (∃ (M : Nat) (ts : List RowV), M ≤ q ∧ v0 = .slice (some ⟨g, 0, none⟩) M cap ∧ GrowSS B wr (.slice (some ⟨g, 0, none⟩) M cap) M ts ∧ (∀ x ∈ ts, x.n = q) ∧ Okm p q (ts.map RowV.xs) ∧ Left_ p A c (ts.map RowV.xs)) ∧ (∃ rr : Nat, rr ≤ c ∧ rr = rk p A c ∧ v5 = .int .i64 rr) ∧ Below B w wr) (fun _ _ cv _ => q - (intOf cv).toNat)
  case atStart => exact ⟨0, Nat.zero_le _, rfl, ⟨q, rs, Nat.le_refl _, rfl, G0.out, HQ0.out, K0.out, by rw [HA.out]; exact Left_.start _ _⟩, ⟨0, Nat.le_refl _, rfl, rfl⟩, Below.refl _ _⟩
  case round =>
    obtain ⟨c, hc, rfl, ⟨M, ts, hMq, rfl, hG, hq, hok, hL⟩, ⟨rr, hrr, hrk, rfl⟩, hb⟩ := hrel
    clear G0 HQ0 K0
    have GG := Lib.hid hG; have HQ := Lib.hid hq; have KK := Lib.hid hok; have LL := Lib.hid hL; have BB := Lib.hid hb; have RK := Lib.hid hrk
    clear hG hq hok hL hb hrk
    obtain ⟨W, hW⟩ : ∃ x, x = wr := ⟨_, rfl⟩
    subst hW
    by_cases hlt : c < q
    · have zB := BB.out.size
      have c0' : 0 ≤ (c : Int) := by omega
      have c1' : (c : Int) < (q : Int) := by omega
      have wc : IntKind.i64.wrap (c : Int) = (c : Int) := IntWalk.i64_in _ (by omega)
      go_upto_region 5 with fail
      have G1 := Lib.hid (GG.out.alloc (.cells #[.int .i64 c] 3))
      have B1 := Lib.hid (BB.out.alloc (Nat.le_trans hB zB) (.cells #[.int .i64 c] 3))
      obtain ⟨V, hV⟩ : ∃ V, V = W.alloc (.cells #[.int .i64 c] 3) := ⟨_, rfl⟩
      have zV : V.heap.size = W.heap.size + 1 := by rw [hV]; simp
      have cb : V.cell? ⟨W.heap.size, 0, none⟩ = some (.int .i64 c) := by rw [hV]; simp
      rw [← hV] at G1 B1 ⊢
      clear hV wc
      have HLN := Lib.hid GG.out.len
      have hlow : ∀ x ∈ ts, x.b < W.heap.size := fun x hx => (GG.out.row x hx).2.2.2
      have HLOW := Lib.hid hlow
      have hg0 := World.ownsRow.lt GG.out.own g rfl
      go_wp2_with fail
      refine (indexRow_any c W.heap.size q (some ⟨g, 0, none⟩) M cap ts V cb G1.out.ownSS.reads HLN.out HQ.out hlt (by omega)).mono ?_
      rintro e w2 ⟨r, rfl, rfl, hr⟩
      rcases hr with ⟨rfl, hnone⟩ | ⟨i, rfl, hi, hent⟩
      · have hps := LL.out.pass HP.out (none_dvd (p := p) (fun x hx => by
          obtain ⟨y, hy, rfl⟩ := List.mem_map.1 hx
          exact hnone y hy))
        have hps1 := Lib.hid hps.1
        have hps2 := Lib.hid (RK.out.trans hps.2.symm)
        clear hps hnone hlow
        go_wp2
        go_roundw
        case rel => exact ⟨c + 1, by omega, by go_num, ⟨M, ts, hMq, rfl, G1.out, HQ.out, KK.out, hps1.out⟩, ⟨rr, by omega, hps2.out, rfl⟩, B1.out⟩
        case measure => simp [intOf]; omega
      · have hiM : i < M := by rw [← HLN.out]; exact hi
        have hil : i < (ts.map RowV.xs).length := by simpa using hi
        have hte : (ts.map RowV.xs)[i] = ts[i].xs := by simp
        have hel := prg_elim (p := p) (by omega) KK.out hlt hil (by rw [hte]; exact hent)
        rw [hte] at hel
        have htk := LL.out.take HP.out hel.1
        have HEL := Lib.hid htk.1
        have HRK := Lib.hid (show rr + 1 = rk p A (c + 1) by rw [htk.2, RK.out])
        have HOK := Lib.hid hel.2
        have hPok := KK.out ts[i].xs (List.mem_map_of_mem (List.getElem_mem hi))
        obtain ⟨hra, hrn⟩ := G1.out.rowAt HQ.out h0 hi
        have hrow := (G1.out.row _ (List.getElem_mem hi)).1
        rw [hra, hrn] at hrow
        have hcell := World.ownsRow.cellAt G1.out.own i (by omega)
        rw [List.getElem?_map, List.getElem?_eq_getElem hi] at hcell
        simp only [Option.map_some, RowV.val, hra, hrn] at hcell
        have hbP := hlow _ (List.getElem_mem hi)
        have hdf : ∀ k (hk : k < (ts.eraseIdx i).length), (ts.eraseIdx i)[k].b ≠ ts[i].b := by
          intro k hk
          rw [List.getElem_eraseIdx]
          have lk := hk
          rw [List.length_eraseIdx] at lk
          split
          · exact GG.out.dif k i _ hi (by omega)
          · exact GG.out.dif (k + 1) i _ hi (by omega)
        have hgP : ts[i].b ≠ g := fun e => GG.out.sep _ (List.getElem_mem hi) (by rw [e]; rfl)
        have hec : (ts.map RowV.xs).eraseIdx i = (ts.eraseIdx i).map RowV.xs := (map_erase _ _ _).symm
        have HEC := Lib.hid hec
        have hone : ∀ v ∈ ts.map RowV.val, v.oneCell' = true := fun v hv => by
          obtain ⟨y, _, rfl⟩ := List.mem_map.1 hv
          rfl
        have hqe : ∀ x ∈ ts.eraseIdx i, x.n = q := fun x hx => HQ.out x (List.mem_of_mem_eraseIdx hx)
        have hlowe : ∀ x ∈ ts.eraseIdx i, x.b < W.heap.size := fun x hx => hlow x (List.mem_of_mem_eraseIdx hx)
        obtain ⟨P, hP⟩ : ∃ P, P = ts[i].xs := ⟨_, rfl⟩
        obtain ⟨bP, hbP2⟩ : ∃ b, b = ts[i].b := ⟨_, rfl⟩
        obtain ⟨cP, hcP⟩ : ∃ b, b = ts[i].cap := ⟨_, rfl⟩
        rw [← hP, ← hbP2, ← hcP] at hrow
        rw [← hbP2, ← hcP] at hcell
        rw [← hP] at HEL HOK hPok hent
        rw [← hbP2] at hbP hgP
        simp only [← hbP2] at hdf
        have HDF := Lib.hid hdf; have HPR := Lib.hid hrow.reads; have HPO := Lib.hid hPok.2; have HQE := Lib.hid hqe; have HLE := Lib.hid hlowe
        have i0' : 0 ≤ (i : Int) := by omega
        have i1' : (i : Int) < (M : Int) := by omega
        have ilt : ¬ ((i : Int) < 0) := by omega
        have wi : IntKind.i64.wrap ((i : Int) + 1) = (i : Int) + 1 := IntWalk.i64_in _ (by omega)
        clear hel htk hra hrn hrow hP hbP2 hcP hdf hPok hqe hlowe hte hil hlow hec
        go_wp2_with fail
        refine (deleteRow_any B g M cap i (ts.map RowV.val) V G1.out.own hone hiM (by omega)).mono ?_
        rintro e w3 ⟨rfl, hown, hwr⟩
        have hG3 := G1.out.erase hown hwr
        have G3 := Lib.hid hG3
        have B3 := Lib.hid (B1.out.trans (wrote_below hwr hg0.1 (by omega)))
        have HP3 : Hid (Reads w3 (some ⟨bP, 0, none⟩) q P) := Lib.hid (HPR.out.heapOf fun u hu => hwr.block u (by omega) (by omega))
        have cb3 : w3.cell? ⟨W.heap.size, 0, none⟩ = some (.int .i64 c) := (World.cell?_of_block (w := V) (hwr.block _ (by show W.heap.size < V.heap.size; omega) (by show W.heap.size < g ∨ g + 1 ≤ W.heap.size; omega))).trans cb
        have z3 : W.heap.size < w3.heap.size := by have := hwr.size; omega
        rw [HEC.out] at HEL HOK
        generalize hus : ts.eraseIdx i = us at HEL HOK G3 HDF HQE HLE
        have hul : us.length = M - 1 := by rw [← hus, List.length_eraseIdx, if_pos hi, HLN.out]
        have hmem : ∀ x ∈ us, x ∈ ts := fun x hx => by rw [← hus] at hx; exact List.mem_of_mem_eraseIdx hx
        have hkk : ∀ k (hk : k < us.length), ∀ j, 0 ≤ ent us[k].xs j ∧ ent us[k].xs j < p := fun k hk => (KK.out us[k].xs (List.mem_map_of_mem (hmem _ (List.getElem_mem hk)))).2
        obtain ⟨N, hN⟩ : ∃ N, N = M - 1 := ⟨_, rfl⟩
        rw [← hN] at G3 hul ⊢
        have hNM : N ≤ M := by omega
        have HUL := Lib.hid hul; have HKK := Lib.hid hkk
        have CB3 := Lib.hid cb3
        clear hus hN hG3 hown hwr cb cb3 hkk hul hcell hone hgP HEC HPR G1 B1 wi i0' i1' ilt hmem
        go_wp2
        go_loopw [32] (fun kv wr => ∃ k : Nat, k ≤ N ∧ kv = .int .i64 k ∧ GrowSS B wr (.slice (some ⟨g, 0, none⟩) N cap) N (clrTo p P c k us) ∧ Reads wr (some ⟨bP, 0, none⟩) q P ∧ wr.cell? ⟨W.heap.size, 0, none⟩ = some (.int .i64 c) ∧ W.heap.size < wr.heap.size ∧ Below B w wr) (fun kv _ => N - (intOf kv).toNat)
        case atStart => exact ⟨0, Nat.zero_le _, rfl, by simpa [clrTo] using G3.out, HP3.out, CB3.out, z3, B3.out⟩
        case round =>
          obtain ⟨k, hk, rfl, hG, hPr, hcb, hzr, hb⟩ := hrel
          clear G3 HP3 CB3 z3 B3
          have G3 := Lib.hid hG; have HP3 := Lib.hid hPr; have B3 := Lib.hid hb; have CB := Lib.hid hcb
          clear hG hPr hb
          obtain ⟨W2, hW2⟩ : ∃ x, x = wr := ⟨_, rfl⟩
          subst hW2
          by_cases hlk : k < N
          · have hku : k < us.length := by rw [HUL.out]; exact hlk
            have hkc : k < (clrTo p P c k us).length := by rw [clrTo_len]; exact hku
            have hat := clrTo_at (p := p) (P := P) (c := c) hku
            obtain ⟨hra, hrn⟩ := G3.out.rowAt (clrTo_n HQE.out) h0 hkc
            have hrow := (G3.out.row _ (List.getElem_mem hkc)).1
            have hset := clrTo_set (p := p) (P := P) (c := c) hku
            have hcell := World.ownsRow.cellAt G3.out.own k (by omega)
            rw [List.getElem?_map, List.getElem?_eq_getElem hkc] at hcell
            simp only [Option.map_some, RowV.val, hra, hrn] at hcell
            rw [hat] at hra hrn hrow hcell
            rw [hra, hrn] at hrow
            have hrw : ∀ (w' : World) (ys : List Int), OwnIn us[k].b (us[k].b + 1) w' us[k].a us[k].n us[k].cap ys → Wrote us[k].b (us[k].b + 1) W2 w' → GrowSS B w' (.slice (some ⟨g, 0, none⟩) N cap) N ((clrTo p P c k us).set k { us[k] with xs := ys }) := by
              intro w' ys ho hw
              have := G3.out.rewrite (i := k) hkc (ys := ys) (w' := w') (by rw [hat]; exact ho) (by rw [hat]; exact hw)
              rwa [hat] at this
            rw [hra, hrn] at hrw
            have hB1 : B ≤ us[k].b := by have := (G3.out.row _ (List.getElem_mem hkc)).2.2.1; rw [hat] at this; exact this
            have hdk := HDF.out k hku
            have hlk2 := HLE.out _ (List.getElem_mem hku)
            have hlt2 : us[k].b < W2.heap.size := by have := (G3.out.row _ (List.getElem_mem hkc)).2.2.2; rw [hat] at this; exact this
            have hki := HKK.out k hku
            obtain ⟨x, hx⟩ : ∃ x, x = us[k] := ⟨_, rfl⟩
            simp only [← hx] at hrow hcell hrw hset hdk hlk2 hki hB1 hlt2
            obtain ⟨xb, xa, xn, xc, xs⟩ := x
            simp only at hrow hcell hrw hset hdk hlk2 hki hB1 hlt2
            have HRW := Lib.hid hrw; have HST := Lib.hid hset; have HRO := Lib.hid hrow; have HKI := Lib.hid hki
            clear hrw hset hrow hki hra hrn hx hat
            have k1' : (k : Int) < (N : Int) := by omega
            go_wp2_with fail
            refine (clearColumn_any xb q xc xs (some ⟨bP, 0, none⟩) cP P c p W2 HRO.out HP3.out (fun y hy => by obtain rfl := Option.some.inj hy; exact fun e => hdk e.symm) hlt h8 (by omega) hp97 HKI.out HPO.out).mono ?_
            rintro e w4 ⟨rfl, ho, hw⟩
            have hgn := HRW.out w4 _ ho hw
            rw [HST.out] at hgn
            have G4 := Lib.hid hgn
            have P4 := Lib.hid (HP3.out.heapOf fun u hu => hw.block u (by subst hu; exact HP3.out.lt h0) (by omega))
            have c4 : w4.cell? ⟨W.heap.size, 0, none⟩ = some (.int .i64 c) := (World.cell?_of_block (w := W2) (hw.block _ (by show W.heap.size < W2.heap.size; omega) (by show W.heap.size < xb ∨ xb + 1 ≤ W.heap.size; omega))).trans hcb
            have C4 := Lib.hid c4
            have B4 := Lib.hid (B3.out.trans (wrote_below hw hB1 (by omega)))
            have z4 : W.heap.size < w4.heap.size := by have := hw.size; omega
            clear hgn ho hw c4 hcell hcb
            go_wp2
            go_roundw
            case rel => exact ⟨k + 1, by omega, by go_num, G4.out, P4.out, C4.out, z4, B4.out⟩
            case measure => simp [intOf]; omega
          · have hkN : k = us.length := by rw [HUL.out]; omega
            have hxs : (clrTo p P c k us).map RowV.xs = (us.map RowV.xs).map (clrP p P c) := by rw [hkN]; exact clrTo_end
            have HXS := Lib.hid hxs
            have HN2 := Lib.hid (clrTo_n (p := p) (P := P) (c := c) (k := k) HQE.out)
            clear hxs hkN hcb
            have wr1 : IntKind.i64.wrap ((rr : Int) + 1) = (rr : Int) + 1 := IntWalk.i64_in _ (by omega)
            go_wp2
            go_roundw
            case rel => exact ⟨c + 1, by omega, by go_num, ⟨N, clrTo p P c k us, by omega, rfl, G3.out, HN2.out, by rw [HXS.out]; exact HOK.out, by rw [HXS.out]; exact HEL.out⟩, ⟨rr + 1, by omega, HRK.out, by go_num⟩, B3.out⟩
            case measure => simp [intOf]; omega
    · have hcq : c = q := by omega
      have HRE := Lib.hid (show rk p A q = rr by rw [← hcq, RK.out])
      go_wp2
      go_ret
      exact ⟨ret_int (by rw [HRE.out]), BB.out⟩

end Go.Proofs.Ytelmdfkcclhhjaa
