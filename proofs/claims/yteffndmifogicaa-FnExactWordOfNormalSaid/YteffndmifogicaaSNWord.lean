/- The word of a normal form: the model. -/
import Derived.Test.YteffndmifogicaaSNorm
import Derived.Test.YteffndmifogicaaMD
import Derived.Test.YteffndmifogicaaMC
import Derived.Test.YteffndmifogicaaNwP
namespace Go.Proofs.Yteffndmifogicaa
open Go.RowKit Go.ChangeShapes

theorem OwnV.low2 {B B' : Nat} {w : World} {v : Value} {n : Nat} {xs : List Int} (h : OwnV B w v n xs) (hB : B' ≤ B) : OwnV B' w v n xs := by
  obtain ⟨a, cap, rfl, ho⟩ := h.form
  exact ho.mono hB

/-- Where the model's loops have come to. -/
structure AtWord (w wr : World) (m : Nat) (p : Int) (a : Option Addr) (n cap : Nat) (ha : Option Addr) (hm : Nat) (half : List Int) (v : Value) (xs : List Int) : Prop where
  box : At3 wr w.heap.size (.int .i64 m) (.int .i64 p) (.slice a n cap)
  bel : Below w.heap.size w wr
  own : OwnV (w.heap.size + 1) wr v xs.length xs
  half : Reads wr ha hm half
  sep : Sep wr v ha

theorem AtWord.below {w wr W : World} {m : Nat} {p : Int} {a : Option Addr} {n cap : Nat} {ha : Option Addr} {hm : Nat} {half : List Int} {v : Value} {xs : List Int} (h : AtWord w wr m p a n cap ha hm half v xs) (hb : Below wr.heap.size wr W) : AtWord w W m p a n cap ha hm half v xs :=
  ⟨h.box.below hb, below_go h.bel hb h.bel.size, OwnV.drawn h.own hb, h.half.below hb, h.sep.below hb.size⟩

theorem AtWord.size {w wr : World} {m : Nat} {p : Int} {a : Option Addr} {n cap : Nat} {ha : Option Addr} {hm : Nat} {half : List Int} {v : Value} {xs : List Int} (h : AtWord w wr m p a n cap ha hm half v xs) : w.heap.size + 1 ≤ wr.heap.size := h.box.1

theorem AtWord.grown {w wr W : World} {m : Nat} {p : Int} {a : Option Addr} {n cap : Nat} {ha : Option Addr} {hm : Nat} {half : List Int} {v v' : Value} {xs ys : List Int} (h : AtWord w wr m p a n cap ha hm half v xs)
    (ho : OwnV (w.heap.size + 1) W v' (xs.length + ys.length) (xs ++ ys)) (hg : wr.grownBy W v.ownBlock) (hv : v'.ownBlock = v.ownBlock ∨ v'.ownBlock = some wr.heap.size) : AtWord w W m p a n cap ha hm half v' (xs ++ ys) :=
  ⟨h.box.heap hg.size (hg.block _ h.box.1 fun e => by have := (World.ownsRow.lt h.own _ e.symm).1; omega), below_own h.bel h.bel.size (Nat.le_succ _) h.own hg, by rw [List.length_append]; exact ho, h.half.sep h.sep hg, h.sep.grown hg hv⟩

set_option maxRecDepth 100000 in
set_option maxHeartbeats 2000000 in
theorem l03Word_any (m : Nat) (p : Int) (a : Option Addr) (n cap : Nat) (rs : List (List Int)) (w : World) (hr : ReadsA w a n rs) (hB : normB m p rs = true) :
    Calls Try.prog 49 #[.agg #[.int .i64 m, .int .i64 p, .slice a n cap]] w (fun e w' => ∃ a1 n1 c1, e = .returned (.slice a1 n1 c1) ∧ n1 ≤ 1048576 ∧ Own w.heap.size w' a1 n1 c1 (wordN m p rs) ∧ Below w.heap.size w w') := by
  obtain ⟨i0, hi, hz0, hz1, hz2⟩ := info_parts infoInt
  have HL := Lib.hid hr.len
  have H8 := Lib.hid hr.rows
  have HS := Lib.hid (norm_sims H8.out hB)
  obtain ⟨p1, p2, n2⟩ := norm_small hB
  rw [HL.out] at n2
  have m1 : 1 ≤ m := by have := ((normB_iff _ _ _).1 hB).1.1; omega
  have m8 : m ≤ 8 := by have := ((normB_iff _ _ _).1 hB).1.2; omega
  have R := Lib.hid hr
  clear hr hB
  obtain ⟨half, hhalf⟩ : ∃ half, half = takeR m [halfR m] := ⟨_, rfl⟩
  have HH := Lib.hid hhalf
  have HHL : Hid (half.length ≤ 196) := Lib.hid (by rw [hhalf]; exact word_len (halfR_sim m m1 m8))
  clear hhalf
  go_enter Try.func49, Try.ntmps49
  have A := Lib.hid (At3.place w (.int .i64 m) (.int .i64 p) (.slice a n cap) 28 w.heap.size rfl)
  have B := Lib.hid (below1 w (.cells #[.int .i64 m, .int .i64 p, .slice a n cap] 28))
  go_upto_region 1 with fail
  obtain ⟨W, hW⟩ : ∃ W, W = w.alloc (.cells #[.int .i64 m, .int .i64 p, .slice a n cap] 28) := ⟨_, rfl⟩
  have aa := A.out
  have bb := B.out
  rw [← hW] at aa bb ⊢
  clear A B
  have hs1 : w.heap.size + 1 ≤ W.heap.size := by rw [hW]; simp
  clear hW
  have A := Lib.hid aa
  have B := Lib.hid bb
  clear aa bb
  go_cut [3, 4] from 9 to 15 (fun s3 s4 wx => ∃ ha hm hc, s3 = .slice ha hm hc ∧ hm = half.length ∧ AtWord w wx m p a n cap ha hm half s4 [])
  case first =>
    have A0 := Lib.hid A.out.drew
    have hb0 : Below W.heap.size W W.drew := (Below.refl _ _).drew
    have A1 := Lib.hid (A.out.alloc (.cells #[] 2)).drew
    have hb1 : Below W.heap.size W (W.alloc (.cells #[] 2)).drew := ((Below.refl _ _).alloc (Nat.le_refl _) _).drew
    go_region_held3 (fun w' => w'.cell? ⟨w.heap.size, 0, none⟩ = some (.int .i64 m) ∧ w'.cell? ⟨w.heap.size, 1, none⟩ = some (.int .i64 p) ∧ w'.cell? ⟨w.heap.size, 2, none⟩ = some (.slice a n cap)) (first | with_reducible exact A0.out.cells | with_reducible exact A1.out.cells | with_reducible exact AK.out.cells | with_reducible exact (AK.out.alloc _).cells)
      (first
        | (go_at_call 79; refine (l02Half_any m m8 _).mono ?_; rintro e w3 ⟨rfl, gg⟩; (first | with_reducible have AK := Lib.hid (A0.out.below gg) | with_reducible have AK := Lib.hid (A1.out.below gg)))
        | (go_at_call 81; refine (l02Word_any m (halfR m) (halfR_sim m m1 m8) _).mono ?_; rintro e w4 ⟨ah, mh, ch, rfl, hl, ho, gh⟩; (first | with_reducible replace AK := Lib.hid (AK.out.below gh) | with_reducible replace AK := Lib.hid ((AK.out.alloc _).below gh))))
    · have zl := hl
      have hlen := ho.len
      go_wp2_with fail
      go_meet
      exact ⟨ah, mh, ch, rfl, by rw [HH.out]; exact hlen.symm, ⟨AK.out.alloc _, (below_go (below_go B.out.drew gg B.out.size) gh (Nat.le_trans B.out.size gg.size)).alloc (Nat.le_trans B.out.size (Nat.le_trans gg.size gh.size)) _, OwnV.low2 (OwnV.empty w4) (Nat.le_trans hs1 (Nat.le_trans gg.size gh.size)), by rw [HH.out]; exact ho.reads.alloc _, fun x hx => ⟨Nat.lt_of_lt_of_le (ho.lo x hx).2 (by simp), fun e => by have h1 := (ho.lo x hx).2; simp [Value.ownBlock] at e; omega⟩⟩⟩
    · have zl := hl
      have hlen := ho.len
      go_wp2_with fail
      go_meet
      have h3 : W.heap.size ≤ w3.heap.size := gg.size
      exact ⟨ah, mh, ch, rfl, by rw [HH.out]; exact hlen.symm, ⟨AK.out, below_go ((below_go B.out.drew gg B.out.size).alloc (Nat.le_trans B.out.size h3) _) gh (by simp; have := B.out.size; omega), OwnV.low2 (OwnV.drawn (OwnV.empty w3) gh) (Nat.le_trans hs1 h3), by rw [HH.out]; exact ho.reads, fun x hx => ⟨(ho.lo x hx).2, fun e => by have h1 := (ho.lo x hx).1; simp [Value.ownBlock] at e h1; omega⟩⟩⟩
    · have zl := hl
      have hlen := ho.len
      go_wp2_with fail
      go_meet
      have h3 : W.heap.size < w3.heap.size := by have := gg.size; simp at this; omega
      exact ⟨ah, mh, ch, rfl, by rw [HH.out]; exact hlen.symm, ⟨AK.out, below_go (below_go (B.out.alloc B.out.size _).drew gg (by simp; have := B.out.size; omega)) gh (by have := B.out.size; omega), OwnV.low2 (OwnV.drawn (OwnV.drawn (OwnV.drew (OwnV.empty W)) gg) gh) hs1, by rw [HH.out]; exact ho.reads, fun x hx => ⟨(ho.lo x hx).2, fun e => by have h1 := (ho.lo x hx).1; simp [Value.ownBlock] at e; omega⟩⟩⟩
  case rest =>
    obtain ⟨ha, hm, hc, rfl, rfl, hF⟩ := hcut
    clear A B
    have F := Lib.hid hF
    clear hF
    have HHS : Hid (∀ x ∈ half, 1 ≤ x ∧ x ≤ 8) := Lib.hid (by rw [HH.out]; intro x hx; have := takeF_letters m 200 _ x hx; omega)
    have hhl := HHL.out
    go_wp2
    go_loopg [4, 5] p.toNat (fun g v i wx => ∃ k : Nat, k ≤ p.toNat ∧ g + k = p.toNat ∧ i = .int .i64 k ∧ AtWord w wx m p a n cap ha half.length half v (repW k half))
    case atStart => exact ⟨0, Nat.zero_le _, rfl, rfl, F.out⟩
    case round =>
      obtain ⟨k, hk, hgk, rfl, hF⟩ := hrel
      clear F
      have F := Lib.hid hF
      clear hF
      obtain ⟨q1, q2, q3⟩ := F.out.box.cells
      have zb := F.out.box.1
      have HRL : Hid ((repW k half).length ≤ 39200) := Lib.hid (repW_small (k := 200) (by omega) HHL.out (by omega))
      by_cases hlt : (k : Int) < p
      · have hrl := HRL.out
        go_wp2_with (at_builtin; refine wpList_append_ints_at rfl _ _ 35 rfl (w.heap.size + 1) i0 Try.underlying35 hi hz0 hz1 hz2 _ _ _ rfl F.out.own _ _ _ half rfl F.out.half (by omega) (by omega) ?_)
        intro v' w2 ho' hg hv
        have F2 := Lib.hid (F.out.grown ho' hg hv)
        clear ho' hg hv q1 q2 q3
        go_wp2
        go_roundg (gk - 1)
        case measure => omega
        case rel => exact ⟨k + 1, by omega, by omega, by go_num, by rw [repW_succ]; exact F2.out⟩
      · have hkp : k = p.toNat := by omega
        subst hkp
        have HZ : Hid ((repW p.toNat half).length ≤ 39200) := HRL
        have hneg : p < 0 → p.toNat = 0 := by omega
        clear HRL hgk hk
        go_wp2
        clear q1 q2 q3 zb
        go_loopg [4, 6] (-p).toNat (fun g v i wx => ∃ k : Nat, k ≤ (-p).toNat ∧ g + k = (-p).toNat ∧ i = .int .i64 (p + k) ∧ AtWord w wx m p a n cap ha half.length half v (repW p.toNat half ++ repW k (inverse half)))
        case atStart => exact ⟨0, Nat.zero_le _, rfl, by go_num, by simpa [repW] using F.out⟩
        case round =>
          obtain ⟨k, hk, hgk, rfl, hF⟩ := hrel
          clear F
          have F := Lib.hid hF
          clear hF
          obtain ⟨q1, q2, q3⟩ := F.out.box.cells
          have zb := F.out.box.1
          have HRL : Hid ((repW k (inverse half)).length ≤ 39200) := Lib.hid (repW_small (k := 200) (by omega) (by rw [inverse_length]; exact HHL.out) (by omega))
          by_cases hlt2 : p + k < 0
          · obtain ⟨go, hgo⟩ : ∃ go, go = gk := ⟨_, rfl⟩
            go_wp2
            go_loopg [4, 7] half.length (fun g v i wx => ∃ j : Nat, j ≤ half.length ∧ g + j = half.length ∧ i = .int .i64 ((half.length : Int) - 1 - j) ∧ AtWord w wx m p a n cap ha half.length half v (repW p.toNat half ++ repW k (inverse half) ++ (inverse half).take j))
            case atStart => exact ⟨0, Nat.zero_le _, rfl, by go_num, by simpa using F.out⟩
            case round =>
              obtain ⟨j, hj, hgj, rfl, hF⟩ := hrel
              clear F
              have F := Lib.hid hF
              clear hF q1 q2 q3
              have HTL : Hid (((inverse half).take j).length ≤ 196) := Lib.hid (by have := HHL.out; rw [List.length_take]; omega)
              by_cases hlt3 : j < half.length
              · have hrl := HRL.out
                have hzl := HZ.out
                have htl := HTL.out
                have zb := F.out.box.1
                obtain ⟨X, hX⟩ : ∃ X, X = repW p.toNat half ++ repW k (inverse half) ++ (inverse half).take j := ⟨_, rfl⟩
                have hxl : X.length ≤ 80000 := by rw [hX]; simp only [List.length_append]; omega
                have f0 := F.out
                rw [← hX] at f0
                have HXX := Lib.hid hX
                clear hX F
                have F := Lib.hid f0
                clear f0
                obtain ⟨b, off, rfl, -, hcs⟩ := F.out.half.cells (by omega)
                obtain ⟨x, hx⟩ : ∃ x, x = half.getD (half.length - 1 - j) 0 := ⟨_, rfl⟩
                have hm := HHS.out _ (getD_mem half (half.length - 1 - j) (by omega))
                have h1 := hcs (half.length - 1 - j) (by omega)
                rw [← hx] at hm h1
                have HX := Lib.hid hx
                clear hx hcs
                obtain ⟨hm1, hm2⟩ := hm
                have hlo := HHL.out
                go_wp2_with (at_builtin; refine wpList_append_ints_at rfl _ _ 35 rfl (w.heap.size + 1) i0 Try.underlying35 hi hz0 hz1 hz2 _ _ _ rfl (F.out.below ((Below.refl _ _).alloc (Nat.le_refl _) _)).own _ _ _ [-x] rfl (reads_one _ _ _) (by omega) (by simp; omega) ?_)
                intro v' w2 ho' hg hv
                have F2 := Lib.hid ((F.out.below ((Below.refl _ _).alloc (Nat.le_refl _) _)).grown ho' hg (by simpa using hv))
                clear ho' hg hv
                go_wp2
                go_roundg (gk - 1)
                case measure => omega
                case rel =>
                  refine ⟨j + 1, by omega, by omega, by go_num, ?_⟩
                  rw [inverse_step half j hlt3, ← HX.out, ← List.append_assoc, ← HXX.out]
                  exact F2.out
              · have hje : j = half.length := by omega
                subst hje
                go_wp2
                go_roundg (go - 1)
                case measure => omega
                case rel =>
                  refine ⟨k + 1, by omega, by omega, by go_num, ?_⟩
                  rw [repW_succ, ← List.append_assoc]
                  have h9 := F.out
                  rw [List.take_of_length_le (show (inverse half).length ≤ half.length by rw [inverse_length]; exact Nat.le_refl _)] at h9
                  exact h9
          · have hkp : k = (-p).toNat := by omega
            subst hkp
            have HN : Hid ((repW (-p).toNat (inverse half)).length ≤ 39200) := HRL
            have HHD : Hid (repW p.toNat half ++ repW (-p).toNat (inverse half) = headW m p) := Lib.hid (by
              unfold headW
              rw [← HH.out]
              split
              · rw [show (-p).toNat = 0 by omega]; simp [repW]
              · rw [show p.toNat = 0 by omega]; simp [repW])
            clear HRL hgk hk
            go_wp2
            clear q1 q2 q3 zb
            go_loopg [4, 8] n (fun g v i wx => ∃ k : Nat, k ≤ n ∧ g + k = n ∧ i = .int .i64 k ∧ AtWord w wx m p a n cap ha half.length half v (repW p.toNat half ++ repW (-p).toNat (inverse half) ++ wordsR m rs k))
            case atStart => exact ⟨0, Nat.zero_le _, rfl, by go_num, by simpa [wordsR_zero] using F.out⟩
            case round =>
              obtain ⟨k, hk, hgk, rfl, hF⟩ := hrel
              clear F
              have F := Lib.hid hF
              clear hF
              obtain ⟨q1, q2, q3⟩ := F.out.box.cells
              have zb := F.out.box.1
              by_cases hlt4 : k < n
              · obtain ⟨b, off, rfl, hbl, hcl⟩ := R.out.cells (Nat.lt_of_le_of_lt (Nat.zero_le _) hlt4)
                obtain ⟨row, hrow⟩ : ∃ row, row = rowAt rs k := ⟨_, rfl⟩
                have HROW := Lib.hid hrow
                have SR : Hid (Sim m row) := Lib.hid (by rw [hrow]; exact HS.out k (by rw [HL.out]; exact hlt4))
                have HCP : Hid (∀ W, Below w.heap.size w W → Cells8 W b (off + k * 8) row) := Lib.hid fun W h => by rw [HROW.out]; exact fun i hi => (h.cell (by exact hbl)).trans (hcl k hlt4 i hi)
                clear hbl hcl hrow
                have hzl := HZ.out
                have hnl := HN.out
                have hwl := wordsR_len k (Nat.le_of_lt (by rw [HL.out]; exact hlt4)) HS.out
                go_wp2_with fail
                replace F := Lib.hid (F.out.below (Below.refl _ _).drew)
                clear q1 q2 q3
                refine wp_region_held_drew (S := (fun w' => (w'.cell? ⟨w.heap.size, 0, none⟩ = some (.int .i64 m) ∧ w'.cell? ⟨w.heap.size, 1, none⟩ = some (.int .i64 p) ∧ w'.cell? ⟨w.heap.size, 2, none⟩ = some (.slice (some ⟨b, off, none⟩) n cap)) ∧ (w'.cell? ⟨b, off + k * 8, none⟩ = some (.int .u8 (at8 row 0)) ∧ w'.cell? ⟨b, off + k * 8 + 1, none⟩ = some (.int .u8 (at8 row 1)) ∧ w'.cell? ⟨b, off + k * 8 + 2, none⟩ = some (.int .u8 (at8 row 2)) ∧ w'.cell? ⟨b, off + k * 8 + 3, none⟩ = some (.int .u8 (at8 row 3)) ∧ w'.cell? ⟨b, off + k * 8 + 4, none⟩ = some (.int .u8 (at8 row 4)) ∧ w'.cell? ⟨b, off + k * 8 + 5, none⟩ = some (.int .u8 (at8 row 5)) ∧ w'.cell? ⟨b, off + k * 8 + 6, none⟩ = some (.int .u8 (at8 row 6)) ∧ w'.cell? ⟨b, off + k * 8 + 7, none⟩ = some (.int .u8 (at8 row 7))))) (by kernel_rfl) ?_ (fun hHeld => ?_)
                · with_reducible exact ⟨F.out.box.cells, (HCP.out _ F.out.bel).flat⟩
                refine wpAnyH_take (i := 0) (oi := { dst := some 53, op := Op.move (Operand.tmp 4), type := 35, pos := "l03_normal.go:220", after := #[], guard := none }) (v := ?_) rfl (by kernel_rfl) (by kernel_rfl) (by kernel_rfl) (fun _ _ _ h => h) (Or.inl ⟨by rfl, ?_⟩) (by assumption) ?_
                rotate_left
                · intro w hSw
                  (try dsimp only at hSw)
                  go_simp
                  try with_reducible rfl
                try simp only [Act.put, List.setIfInBounds_toArray, List.set_cons_zero, List.set_cons_succ]
                refine wpAnyH_take (i := 1) (oi := { dst := some 54, op := Op.fieldAddr 28 (Operand.tmp 1) 0, type := 0, pos := "l03_normal.go:220", after := #[], guard := none }) (v := ?_) rfl (by kernel_rfl) (by kernel_rfl) (by kernel_rfl) (fun _ _ _ h => h) (Or.inl ⟨by rfl, ?_⟩) (by assumption) ?_
                rotate_left
                · intro w hSw
                  (try dsimp only at hSw)
                  go_simp
                  try with_reducible rfl
                try simp only [Act.put, List.setIfInBounds_toArray, List.set_cons_zero, List.set_cons_succ]
                refine wpAnyH_take (i := 2) (oi := { dst := some 55, op := Op.load 2 (Operand.tmp 54), type := 2, pos := "l03_normal.go:220", after := #[{ on := 1, ground := Ground.data }], guard := none }) (v := ?_) rfl (by kernel_rfl) (by kernel_rfl) (by kernel_rfl) (fun _ _ _ h => h) (Or.inl ⟨by rfl, ?_⟩) (by assumption) ?_
                rotate_left
                · intro w hSw
                  (try dsimp only at hSw)
                  go_simp
                  try with_reducible rfl
                try simp only [Act.put, List.setIfInBounds_toArray, List.set_cons_zero, List.set_cons_succ]
                refine wpAnyH_take (i := 3) (oi := { dst := some 56, op := Op.fieldAddr 28 (Operand.tmp 1) 2, type := 0, pos := "l03_normal.go:220", after := #[], guard := none }) (v := ?_) rfl (by kernel_rfl) (by kernel_rfl) (by kernel_rfl) (fun _ _ _ h => h) (Or.inl ⟨by rfl, ?_⟩) (by assumption) ?_
                rotate_left
                · intro w hSw
                  (try dsimp only at hSw)
                  go_simp
                  try with_reducible rfl
                try simp only [Act.put, List.setIfInBounds_toArray, List.set_cons_zero, List.set_cons_succ]
                refine wpAnyH_take (i := 4) (oi := { dst := some 57, op := Op.load 26 (Operand.tmp 56), type := 26, pos := "l03_normal.go:220", after := #[{ on := 3, ground := Ground.data }], guard := none }) (v := ?_) rfl (by kernel_rfl) (by kernel_rfl) (by kernel_rfl) (fun _ _ _ h => h) (Or.inl ⟨by rfl, ?_⟩) (by assumption) ?_
                rotate_left
                · intro w hSw
                  (try dsimp only at hSw)
                  go_simp
                  try with_reducible rfl
                try simp only [Act.put, List.setIfInBounds_toArray, List.set_cons_zero, List.set_cons_succ]
                refine wpAnyH_take (i := 5) (oi := { dst := some 58, op := Op.move (Operand.tmp 8), type := 3, pos := "l03_normal.go:220", after := #[], guard := none }) (v := ?_) rfl (by kernel_rfl) (by kernel_rfl) (by kernel_rfl) (fun _ _ _ h => h) (Or.inl ⟨by rfl, ?_⟩) (by assumption) ?_
                rotate_left
                · intro w hSw
                  (try dsimp only at hSw)
                  go_simp
                  try with_reducible rfl
                try simp only [Act.put, List.setIfInBounds_toArray, List.set_cons_zero, List.set_cons_succ]
                refine wpAnyH_take (i := 6) (oi := { dst := some 59, op := Op.indexAddr 26 (Operand.tmp 57) (Operand.tmp 58), type := 0, pos := "l03_normal.go:220", after := #[{ on := 4, ground := Ground.data }, { on := 5, ground := Ground.data }], guard := none }) (v := ?_) rfl (by kernel_rfl) (by kernel_rfl) (by kernel_rfl) (fun _ _ _ h => h) (Or.inl ⟨by rfl, ?_⟩) (by assumption) ?_
                rotate_left
                · intro w hSw
                  (try dsimp only at hSw)
                  go_simp
                  try with_reducible rfl
                try simp only [Act.put, List.setIfInBounds_toArray, List.set_cons_zero, List.set_cons_succ]
                refine wpAnyH_take (i := 7) (oi := { dst := some 60, op := Op.load 77 (Operand.tmp 59), type := 77, pos := "l03_normal.go:220", after := #[{ on := 6, ground := Ground.data }], guard := none }) (v := ?_) rfl (by kernel_rfl) (by kernel_rfl) (by kernel_rfl) (fun _ _ _ h => h) (Or.inl ⟨by rfl, ?_⟩) (by assumption) ?_
                rotate_left
                · intro w hSw
                  (try dsimp only at hSw)
                  go_simp
                  try with_reducible rfl
                try simp only [Act.put, List.setIfInBounds_toArray, List.set_cons_zero, List.set_cons_succ]
                refine wpAnyH_ready (rs := [8]) (by kernel_rfl) (by simp) ?_
                refine AllReadyH.cons (o := { dst := some 61, op := Op.call { callee := Callee.value (Operand.func 81), args := #[Operand.tmp 55, Operand.tmp 60], argTypes := #[2, 77] }, type := 35, pos := "l03_normal.go:220", after := #[{ on := 2, ground := Ground.data }, { on := 7, ground := Ground.data }], guard := none }) rfl (fun K hK => ?_) AllReadyH.nil
                go_simp
                (refine (l02Word_any m row SR.out _).mono ?_; rintro e w3 ⟨a1, mm, c1, rfl, hl, ho, gg⟩; replace F := Lib.hid (F.out.below gg); have HO := Lib.hid ho; obtain rfl : mm = (takeR m [row]).length := ho.len.symm; clear ho gg)
                go_wp2_with fail
                refine hK.out _ _ ?_ (fun hHeld => ?_)
                · with_reducible exact ⟨F.out.box.cells, (HCP.out _ F.out.bel).flat⟩
                clear hK K
                try simp only [Act.put, List.setIfInBounds_toArray, List.set_cons_zero, List.set_cons_succ]
                refine wpAnyH_ready (rs := [9]) (by kernel_rfl) (by simp) ?_
                refine AllReadyH.cons (o := { dst := some 62, op := Op.call { callee := Callee.builtin Builtin.append, args := #[Operand.tmp 53, Operand.tmp 61], argTypes := #[35, 35] }, type := 35, pos := "l03_normal.go:220", after := #[{ on := 0, ground := Ground.data }, { on := 8, ground := Ground.data }, { on := 8, ground := Ground.chain }], guard := none }) rfl (fun K hK => ?_) AllReadyH.nil
                refine step_append_ints_at rfl _ _ 35 rfl (w.heap.size + 1) i0 Try.underlying35 hi hz0 hz1 hz2 _ _ _ rfl F.out.own _ _ _ (takeR m [row]) rfl HO.out.reads (by simp only [List.length_append]; omega) F.out.size ?_
                intro v' w4 ho' hg hv
                replace F := Lib.hid (F.out.grown ho' hg hv)
                clear ho' hg hv
                refine hK.out _ _ ?_ (fun hHeld => ?_)
                · with_reducible exact ⟨F.out.box.cells, (HCP.out _ F.out.bel).flat⟩
                clear hK K
                try simp only [Act.put, List.setIfInBounds_toArray, List.set_cons_zero, List.set_cons_succ]
                refine wpAnyH_take (i := 10) (oi := { dst := some 4, op := Op.assign (Operand.tmp 62), type := 35, pos := "l03_normal.go:220", after := #[{ on := 9, ground := Ground.data }, { on := 9, ground := Ground.chain }, { on := 0, ground := Ground.phase }, { on := 1, ground := Ground.phase }, { on := 2, ground := Ground.phase }, { on := 3, ground := Ground.phase }, { on := 4, ground := Ground.phase }, { on := 5, ground := Ground.phase }, { on := 6, ground := Ground.phase }, { on := 7, ground := Ground.phase }, { on := 8, ground := Ground.phase }, { on := 9, ground := Ground.phase }], guard := none }) (v := ?_) rfl (by kernel_rfl) (by kernel_rfl) (by kernel_rfl) (fun _ _ _ h => h) (Or.inl ⟨by rfl, ?_⟩) (by assumption) ?_
                rotate_left
                · intro w hSw
                  (try dsimp only at hSw)
                  go_simp
                  try with_reducible rfl
                try simp only [Act.put, List.setIfInBounds_toArray, List.set_cons_zero, List.set_cons_succ]
                refine wpAnyH_done (by kernel_rfl) ?_ _
                go_wp2
                go_roundg (gk - 1)
                case measure => omega
                case rel =>
                  refine ⟨k + 1, by omega, by omega, by go_num, ?_⟩
                  rw [wordsR_succ m rs k (by rw [HL.out]; exact hlt4), ← HROW.out, ← List.append_assoc]
                  exact F.out
              · have hkn : k = n := by omega
                subst hkn
                go_wp2
                go_ret
                have h9 := F.out
                rw [HHD.out] at h9
                obtain ⟨a', c', rfl, ho'⟩ := h9.own.form
                have e1 := headW_len m p m1 m8 ⟨p1, p2⟩
                have e2 := wordsR_len k (Nat.le_of_eq HL.out.symm) HS.out
                exact ⟨a', _, c', rfl, by rw [List.length_append]; omega, by unfold wordN; rw [HL.out]; exact ho'.mono (Nat.le_succ _), F.out.bel⟩

end Go.Proofs.Yteffndmifogicaa
