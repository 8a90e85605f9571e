/- Lists of braids: how they lie in memory; the code for a list of braids (the program). -/
import Derived.Test.YtehcbamfendbaaaIs2
import Derived.Test.YtehcbamfendbaaaQA
import Derived.BigQuiet
namespace Go.Proofs.Ytehcbamfendbaaa
open Go.RowKit Go.ChangeShapes

/-- A braid with the slice of its letters. -/
structure BrV where
  s : Int
  a : Option Addr
  n : Nat
  cap : Nat
  xs : List Int

/-- The strands of the first braid. -/
def hdS (bs : List BrV) : Int := match bs with | [] => 0 | x :: _ => x.s

/-- The code for arguments that have to be braids of equally many strands. -/
def codeBs (bs : List BrV) : Int :=
  if bs.all (fun x => isBraid x.s x.xs) = true then (if bs.all (fun x => x.s == hdS bs) = true then 0 else 2) else 1

/-- The slice holds these braids. -/
def ReadsB (w : World) (ad : Option Addr) (m : Nat) (bs : List BrV) : Prop :=
  bs.length = m ∧ (m = 0 ∨ ∃ b off, ad = some ⟨b, off, none⟩ ∧ ∀ j (h : j < bs.length), w.cell? ⟨b, off + j * 2, none⟩ = some (.int .i64 bs[j].s) ∧ w.cell? ⟨b, off + j * 2 + 1, none⟩ = some (.slice bs[j].a bs[j].n bs[j].cap)) ∧
  ∀ x ∈ bs, Reads w x.a x.n x.xs ∧ x.n ≤ 1048576

theorem ReadsB.below {w w' : World} {ad : Option Addr} {m : Nat} {bs : List BrV} (h : ReadsB w ad m bs) (k : Below w.heap.size w w') : ReadsB w' ad m bs := by
  refine ⟨h.1, ?_, fun x hx => ⟨(h.2.2 x hx).1.below k, (h.2.2 x hx).2⟩⟩
  rcases h.2.1 with h0 | ⟨b, off, ha, hc⟩
  · exact .inl h0
  · refine .inr ⟨b, off, ha, fun j hj => ?_⟩
    obtain ⟨c0, c1⟩ := hc j hj
    exact ⟨(k.cell (World.block_lt_of_cell? _ _ c0)).trans c0, (k.cell (World.block_lt_of_cell? _ _ c1)).trans c1⟩

theorem ReadsB.alloc {w : World} {ad : Option Addr} {m : Nat} {bs : List BrV} (h : ReadsB w ad m bs) (o : Obj) : ReadsB (w.alloc o) ad m bs := h.below ((Below.refl _ _).alloc (Nat.le_refl _) o)

theorem hdS_at (bs : List BrV) (h : 0 < bs.length) : hdS bs = bs[0].s := by
  cases bs with
  | nil => simp at h
  | cons x r => rfl

set_option maxRecDepth 100000 in
set_option maxHeartbeats 1000000 in
theorem braidsCode_any (ad : Option Addr) (m cap : Nat) (bs : List BrV) (w : World) (hr : ReadsB w ad m bs) (hm : m ≤ 1048576) :
    Calls Try.prog 71 #[.slice ad m cap] w fun e w' => e = .returned (.int .i64 (codeBs bs)) ∧ Below w.heap.size w w' := by
  have HL := Lib.hid hr.1
  have HR := Lib.hid hr; clear hr
  go_enter Try.func71, Try.ntmps71
  go_wp2
  go_loopw [9] (fun i wr => ∃ k : Nat, k ≤ m ∧ i = .int .i64 (k : Int) ∧ Hid (∀ j (h : j < bs.length), j < k → isBraid bs[j].s bs[j].xs = true) ∧ Below w.heap.size w wr) (fun i _ => m - (intOf i).toNat)
  case atStart => exact ⟨0, Nat.zero_le _, rfl, Lib.hid (fun j h hj => by omega), Below.refl _ _⟩
  case round =>
    obtain ⟨k, hk, rfl, HA, bb⟩ := hrel
    have BB := Lib.hid bb; clear bb
    have RW := Lib.hid (HR.out.below BB.out)
    by_cases hlt : k < m
    · have hkl : k < bs.length := by rw [HL.out]; exact hlt
      obtain ⟨b, off, rfl, hc⟩ := RW.out.2.1.resolve_left (by omega)
      obtain ⟨c0, c1⟩ := hc k hkl
      obtain ⟨hx, hxn⟩ := RW.out.2.2 _ (List.getElem_mem hkl)
      have HX : Hid (∀ j (h : j < bs.length), j = k → bs[j] = bs[k]) := Lib.hid (fun j h e => by subst e; rfl)
      obtain ⟨x, hxe⟩ : ∃ x, x = bs[k] := ⟨_, rfl⟩
      rw [← hxe] at c0 c1 hx hxn HX
      have HIN : Hid (x ∈ bs) := Lib.hid (by rw [hxe]; exact List.getElem_mem hkl)
      clear hc hxe
      obtain ⟨s, a, n, cp, xs⟩ := x
      simp only at c0 c1 hx hxn
      have R := Lib.hid hx; clear hx
      by_cases hbr : isBraid s xs = true
      · go_wp2_with fail
        refine (implIsBraid_any _ _ _ _ xs _ (R.out.alloc _) hxn).mono ?_
        rintro e w1 ⟨rfl, hb⟩
        replace BB := Lib.hid (below_go (BB.out.alloc BB.out.size _) hb (by have := BB.out.size; simp; omega))
        clear hb c0 c1
        go_wp2
        go_roundw
        case rel =>
          exact ⟨k + 1, by omega, by go_num, Lib.hid (fun j h hj => by
            rcases Nat.lt_or_ge j k with hjk | hjk
            · exact HA.out j h hjk
            · rw [HX.out j h (by omega)]; exact hbr), BB.out⟩
        case measure => simp [intOf]; omega
      · have hb0 : isBraid s xs = false := by simpa using hbr
        have HC : Hid (codeBs bs = 1) := Lib.hid (by
          unfold codeBs
          rw [if_neg]
          intro h
          rw [List.all_eq_true] at h
          exact hbr (h _ HIN.out))
        clear hbr
        go_wp2_with fail
        refine (implIsBraid_any _ _ _ _ xs _ (R.out.alloc _) hxn).mono ?_
        rintro e w1 ⟨rfl, hb⟩
        replace BB := Lib.hid (below_go (BB.out.alloc BB.out.size _) hb (by have := BB.out.size; simp; omega))
        clear hb c0 c1
        go_wp2
        go_ret
        exact ⟨ret_int HC.out.symm, BB.out⟩
    · have hkm : k = m := by omega
      have HALL : Hid (bs.all (fun x => isBraid x.s x.xs) = true) := Lib.hid (by
        rw [List.all_eq_true]
        intro x hx
        obtain ⟨j, hj, rfl⟩ := List.getElem_of_mem hx
        exact HA.out j hj (by rw [hkm, ← HL.out]; exact hj))
      clear hkm HA
      go_wp2
      go_loopw [19] (fun i wr => ∃ k : Nat, k ≤ m ∧ i = .int .i64 (k : Int) ∧ Hid (∀ j (h : j < bs.length), j < k → bs[j].s = hdS bs) ∧ Below w.heap.size w wr) (fun i _ => m - (intOf i).toNat)
      case atStart => exact ⟨0, Nat.zero_le _, rfl, Lib.hid (fun j h hj => by omega), BB.out⟩
      case round =>
        obtain ⟨j, hj, rfl, HB, bb⟩ := hrel
        clear BB RW
        have BB := Lib.hid bb; clear bb
        have RW := Lib.hid (HR.out.below BB.out)
        by_cases hlt2 : j < m
        · have hjl : j < bs.length := by rw [HL.out]; exact hlt2
          obtain ⟨b, off, rfl, hc⟩ := RW.out.2.1.resolve_left (by omega)
          obtain ⟨c0, c1⟩ := hc j hjl
          obtain ⟨d0, _⟩ := hc 0 (by omega)
          rw [Nat.zero_mul, Nat.add_zero, ← hdS_at bs (by omega)] at d0
          have HX : Hid (∀ i (h : i < bs.length), i = j → bs[i] = bs[j]) := Lib.hid (fun i h e => by subst e; rfl)
          obtain ⟨x, hxe⟩ : ∃ x, x = bs[j] := ⟨_, rfl⟩
          rw [← hxe] at c0 c1 HX
          have HIN : Hid (x ∈ bs) := Lib.hid (by rw [hxe]; exact List.getElem_mem hjl)
          clear hc hxe
          obtain ⟨s, a, n, cp, xs⟩ := x
          simp only at c0 c1
          obtain ⟨h0, hh0⟩ : ∃ h0, h0 = hdS bs := ⟨_, rfl⟩
          rw [← hh0] at d0 HB
          have HH := Lib.hid hh0; clear hh0
          have hbl := World.block_lt_of_cell? _ _ d0
          simp only at hbl
          by_cases he : s = h0
          · have e1 : (s != h0) = false := by simp [he]
            go_wp2
            go_quiet (fail)
            go_wp2
            have hb5 := below_draws (wr.alloc (.cells #[.int .i64 s, .slice a n cp] 29)).heap.size (wr.alloc (.cells #[.int .i64 s, .slice a n cp] 29)) nq
            go_roundw
            case rel =>
              exact ⟨j + 1, by omega, by go_num, Lib.hid (fun i h hi => by
                rcases Nat.lt_or_ge i j with hij | hij
                · rw [← HH.out]; exact HB.out i h hij
                · rw [HX.out i h (by omega), ← HH.out]; exact he), (by first | exact below_go (BB.out.alloc BB.out.size _) hb5 (by have := BB.out.size; simp; omega) | exact (below_go BB.out (below_draws wr.heap.size wr nq) BB.out.size).alloc (by have := BB.out.size; simpa using this) _)⟩
            case measure => simp [intOf]; omega
          · have e1 : (s != h0) = true := by simp [he]
            have HC : Hid (codeBs bs = 2) := Lib.hid (by
              unfold codeBs
              rw [if_pos HALL.out, if_neg]
              intro h
              rw [List.all_eq_true] at h
              have := h _ HIN.out
              simp at this
              exact he (this.trans HH.out.symm))
            clear he
            go_wp2
            go_quiet (fail)
            go_wp2
            have hb5 := below_draws (wr.alloc (.cells #[.int .i64 s, .slice a n cp] 29)).heap.size (wr.alloc (.cells #[.int .i64 s, .slice a n cp] 29)) nq
            go_ret
            exact ⟨ret_int HC.out.symm, below_go (BB.out.alloc BB.out.size _) hb5 (by have := BB.out.size; simp; omega)⟩
        · have hjm : j = m := by omega
          have HC : Hid (codeBs bs = 0) := Lib.hid (by
            unfold codeBs
            rw [if_pos HALL.out, if_pos]
            rw [List.all_eq_true]
            intro x hx
            obtain ⟨i, hi, rfl⟩ := List.getElem_of_mem hx
            simp [HB.out i hi (by rw [hjm, ← HL.out]; exact hi)])
          clear hjm
          go_wp2
          go_ret
          exact ⟨ret_int HC.out.symm, BB.out⟩

/-- A list of two braids that the call makes. -/
theorem readsB_pair (w : World) (g : Nat) (hg : w.heap.size = g) (s t : Int) (a b : Option Addr) (n m c d : Nat) (xs ys : List Int) (hr : Reads w a n xs) (hn : n ≤ 1048576) (hr2 : Reads w b m ys) (hm : m ≤ 1048576) :
    ReadsB (w.alloc (.cells #[.int .i64 s, .slice a n c, .int .i64 t, .slice b m d] 29)) (some ⟨g, 0, none⟩) 2 [⟨s, a, n, c, xs⟩, ⟨t, b, m, d, ys⟩] := by
  subst hg
  refine ⟨rfl, .inr ⟨w.heap.size, 0, rfl, fun j hj => ?_⟩, fun x hx => ?_⟩
  · match j, hj with
    | 0, _ => exact ⟨by simp, by simp⟩
    | 1, _ => exact ⟨by simp, by simp⟩
  · simp at hx
    rcases hx with rfl | rfl
    · exact ⟨hr.alloc _, hn⟩
    · exact ⟨hr2.alloc _, hm⟩

theorem codeBs_pair (s t : Int) (a b : Option Addr) (n m c d : Nat) (xs ys : List Int) :
    codeBs [⟨s, a, n, c, xs⟩, ⟨t, b, m, d, ys⟩] = if isBraid s xs = true ∧ isBraid t ys = true then (if s = t then 0 else 2) else 1 := by
  unfold codeBs
  by_cases h1 : isBraid s xs = true <;> by_cases h2 : isBraid t ys = true <;> by_cases h3 : s = t <;> simp [h1, h2, h3, hdS]
  all_goals (intro h; exact absurd h.symm h3)

end Go.Proofs.Ytehcbamfendbaaa
